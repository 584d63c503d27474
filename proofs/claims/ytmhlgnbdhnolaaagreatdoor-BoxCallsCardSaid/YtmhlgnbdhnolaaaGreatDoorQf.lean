/-
  Of no statement by itself: the texts BoxCl, Plain, FraYc, Elm, BoxN in one.
  Conditions: each theorem's own.
-/
import Derived.Test.YtmhlgnbdhnolaaaGreatDoorQe
import Derived.Test.YtmhlgnbdhnolaaaGreatDoorProg
import Derived.Test.YtmhlgnbdhnolaaaGreatDoorRows
import Derived.ProofKit
import Derived.OpenShut
import Derived.Below
import Derived.Stop.Joined
import Derived.ChangeMaps5
import Derived.Test.YtmhlgnbdhnolaaaGreatDoorTie
import Derived.SevenTiedAt
import Derived.LaidMore
import Derived.Lay
import Derived.Lib.LaidTab
import Derived.Deep.Slices
import Derived.Deep.SlicePairs
set_option linter.unusedSimpArgs false
set_option linter.unusedVariables false
namespace Go.Proofs.YtmhlgnbdhnolaaaGreatDoor
section
set_option maxRecDepth 10000
open Sl cY dy fI Bx
theorem An {sz i off : Nat} {L : List (List Value)} {v : Value} (h : ∀ c ∈ L,c.length=sz) (hi : i<L.length) (ho : off<sz) : L.flatten.set (i * sz+off) v=(L.set i ((L.getD i []).set off v)).flatten:=by
  have hfl:=bH h
  have hle : i * sz+sz≤L.flatten.length:=by rw [hfl,← Nat.succ_mul];exact Nat.mul_le_mul_right _ (by omega)
  have hci : (L.getD i []).length=sz:=h _ (by rw [List.getD_eq_getElem?_getD,List.getElem?_eq_getElem hi];exact List.getElem_mem _)
  have:=rT (sz':=1) (off:=off) (c:=[v]) h hi (by omega)
  rw [List.set_eq_take_append_cons_drop,if_pos (by omega),List.set_eq_take_append_cons_drop (l:=L.getD i []),if_pos (by omega)]
  simpa using this
theorem B7 {L : List (List Value)} {i : Nat} (v : Value) (h : ∀ c ∈ L,c.length=3) (hi : i<L.length) : L.flatten.set (i * 3+1) v=(L.set i ((L.getD i []).set 1 v)).flatten:=An h hi (by decide)
theorem dU : dP Tryz.prog 9=true:=by kernel_rfl
theorem OQ.B8 {P : Program} {n : Nat} {E : Env} {C : World→Prop} {dst : Option Tmp} {t t' ty : TypeId} {pos : String} {aft : Array Edge} {g : Option (Nat × Bool)} {x y : Operand} {a : Bool} (hu : P.underlying t=some .bool) (hx : ev E x=some (.bool a)) (hy : ev E y=some (.bool a)) : OQ P n E C ⟨dst,.binOp .neq t x y t',ty,pos,aft,g⟩ (.bool false):=
  OQ.run fun c ha w _=>by
    have h1:=ha.eval hx
    have h2:=ha.eval hy
    have h3 : ∀ w,(underlying t).run P w=.ok .bool w:=run_underlying hu
    have h4 : (binOp .neq t (.bool a) (.bool a)).run P w=.ok (.bool false) w:=by
      show (do pure (.bool (!(← Op.equalIn (9999+1) t (.bool a) (.bool a)))) : Sem Value).run P w=_
      unfold Op.equalIn
      simp [Sem.run_bind,h3]
    simp [execOp,h1,h2,eqGuard,h4]
def Dj {x : Bz} {af : List Bk} {vs : VL} {R : Rb} {n : Nat} {f b : Bk} : Option (nB x af vs R n f b)→Nat
  | none=>0
  | some r=>r.uid
def Dl {x : Bz} {af : List Bk} {vs : VL} {R : Rb} {n : Nat} {f b : Bk} : Option (nB x af vs R n f b)→Nat
  | none=>0
  | some r=>r.code
def Es {x : Bz} {af : List Bk} {vs : VL} {R : Rb} {n : Nat} {f b : Bk} (o : Option (nB x af vs R n f b)) : Value:=.tuple #[N (Dj o),N (Dl o)]
def Et (x : Bz) {af : List Bk} {vs : VL} {R : Rb} {n : Nat} {f b : Bk} : Option (nB x af vs R n f b)→List ai
  | none=>[]
  | some r=>(Bz.mk x.b r.z').E
abbrev Eu (x : Bz) (af : List Bk) (vs : VL) (R : Rb) (n : Nat) (f b : Bk):=(B5 b × Nat) × Option (nB x af vs R n f b)
theorem B9 {R : Rb} {f : Bk} (h : jW R f=[]) : R.aX f=R:=by
  unfold jW at h
  rw [List.map_eq_nil_iff,List.filter_eq_nil_iff] at h
  show Rb.mk (R.ms.filter fun m=>!goes f m) R.nx=R
  rw [List.filter_eq_self.2 fun m hm=>by simpa using h m hm]
section
variable {n : Nat} {w0 : World} {S : List Nat} {ops : Array Oper} {Q : Exit→Act→World→Prop} {l : List Oper} {E : Env} {M MF : List ai}
variable {d : Nat} {t ty : TypeId} {pos : String} {aft : Array Edge} {x1 x2 x3 : Operand} {ats : Array TypeId} {x : Bz} {af : List Bk} {vs : VL} {R : Rb} {nd : Nat} {f b : Bk} {z : Rx} {s : aC}
theorem vU {q : B5 b} (k : x.ok af vs R nd) (hn : nd+1≤1000000) (hf : f.length<1000000000000000) (hl : b.length≤2000000) (hT : dS S w0) (e1 : ev E x1=some (Pt x.b 0)) (e2 : ev E x2=some (Z f)) (e3 : ev E x3=some (ah q.1 b.length)) (hd : Nat.blt d n=true)
    (kk : ∀ r : nB x af vs R nd f b,JL Tryz.prog n w0 S ops Q l ((d,.tuple #[N r.uid,N r.code])::E) ((Bz.mk x.b r.z').E++(aa 5 q.1 (b.map U8)++M))) : JL Tryz.prog n w0 S ops Q (⟨some d,.call ⟨.value (.func 11),#[x1,x2,x3],ats⟩,ty,pos,aft,none⟩::l) E (x.E++(aa 5 q.1 (b.map U8)++M)):=by
  obtain ⟨q,hq⟩:=q
  dsimp only at e3 kk ⊢
  have h1:=gI hq
  have h2:=iT q b
  have h3 : ∀ (w : World),Holds w0 S (x.E++(aa 5 q (b.map U8)++M)) w→(aI q b).ok w∧gw (aI q b) (keys x.E):=fun w hw=>by
    refine ⟨fR (M:=M) (hw.weak (av _ (aj.refl _))),?_⟩
    intro _ a ea
    cases q with
    | none=>cases ea
    | some p=>
      cases ea
      exact cr (b:=p.1) hw .here
  generalize aI q b=s at h1 h2 h3
  subst h1
  exact JL.mY (s:=s) k hn hf hl hT h3 e1 e2 (by rw [e3,h2]) hd kk
theorem JL.DX (k : z.ok R) (hn : R.ms.length≤1000000) (hx : R.nx.length≤1000000) (hu : ∀ x ∈ R.nx,x.2≤1000001) (hsl : s.l.length≤1000000) (hs : ∀ w,Holds w0 S (z.E R++M) w→s.ok w∧gw s (keys (z.E R))) (e1 : ev E x1=some (Pt z.p 0)) (e2 : ev E x2=some (Z f)) (e3 : ev E x3=some s.v) (hd : Nat.blt d n=true)
    (kk : ∀ r : tC z (R.aD f s.l),JL Tryz.prog n w0 S ops Q l ((d,.tuple #[])::E) (r.z'.E (R.aD f s.l)++M)) : JL Tryz.prog n w0 S ops Q (⟨some d,.call ⟨.value (.func 12),#[x1,x2,x3],ats⟩,ty,pos,aft,none⟩::l) E (z.E R++M):=
  JL.bE (ι:=tC z (R.aD f s.l)) (xs:=[x1,x2,x3]) (vs:=[Pt z.p 0,Z f,s.v]) (fun _=>.tuple #[]) (fun r=>r.z'.E (R.aD f s.l)) nh (by simp [gr,e1,e2,e3]) hd (z.wr R) (fun r=>r.z'.wr _)
    (fun w h0 hw=>nE z R k f s hn hx hu hsl w hw (hs w h0).1 (hs w h0).2) kk
theorem JL.DY (k : z.ok R) (hn : R.ms.length≤1000000) (hfl : ∀ m ∈ R.ms,m.fl<16) (e1 : ev E x1=some (Pt z.p 0)) (e2 : ev E x2=some (Z f)) (hd : Nat.blt d n=true)
    (kk : ∀ r : tC z (R.aX f),JL Tryz.prog n w0 S ops Q l ((d,.tuple #[])::E) (r.z'.E (R.aX f)++M)) : JL Tryz.prog n w0 S ops Q (⟨some d,.call ⟨.value (.func 16),#[x1,x2],ats⟩,ty,pos,aft,none⟩::l) E (z.E R++M):=
  JL.bE (ι:=tC z (R.aX f)) (xs:=[x1,x2]) (vs:=[Pt z.p 0,Z f]) (fun _=>.tuple #[]) (fun r=>r.z'.E (R.aX f)) nj (by simp [gr,e1,e2]) hd (z.wr R) (fun r=>r.z'.wr _)
    (fun w _ hw=>nF z R k f hn hfl w hw) kk
theorem JL.Ca (k : z.ok R) (hfl : ∀ m ∈ R.ms,m.fl<16) (hn : R.ms.length≤1000000) (e1 : ev E x1=some (Pt z.p 0)) (e2 : ev E x2=some (Z f)) (e3 : ev E x3=some (N 0)) (hd : Nat.blt d n=true)
    (kk : ∀ q : Nat × Nat,JL Tryz.prog n w0 S ops Q l ((d,(cV (some q) (R.list f)).v)::E) (aa 3 (some q) (au (R.list f))++(z.E R++M))) : JL Tryz.prog n w0 S ops Q (⟨some d,.call ⟨.value (.func 14),#[x1,x2,x3],ats⟩,ty,pos,aft,none⟩::l) E (z.E R++M):=
  JL.AV (f:=f) (fg:=0) k (.inl rfl) hfl hn e1 e2 e3 hd fun q=>by
    have:=kk q
    rw [mX (q:=some q) nofun] at this
    rw [C9]
    exact this
theorem JL.Cb (k : z.ok R) (hfl : ∀ m ∈ R.ms,m.fl<16) (hn : R.ms.length≤1000000) (e1 : ev E x1=some (Pt z.p 0)) (e2 : ev E x2=some (Z f)) (e3 : ev E x3=some (N 4)) (hd : Nat.blt d n=true)
    (kk : ∀ q : Nat × Nat,JL Tryz.prog n w0 S ops Q l ((d,(cV (some q) (jW R f)).v)::E) (aa 3 (some q) (au (jW R f))++(z.E R++M))) : JL Tryz.prog n w0 S ops Q (⟨some d,.call ⟨.value (.func 14),#[x1,x2,x3],ats⟩,ty,pos,aft,none⟩::l) E (z.E R++M):=
  JL.AV (f:=f) (fg:=4) k (.inr rfl) hfl hn e1 e2 e3 hd fun q=>by
    have:=kk q
    rw [mX (q:=some q) nofun] at this
    rw [Da]
    exact this
theorem yB {q : Acc} {q2 : Nat × Nat} {L : List Nat} {X Y : List ai} {w0 w' : World} (hq : q=none→L=[]) (hL : L.length<9223372036854775808) (hw : Holds w0 S (((aa 3 q (au L)++X)++((aa 3 (some q2) (au L)++Y)++[]))++MF) w') :
    Calls Tryz.prog 17 [(cV q L).v,(cV (some q2) L).v].toArray w' fun e w2=>e=.returned (.bool true)∧Ext w' w2:=by
  have h1 : (cV q L).ok w':=jR (M:=X++(((aa 3 (some q2) (au L)++Y)++[])++MF)) (hw.weak (by simp only [List.append_assoc];exact aj.refl _))
  have h2 : (cV (some q2) L).ok w':=jR (M:=Y++([]++MF)) (hw.weak (by simp only [List.append_assoc];exact av _ (av _ (aj.refl _))))
  have:=pq (cV q L) (cV (some q2) L) w' h1 h2 (by rw [hU hq,List.length_map];omega) (by rw [hU (q:=some q2) nofun,List.length_map];omega)
  rw [uA (q2:=some q2) hq nofun,decide_eq_true rfl] at this
  exact this
instance (L : List Nat) : Inhabited {q : Acc // q=none→L=[]}:=⟨⟨some (0,0),nofun⟩⟩
theorem DZ (X MF : List ai) : (X++[])++MF=X++MF:=by rw [List.append_nil]
theorem EK (X Y MF : List ai) : (X++(Y++[]))++MF=X++(Y++MF):=by rw [List.append_nil,List.append_assoc]
theorem EL (X Y MF : List ai) : X++(Y++MF)=X++((Y++[])++MF):=by rw [List.append_nil]
theorem Ev (X Y MF : List ai) : X++(Y++MF)=(X++Y)++([]++MF):=by rw [List.nil_append,List.append_assoc]
theorem EM (X Y MF : List ai) : (X++(Y++[]))++MF=(X++Y)++([]++MF):=by rw [List.append_nil,List.nil_append]
theorem EN (X MF : List ai) : (X++[])++MF=X++([]++MF):=by rw [List.append_nil,List.nil_append]
theorem EO (A X B Y MF : List ai) : ((((A++X)++(B++Y))++[])++MF).Perm (X++(A++((B++Y)++MF))):=eS fun _ _ y=>by simp only [List.count_append,List.count_nil];omega
theorem EP (A X B Y MF : List ai) : (X++(A++((B++Y)++MF))).Perm (((A++X)++(B++Y))++([]++MF)):=eS fun _ _ y=>by simp only [List.count_append,List.count_nil];omega
theorem ER (A X B Y MF : List ai) : ((((A++X)++(B++Y))++[])++MF).Perm (Y++((A++X)++(B++MF))):=eS fun _ _ y=>by simp only [List.count_append,List.count_nil];omega
theorem ES (A X B Y MF : List ai) : (Y++((A++X)++(B++MF))).Perm (((A++X)++(B++Y))++([]++MF)):=eS fun _ _ y=>by simp only [List.count_append,List.count_nil];omega
theorem D2 (Q Z X B : List ai) : (Q++(Z++(X++B))).Perm (X++(Q++(Z++B))):=eS fun _ _ y=>by simp only [List.count_append];omega
theorem D3 (P X Q Z B : List ai) : (P++(X++(Q++(Z++B)))).Perm (Z++(X++(B++(P++Q)))):=eS fun _ _ y=>by simp only [List.count_append];omega
theorem yC {M N : List ai} {b : Nat} {A : Obj→Prop} {wr : Bool} (h : Has M b A wr) : Has (M++N) b A wr:=by
  induction h with
  | here=>exact .here
  | there _ ih=>exact .there ih
theorem Ao {q : Acc} {q2 : Nat × Nat} {L : List Nat} {w' : World} (hq : q=none→L=[]) (hL : L.length<9223372036854775808) (h1 : (cV q L).ok w') (h2 : (cV (some q2) L).ok w') :
    Calls Tryz.prog 17 [(cV q L).v,(cV (some q2) L).v].toArray w' fun e w2=>e=.returned (.bool true)∧Ext w' w2:=by
  have:=pq (cV q L) (cV (some q2) L) w' h1 h2 (by rw [hU hq,List.length_map];omega) (by rw [hU (q:=some q2) nofun,List.length_map];omega)
  rw [uA (q2:=some q2) hq nofun,decide_eq_true rfl] at this
  exact this
theorem Ap (R : Rb) (f b : Bk) : (R.aD f b).nx.length≤R.nx.length+1:=by
  rw [ng]
  split
  · rw [lD];omega
  · rw [List.length_append,lD];exact Nat.le_refl _
theorem Dg {rm : Nat × Nat} {i0 fl : Nat} {y1 y2 : Operand} (k : z.ok R) (hi : i0<R.ms.length) (e1 : ev E y1=some (Pt rm.1 (0+i0 * 3+1))) (e2 : ev E y2=some (N fl))
    (kk : JL Tryz.prog n w0 S ops Q l E (aY 46 3 (some rm) ((z.ms R).set i0 (((z.ms R).getD i0 []).set 1 (N fl)))++([]++MF))) : JL Tryz.prog n w0 S ops Q (⟨none,.store 3 y1 y2,ty,pos,aft,none⟩::l) E ((aY 46 3 (some rm) (z.ms R)++[])++MF):=by
  have hl:=Rx.Ag k
  have hs : ((z.ms R).set i0 (((z.ms R).getD i0 []).set 1 (N fl))).length=(z.ms R).length:=List.length_set
  refine JL.less (M':=⟨rm.1,Sl.Own 46 3 (z.ms R).length rm.2 (z.ms R).flatten,true⟩::MF) (by exact aj.refl _) ?_
  have h0 : (z.ms R).flatten.length=(z.ms R).length * 3:=bH (Rx.AT z R)
  refine JL.store (b:=rm.1) (j:=i0 * 3+1) (by rw [e1,Nat.zero_add]) e2 nA rfl rfl .here (A':=Sl.Own 46 3 (z.ms R).length rm.2 ((z.ms R).set i0 (((z.ms R).getD i0 []).set 1 (N fl))).flatten) ?_ ?_
  · rintro ob ⟨sp,rfl,h2,h3,h4⟩
    have he:=B7 (N fl) (Rx.AT z R) (show i0<(z.ms R).length by omega)
    refine ⟨_,_,rfl,by simp only [List.size_toArray,List.length_append];omega,sp,?_,by rw [← he,List.length_append,List.length_set];simpa using h2,by rw [← he,List.length_set];exact h3,h4⟩
    rw [← he,List.setIfInBounds_toArray,List.set_append_left _ _ (by omega)]
  · rw [List.nil_append] at kk
    have e : aY 46 3 (some rm) ((z.ms R).set i0 (((z.ms R).getD i0 []).set 1 (N fl)))=[⟨rm.1,Sl.Own 46 3 (z.ms R).length rm.2 ((z.ms R).set i0 (((z.ms R).getD i0 []).set 1 (N fl))).flatten,true⟩]:=by
      show [(⟨rm.1,Sl.Own 46 3 _ rm.2 _,true⟩ : ai)]=_
      rw [hs]
    rw [e] at kk
    exact kk
end
theorem nk {s : aC} : ∀ {l : List aC},s ∈ l→aj s.dQ (ay l)
  | [],h=>by cases h
  | a::l,h=>by
    show aj _ (a.dQ++ay l)
    rcases List.mem_cons.1 h with rfl | h
    · exact ax _ _
    · exact av _ (nk h)
theorem Rx.byte {z : Rx} {R : Rb} (k : z.ok R) {i : Nat} {s : aC} (h : z.ss[i]?=some s) {w0 w : World} {S : List Nat} {M : List ai} (hM : aj (z.E R) M) (hw : Holds w0 S M w) : s.ok w:=by
  have hs:=List.mem_of_getElem? h
  have h1 : aj (ay z.ss) (z.E R):=by
    unfold Rx.E
    exact .drop _ _ _ (av _ (av _ (av _ (av _ (aj.refl _)))))
  exact aC.oH (M:=[]) (((hw.weak hM).weak h1).weak (by rw [List.append_nil];exact nk hs)) (k.h0 s hs)
structure nu where
  i : Nat
  x : Bz
  af : List Bk
  vs : VL
  R : Rb
  nd : Nat
  z : Rx
structure nu.ok (p0 zp len : Nat) (s : nu) : Prop where
  i : s.i≤len
  k : s.x.ok s.af s.vs s.R s.nd
  kz : s.z.ok s.R
  zp : s.z.p=zp
  nd : s.nd≤s.i
  ms : s.R.ms.length≤s.i
  nx : s.R.nx.length≤s.i
  bl : ∀ m ∈ s.R.ms,m.b.length≤100
  sv : iA s.vs≤300 * s.i
  sz : s.x.z.h.size=2000
  hp : s.x.z.h.x.p=p0
  hg : s.x.z.h.g.toNat≤3 * s.i+5
theorem vV {z : Rx} {R : Rb} {nd : Nat} (k : R.ok nd) (kz : z.ok R) {f : Bk} {u : Int} {fl i0 : Nat} {m : Ml} (hm : R.ms[i0]?=some m) (hfi : R.find f u=some m) :
    z.ok (R.mark f u fl)∧z.cs (R.mark f u fl)=z.cs R∧z.ms (R.mark f u fl)=(z.ms R).set i0 (((z.ms R).getD i0 []).set 1 (N fl))∧(R.mark f u fl).ms.map (fun m=>Z m.f)=R.ms.map fun m=>Z m.f:=by
  have hf:=dm hfi
  have hs:=yx (fl:=fl) k hm hf.2
  have hi:=(List.getElem?_eq_some_iff.1 hm).1
  obtain ⟨s,h1,h2,h3⟩:=Rx.at kz hm
  have hl : (R.mark f u fl).ms.length=R.ms.length:=by rw [← hs,List.length_set]
  have hme : R.ms[i0]=m:=by have:=List.getElem?_eq_getElem hi;rw [hm] at this;exact (Option.some.inj this).symm
  have hb : (R.mark f u fl).ms.map Ml.b=R.ms.map Ml.b:=by
    rw [← hs,List.map_set]
    apply List.ext_getElem?
    intro j
    rw [List.getElem?_set]
    by_cases h : i0=j
    · subst h;rw [if_pos rfl,if_pos (by rw [List.length_map];exact hi),List.getElem?_map,hm];rfl
    · rw [if_neg h]
  refine ⟨⟨by rw [hb];exact kz.ss,kz.h0,fun e=>?_,fun e=>?_,kz.qn,kz.qx⟩,?_,?_,?_⟩
  · exact List.length_eq_zero_iff.1 (by rw [hl,kz.qi e];rfl)
  · exact List.length_eq_zero_iff.1 (by rw [hl,kz.qm e];rfl)
  · unfold Rx.cs
    rw [hl]
    rfl
  · have e1 : ((z.ms R).getD i0 []).set 1 (N fl)=cm m.u fl s:=by rw [h3];rfl
    rw [e1]
    unfold Rx.ms
    rw [← hs]
    apply List.ext_getElem?
    intro j
    rw [List.getElem?_zipWith,List.getElem?_set,List.getElem?_set,List.getElem?_zipWith]
    by_cases h : i0=j
    · subst h
      have hz : i0<(List.zipWith (fun (m : Ml) s=>cm m.u m.fl s) R.ms z.ss).length:=by have:=Rx.Ag kz;unfold Rx.ms at this;omega
      rw [if_pos rfl,if_pos hi,if_pos rfl,if_pos hz,h1]
    · rw [if_neg h,if_neg h]
  · rw [← hs,List.map_set]
    apply List.ext_getElem?
    intro j
    rw [List.getElem?_set]
    by_cases h : i0=j
    · subst h;rw [if_pos rfl,if_pos (by rw [List.length_map];exact hi),List.getElem?_map,hm];rfl
    · rw [if_neg h]
set_option maxHeartbeats 64000000 in
theorem pH (calls : uC) (name : Bk) (w : World) (hs : calls.ok w) (hname : name.length<9223372036854775808) (hT : eY w) : Calls Tryz.prog 3 [calls.v,Z name].toArray w fun e w'=>e=.returned (.bool true)∧Ext w w':=by
  refine enter (n:=267) Tryz.func3 rfl rfl rfl (Holds.start w []) ?_
  have hTA : dS [] w:=⟨hT,by simp⟩
  have hsp:=fun (w' : World) (h : Holds w [] [] w')=>pG w' (hT.bf (by simp) h.bf)
  repeat (first | refine JL.q (by first|(apply OQ.aF (vs:=[]);exact nD;rfl;exact hsp)|(apply OQ.not;rfl)|(apply OQ.assign;rfl)) rfl ?_ | refine JC.seq ?_ | refine JC.region ?_ | refine JL.nil ?_ | refine JE.next ?_)
  refine JC.cond_false rfl rfl ?_
  obtain ⟨g3,hg3⟩ : ∃ g3,decide ((60 : Int)<(calls.l.length : Int))=g3:=⟨_,rfl⟩
  cases g3
  case true=>
    repeat (first | refine JL.q (by first|(apply OQ.len (k:=calls.l.length) (ad:=calls.ad) (cap:=calls.cap);exact Tryz.underlying22;rfl)|(apply OQ.cD (b:=60);rfl;rfl;exact hg3)|(apply OQ.move;rfl)) rfl ?_ | refine JC.seq ?_ | refine JC.region ?_ | refine JC.skip ?_ | refine JL.nil ?_ | refine JE.next ?_)
    refine JC.cond_true rfl rfl ?_
    repeat (first | refine JL.q (by (apply OQ.assign;rfl)) rfl ?_ | refine JC.seq ?_ | refine JC.region ?_ | refine JL.nil ?_ | refine JE.next ?_)
    refine JC.ret ?_
    repeat (refine JE.aA ?_)
    exact JE.aR rfl (RV.tmp rfl) fun w' hw=>⟨rfl,hw.bf⟩
  have h60 : calls.l.length≤60:=by have:=of_decide_eq_false hg3;omega
  repeat (first | refine JL.q (by first|(apply OQ.len (k:=calls.l.length) (ad:=calls.ad) (cap:=calls.cap);exact Tryz.underlying22;rfl)|(apply OQ.cD (b:=60);rfl;rfl;exact hg3)|(apply OQ.move;rfl)) rfl ?_ | refine JC.seq ?_ | refine JC.region ?_ | refine JC.skip ?_ | refine JL.nil ?_ | refine JE.next ?_)
  refine JC.cond_false rfl rfl ?_
  repeat (first | refine JL.q (by first|(apply OQ.len (k:=calls.l.length) (ad:=calls.ad) (cap:=calls.cap);exact Tryz.underlying22;rfl)|(apply OQ.move;rfl)) rfl ?_ | refine JC.seq ?_ | refine JC.region ?_ | refine JC.block ?_ | refine JC.skip ?_ | refine JL.nil ?_ | refine JE.next ?_)
  refine JC.loop (fun i : Nat=>[(0,calls.v),(1,Z name),(28,calls.v),(29,N calls.l.length),(30,N i)]) (fun _=>[]) (fun i=>calls.l.length - i) (fun i=>i≤calls.l.length∧∀ j,j<i→(calls.l.getD j dG).s.l.length≤100∧(calls.l.getD j dG).f.length≤100) 0 ⟨Nat.zero_le _,by simp⟩ (by repeat (first | exact ag.nil | refine ag.cons _ _ _ rfl ?_)) (aj.refl _) ?_
  rintro i ⟨hi,hsm⟩
  repeat (first | refine JL.q (by (apply OQ.dX;rfl;rfl)) rfl ?_ | refine JC.seq ?_ | refine JC.region ?_ | refine JL.nil ?_ | refine JE.next ?_)
  refine JC.cond rfl (fun h=>?_) (fun h=>?_)
  · have hi' : i<calls.l.length:=by have:=of_decide_eq_true h;omega
    clear h
    obtain ⟨b,j,e,lb,hcell⟩:=hs.at hi'
    obtain ⟨c,hc⟩ : ∃ c,calls.l.getD i dG=c:=⟨_,rfl⟩
    rw [hc] at hcell
    have hsv : calls.v=.slice (some ⟨b,j,none⟩) calls.l.length calls.cap:=by rw [← e];rfl
    rw [hsv]
    repeat (first | refine JL.q (by first|(apply OQ.fc (i:=i);exact Tryz.underlying22;exact Cl;rfl;rfl;exact hi')|(apply OQ.dV (cs:=c.cs);exact Db;rfl;exact Cl;exact lb;exact (by simp);exact hcell)) rfl ?_ | refine JC.seq ?_ | refine JC.region ?_ | refine JC.block ?_ | refine JC.skip ?_ | refine JE.next ?_)
    refine JL.alloc Eo rfl fun b6 _=>?_
    refine JL.aq (cs:=c.cs) Cl rfl rfl rfl (by rfl) .here rfl ?_
    rw [← hsv]
    have hc4 : ∀ o,Row 26 c.cs o→cellAt o 4=some c.s.v:=Row.cell rfl
    have hc3 : ∀ o,Row 26 c.cs o→cellAt o 3=some (Z c.f):=Row.cell rfl
    obtain ⟨g4,hg4⟩ : ∃ g4,decide ((100 : Int)<(c.s.l.length : Int))=g4:=⟨_,rfl⟩
    obtain ⟨g5,hg5⟩ : ∃ g5,decide ((100 : Int)<(c.f.length : Int))=g5:=⟨_,rfl⟩
    cases g4
    case true=>
      repeat (first | refine JL.q (by first|(apply OQ.load;exact rq;rfl;exact .here;exact hc4)|(apply OQ.len (k:=c.s.l.length) (ad:=c.s.ad) (cap:=c.s.cap);exact Tryz.underlying24;rfl)|(apply OQ.cD (b:=100);rfl;rfl;exact hg4)|(apply OQ.aS;rfl;rfl)|(apply OQ.move;rfl)|(apply OQ.aV;rfl;rfl;rfl;exact (by decide);rfl)) rfl ?_ | refine JC.seq ?_ | refine JC.region ?_ | refine JL.nil ?_ | refine JE.next ?_ | refine JL.bC rfl rfl rfl rfl ?_)
      refine JC.cond_true rfl rfl ?_
      repeat (first | refine JL.q (by (apply OQ.assign;rfl)) rfl ?_ | refine JC.seq ?_ | refine JC.region ?_ | refine JL.nil ?_ | refine JE.next ?_)
      refine JC.ret ?_
      repeat (first | refine JE.aA ?_ | refine JE.bV ?_)
      exact JE.aR rfl (RV.tmp rfl) fun w' hw=>⟨rfl,hw.bf⟩
    cases g5
    case true=>
      repeat (first | refine JL.q (by first|(apply OQ.load;exact rq;rfl;exact .here;exact hc4)|(apply OQ.len (k:=c.s.l.length) (ad:=c.s.ad) (cap:=c.s.cap);exact Tryz.underlying24;rfl)|(apply OQ.cD (b:=100);rfl;rfl;exact hg4)|(apply OQ.load;exact dU;rfl;exact .here;exact hc3)|(apply OQ.lQ (l:=c.f);exact Tryz.underlying9;rfl)|(apply OQ.cD (b:=100);rfl;rfl;exact hg5)|(apply OQ.aJ;rfl;rfl)|(apply OQ.move;rfl)|(apply OQ.aV;rfl;rfl;rfl;exact (by decide);rfl)) rfl ?_ | refine JC.seq ?_ | refine JC.region ?_ | refine JL.nil ?_ | refine JE.next ?_ | refine JL.aB rfl rfl ?_)
      refine JC.cond_true rfl rfl ?_
      repeat (first | refine JL.q (by (apply OQ.assign;rfl)) rfl ?_ | refine JC.seq ?_ | refine JC.region ?_ | refine JL.nil ?_ | refine JE.next ?_)
      refine JC.ret ?_
      repeat (first | refine JE.aA ?_ | refine JE.bV ?_)
      exact JE.aR rfl (RV.tmp rfl) fun w' hw=>⟨rfl,hw.bf⟩
    repeat (first | refine JL.q (by first|(apply OQ.load;exact rq;rfl;exact .here;exact hc4)|(apply OQ.len (k:=c.s.l.length) (ad:=c.s.ad) (cap:=c.s.cap);exact Tryz.underlying24;rfl)|(apply OQ.cD (b:=100);rfl;rfl;exact hg4)|(apply OQ.load;exact dU;rfl;exact .here;exact hc3)|(apply OQ.lQ (l:=c.f);exact Tryz.underlying9;rfl)|(apply OQ.cD (b:=100);rfl;rfl;exact hg5)|(apply OQ.aJ;rfl;rfl)|(apply OQ.move;rfl)|(apply OQ.aV;rfl;rfl;rfl;exact (by decide);rfl)) rfl ?_ | refine JC.seq ?_ | refine JC.region ?_ | refine JL.nil ?_ | refine JE.next ?_ | refine JL.aB rfl rfl ?_)
    refine JC.cond_false rfl rfl ?_
    repeat (first | refine JL.q (by first|(apply OQ.move;rfl)|(apply OQ.addN;rfl;rfl;exact (by (try simp only []);omega))) rfl ?_ | refine JC.region ?_ | refine JC.skip ?_ | refine JL.nil ?_ | refine JE.next ?_ | refine JE.an ?_)
    refine JE.again (i:=i) (i+1) ⟨hi',fun j hj=>?_⟩ (by omega) (by repeat (first | exact ag.nil | refine ag.cons _ _ _ rfl ?_)) (.nil _)
    by_cases h : j=i
    · subst h
      rw [hc]
      exact ⟨by have:=of_decide_eq_false hg4;omega,by have:=of_decide_eq_false hg5;omega⟩
    · exact hsm j (by omega)
  have hall : ∀ j,j<calls.l.length→(calls.l.getD j dG).s.l.length≤100∧(calls.l.getD j dG).f.length≤100:=fun j hj=>hsm j (by have:=of_decide_eq_false h;omega)
  clear h hsm hi
  repeat (first | refine JC.exit ?_ | refine JE.aH ?_ | refine JE.aW ?_ | refine JE.next ?_)
  refine JC.seq (JC.region ?_)
  refine JL.bA (ι:=B0 4000) (vs:=[N 4000]) (fun y=>.tuple #[Pt y.x.p 0,Pt y.b.b 0]) (fun y=>y.b.E) kT rfl rfl (fun y=>Bz.wr _) (fun w' _=>mZ 4000 (by decide) (by decide) w') fun y=>?_
  obtain ⟨dx,x0,dk,k0,hh,hbl0⟩:=y
  have hsz0 : x0.z.h.size=2000:=by rw [hh];show (dh 4000).length / 2=2000;rw [qq]
  have hp0 : x0.z.h.x.p=dx.p:=by rw [hh];rfl
  have hg0 : x0.z.h.g.toNat≤5:=by
    have h1 : x0.z.h.g.toNat≤1:=by rw [hh];exact oR (by rw [(jG 4000).2];exact Nat.le_refl 0) (by decide)
    omega
  dsimp only
  clear hh hbl0
  rw [List.append_nil]
  have fo:=fun w'=>mS name w' hname
  have rfo:=fun w'=>kS name w' hname
  repeat (first | refine JL.q (by first|(apply OQ.extract;rfl;rfl)|(apply OQ.lU;exact Tryz.underlying28;rfl;rfl)|(apply OQ.aF (vs:=[Z name]);exact hO;rfl;exact (fun w' _=>fo w'))|(apply OQ.aF (vs:=[Z name]);exact jP;rfl;exact (fun w' _=>rfo w'))|(apply OQ.B8;exact Tryz.underlying4;rfl;rfl)|(apply OQ.aJ;rfl;rfl)|(apply OQ.move;rfl)|(apply OQ.assign;rfl)) rfl ?_ | refine JC.seq ?_ | refine JC.region ?_ | refine JL.nil ?_ | refine JE.next ?_ | refine JL.aB rfl rfl ?_)
  refine JC.cond_false rfl rfl ?_
  refine JC.skip (JE.next ?_)
  refine JC.seq (JC.region ?_)
  refine JL.q (v:=.agg (List.toArray [.slice none 0 0,.slice none 0 0,.slice none 0 0,.slice none 0 0])) (OQ.pure rfl rfl (by kernel_rfl)) rfl ?_
  refine JL.box (r:=[.slice none 0 0,.slice none 0 0,.slice none 0 0,.slice none 0 0]) rfl rfl rfl fun zp _=>?_
  obtain ⟨p0,hpe⟩ : ∃ p0,dx.p=p0:=⟨_,rfl⟩
  rw [hpe] at hp0 ⊢
  refine JL.perm (M':=x0.E++((Rx.mk zp none none none none []).E Rb.zero++[])) ?_ (by exact List.perm_append_comm (l₁:=[_]))
  repeat (first | refine JL.q (by first|(apply OQ.len (k:=calls.l.length) (ad:=calls.ad) (cap:=calls.cap);exact Tryz.underlying22;rfl)|(apply OQ.move;rfl)|(apply OQ.assign;rfl)) rfl ?_ | refine JC.seq ?_ | refine JC.region ?_ | refine JC.block ?_ | refine JL.nil ?_ | refine JE.next ?_)
  refine JC.loop (fun s : nu=>[(0,calls.v),(1,Z name),(7,Pt p0 0),(8,Pt s.x.b 0),(9,Pt zp 0),(60,calls.v),(61,N calls.l.length),(62,N s.i)]) (fun s=>s.x.E++(s.z.E s.R++[])) (fun s=>calls.l.length - s.i) (nu.ok p0 zp calls.l.length) ⟨0,x0,_,[],Rb.zero,0,⟨zp,none,none,none,none,[]⟩⟩ ⟨Nat.zero_le _,k0,⟨rfl,nofun,fun _=>rfl,fun _=>rfl,fun _=>rfl,fun _=>rfl⟩,rfl,Nat.le_refl _,Nat.le_refl _,Nat.le_refl _,nofun,Nat.le_refl _,hsz0,hp0,hg0⟩ (by repeat (first | exact ag.nil | refine ag.cons _ _ _ rfl ?_)) (aj.refl _) ?_
  intro s0 h0
  obtain ⟨hi,k,kz,hzp,hnd,hms,hnx,hbl,hsv,hsz,hp,hg⟩:=h0
  obtain ⟨i,hi0⟩ : ∃ i,s0.i=i:=⟨_,rfl⟩
  obtain ⟨x,hxe⟩ : ∃ x,s0.x=x:=⟨_,rfl⟩
  obtain ⟨af,hre⟩ : ∃ r,s0.af=r:=⟨_,rfl⟩
  obtain ⟨vs,hve⟩ : ∃ r,s0.vs=r:=⟨_,rfl⟩
  obtain ⟨R,hRe⟩ : ∃ r,s0.R=r:=⟨_,rfl⟩
  obtain ⟨nd,hde⟩ : ∃ r,s0.nd=r:=⟨_,rfl⟩
  obtain ⟨z,hze⟩ : ∃ r,s0.z=r:=⟨_,rfl⟩
  rw [hxe,hre,hve,hRe,hde] at k
  rw [hRe,hze] at kz
  rw [hze] at hzp
  rw [hi0] at hi
  rw [hde,hi0] at hnd
  rw [hRe,hi0] at hms hnx
  rw [hRe] at hbl
  rw [hve,hi0] at hsv
  rw [hxe] at hsz hp hg
  rw [hi0] at hg
  rw [hi0,hxe,hRe,hze]
  clear hxe hre hve hRe hde hze
  have hzv : some (Pt zp 0)=some (Pt z.p 0):=by rw [hzp]
  repeat (first | refine JL.q (by (apply OQ.dX;rfl;rfl)) rfl ?_ | refine JC.seq ?_ | refine JC.region ?_ | refine JL.nil ?_ | refine JE.next ?_)
  refine JC.cond rfl (fun h=>?_) (fun h=>?_)
  rotate_left
  · repeat (first | refine JL.q (by (apply OQ.assign;rfl)) rfl ?_ | refine JC.seq ?_ | refine JC.region ?_ | refine JC.exit ?_ | refine JL.nil ?_ | refine JE.next ?_ | refine JE.aH ?_ | refine JE.aW ?_)
    exact JC.ret (JE.aR rfl (RV.tmp rfl) fun w' hw=>⟨rfl,hw.bf⟩)
  have hi' : i<calls.l.length:=by have:=of_decide_eq_true h;omega
  clear h
  obtain ⟨hcl,hcf1⟩:=hall i hi'
  obtain ⟨b,j,e,lb,hcell⟩:=hs.at hi'
  obtain ⟨hcu,hcf,hcs⟩:=hs.all _ (uC.mem hi')
  generalize calls.l.getD i dG=c at hcell hcu hcf hcs hcl hcf1
  have hsv2 : calls.v=.slice (some ⟨b,j,none⟩) calls.l.length calls.cap:=by rw [← e];rfl
  rw [hsv2]
  repeat (first | refine JC.skip ?_ | refine JE.next ?_ | refine JC.seq ?_ | refine JC.block ?_)
  refine JC.region ?_
  repeat (refine JL.q (by first|(apply OQ.fc (i:=i);exact Tryz.underlying22;exact Cl;rfl;rfl;exact hi')|(apply OQ.dV (cs:=c.cs);exact Db;rfl;exact Cl;exact lb;exact (by simp);exact hcell)) rfl ?_)
  refine JL.alloc Eo rfl fun b11 _=>?_
  refine JL.aq (cs:=c.cs) Cl rfl rfl rfl (by rfl) .here rfl ?_
  rw [← hsv2]
  have hc4 : ∀ o,Row 26 c.cs o→cellAt o 4=some c.s.v:=Row.cell rfl
  have hc3 : ∀ o,Row 26 c.cs o→cellAt o 3=some (Z c.f):=Row.cell rfl
  have hc1 : ∀ o,Row 26 c.cs o→cellAt o 1=some (cU c.u):=Row.cell rfl
  have hc2 : ∀ o,Row 26 c.cs o→cellAt o 2=some (cU c.fl):=Row.cell rfl
  have hc0 : ∀ o,Row 26 c.cs o→cellAt o 0=some (cU c.what):=Row.cell rfl
  refine JL.perm (M':=x.E++(z.E R++[(⟨b11,Row 26 c.cs,true⟩ : ai)])) ?_ (by exact eS fun _ _ y=>by simp only [List.count_append,List.count_cons,List.count_nil];omega)
  refine JL.nil (JE.next ?_)
  have hflz : ∀ m ∈ R.ms,m.fl<16:=k.r.fl
  refine JC.seq ?_
  let vs2 : Nat→Int→Value:=fun j y=>match j with
    | 0=>Pt b11 3
    | 1=>Z c.f
    | 2=>.bool (okF c.f)
    | 3=>Pt zp 0
    | 4=>Pt b11 3
    | 5=>Z c.f
    | 6=>Pt b11 1
    | 7=>cU c.u
    | 8=>cU y
    | 9=>.bool (okF c.f)
    | 10=>cU y
    | _=>N 0
  let Ms : Nat→Int→List ai:=fun j y=>match j with
    | 8=>z.E R
    | 11=>x.E
    | 12=>z.E R
    | 13=>[(⟨b11,Row 26 c.cs,true⟩ : ai)]
    | _=>[]
  refine JC.nN (g:=⟨[(0,calls.v),(1,Z name),(7,Pt p0 0),(8,Pt x.b 0),(9,Pt zp 0),(11,Pt b11 0),(60,calls.v),(61,N calls.l.length),(62,N i)],14,vs2,Ms,(fun j=>match j with | 1=>[(0,66)] | 2=>[(1,67)] | 5=>[(4,70)] | 7=>[(6,72)] | 8=>[(3,69),(5,71),(7,73)] | 9=>[(2,68)] | 10=>[(8,74)] | _=>[]),(fun j=>match j with | 1=>[13] | 5=>[13] | 7=>[13] | 8=>[12] | _=>[]),(fun j=>match j with | 8=>[12] | _=>[]),(fun j=>match j with | 8=>some 2 | 10=>some 8 | _=>none),fun _=>[],fun j a b=>match j with | 8=>yu R c.f c.u a | 10=>a=b | _=>True⟩) [(9,12),(10,13)] [11,8,13] bZ (by repeat (first | exact ag.nil | refine ag.cons _ _ _ rfl ?_)) (fun _ _=>.nil) ?_ (by kernel_rfl) (by kernel_rfl) (by kernel_rfl) ?_ ?_
  · show aj (x.E++(z.E R++([(⟨b11,Row 26 c.cs,true⟩ : ai)]++[]))) _;rw [List.append_nil];exact aj.refl _
  · refine ⟨?_,?_,?_,?_,?_,?_,?_,?_,?_,?_,?_,trivial⟩
    · (intro xx EF MF Q kk;(try refine JL.aB rfl rfl ?_);exact JL.q (OQ.aV rfl rfl rfl (by decide) rfl) rfl (JL.nil (kk default nofun)))
    · (intro xx EF MF Q kk;(try refine JL.aB rfl rfl ?_);exact JL.q (OQ.load dU rfl .here hc3) rfl (JL.nil (kk default nofun)))
    · (intro xx EF MF Q kk;(try refine JL.aB rfl rfl ?_);exact JL.q (OQ.aF (vs:=[Z c.f]) jP rfl (fun w' _=>kS c.f w' (by omega))) rfl (JL.nil (kk default nofun)))
    · (intro xx EF MF Q kk;(try refine JL.aB rfl rfl ?_);exact JL.q (OQ.move rfl) rfl (JL.nil (kk default nofun)))
    · (intro xx EF MF Q kk;(try refine JL.aB rfl rfl ?_);exact JL.q (OQ.aV rfl rfl rfl (by decide) rfl) rfl (JL.nil (kk default nofun)))
    · (intro xx EF MF Q kk;(try refine JL.aB rfl rfl ?_);exact JL.q (OQ.load dU rfl .here hc3) rfl (JL.nil (kk default nofun)))
    · (intro xx EF MF Q kk;(try refine JL.aB rfl rfl ?_);exact JL.q (OQ.aV rfl rfl rfl (by decide) rfl) rfl (JL.nil (kk default nofun)))
    · (intro xx EF MF Q kk;(try refine JL.aB rfl rfl ?_);exact JL.q (OQ.load (v:=cU c.u) bI rfl .here hc1) rfl (JL.nil (kk default nofun)))
    · (intro xx EF MF Q kk;(try refine JL.aB rfl rfl ?_);refine JL.perm (M':=z.E R++MF) ?_ (List.Perm.of_eq (DZ _ _));refine JL.Dc (u:=c.u) kz (by omega) hzv rfl rfl rfl fun r=>?_;exact JL.nil (kk r.1 (fun k h=>r.2)))
    · (intro xx EF MF Q kk;(try refine JL.aB rfl rfl ?_);exact JL.q (OQ.assign rfl) rfl (JL.nil (kk default nofun)))
    · (intro xx EF MF Q kk;(try refine JL.aB rfl rfl ?_);exact JL.q (OQ.assign rfl) rfl (JL.nil (kk (xx 8) (fun k h=>by cases h;rfl))))
  · intro xx hx
    have e10 : xx 10=xx 8:=hx 10 8 (by decide) rfl
    have hfd : yu R c.f c.u (xx 8):=hx 8 2 (by decide) rfl
    show JE _ _ _ _ _ [(12,.bool (okF c.f)),(13,cU (xx 10)),(0,calls.v),(1,Z name),(7,Pt p0 0),(8,Pt x.b 0),(9,Pt zp 0),(11,Pt b11 0),(60,calls.v),(61,N calls.l.length),(62,N i)] (x.E++(z.E R++([(⟨b11,Row 26 c.cs,true⟩ : ai)]++[])))
    rw [e10,List.append_nil]
    generalize xx 8=r0 at hfd ⊢
    clear hx e10 xx vs2 Ms
    refine JE.next ?_
    have hHc : ∀ (y : Bz) (zz : Rx) (RR : Rb),Has (y.E++(zz.E RR++[(⟨b11,Row 26 c.cs,true⟩ : ai)])) b11 (Row 26 c.cs) true:=fun y zz RR=>aG (aG .here)
    have hle:=k.r.le
    have hnxu : ∀ y ∈ R.nx,y.2≤1000001:=fun y hy=>by have:=(k.r.Ch y hy).2.2;omega
    have hgt : 3 * i+5<4294967295:=by omega
    have hnb : nb (300 * (i+1))≤2000:=by unfold nb;omega
    have hkeep : ∀ {z2 : Sz} {recs2 : List Bk} {vs2 : VL} {R2 : Rb} {n2 : Nat},(Bz.mk x.b z2).ok recs2 vs2 R2 n2→z2=x.z→vs2=vs→R2=R→n2=nd→nu.ok p0 zp calls.l.length (nu.mk (i+1) (Bz.mk x.b z2) recs2 vs2 R2 n2 z):=fun {z2 recs2 vs2 R2 n2} k2 e1 e2 e3 e4=>
      ⟨hi',k2,by dsimp only;rw [e3];exact kz,hzp,by dsimp only;omega,by dsimp only;rw [e3];omega,by dsimp only;rw [e3];omega,by dsimp only;rw [e3];exact hbl,by dsimp only;rw [e2];omega,by dsimp only;rw [e1];exact hsz,by dsimp only;rw [e1];exact hp,by dsimp only;rw [e1];omega⟩
    obtain ⟨h0,hh0⟩ : ∃ h,decide (c.what=0)=h:=⟨_,rfl⟩
    obtain ⟨h1,hh1⟩ : ∃ h,decide (c.what=1)=h:=⟨_,rfl⟩
    obtain ⟨h2,hh2⟩ : ∃ h,decide (c.what=2)=h:=⟨_,rfl⟩
    obtain ⟨h3,hh3⟩ : ∃ h,decide (c.what=3)=h:=⟨_,rfl⟩
    repeat (first | refine JL.q (by first|(apply OQ.load (v:=cU c.what);exact bI;rfl;exact (hHc x z R);exact hc0)|(apply OQ.iC (b:=0);rfl;rfl;exact hh0)|(apply OQ.assign;rfl)|(apply OQ.aV;rfl;rfl;rfl;exact (by decide);rfl)) rfl ?_ | refine JC.seq ?_ | refine JC.region ?_ | refine JC.block ?_ | refine JL.nil ?_ | refine JE.next ?_)
    refine JC.Cx (fun s : nu=>[(0,calls.v),(1,Z name),(7,Pt p0 0),(8,Pt s.x.b 0),(9,Pt zp 0),(11,Pt b11 0),(60,calls.v),(61,N calls.l.length),(62,N i)]) (fun s=>s.x.E++(s.z.E s.R++[(⟨b11,Row 26 c.cs,true⟩ : ai)])) (fun s=>nu.ok p0 zp calls.l.length s∧s.i=i+1) ?_ ?_
    rotate_left
    · clear hkeep hHc hflz hnxu hzv hcell hsv2 k kz hzp hnd hms hnx hbl hsv hsz hp hg hfd hgt hnb hle
      rintro ⟨i2,x,af,vs,R,nd,z⟩ ⟨⟨hi2,k,kz,hzp,hnd,hms,hnx,hbl,hsv,hsz,hp,hg⟩,hie⟩
      dsimp only at hi2 k kz hzp hnd hms hnx hbl hsv hsz hp hg hie ⊢
      subst hie
      have hzv : some (Pt zp 0)=some (Pt z.p 0):=by rw [hzp]
      have hflz : ∀ m ∈ R.ms,m.fl<16:=k.r.fl
      have hLl : (R.list c.f).length≤R.ms.length:=by
        unfold Rb.list
        rw [List.length_map]
        exact List.length_filter_le _ _
      refine JC.seq ?_
      let vs2 : Nat→{q : Acc // q=none→R.list c.f=[]} × (Nat × Nat)→Value:=fun j y=>match j with
        | 0=>Pt x.b 0
        | 1=>Pt b11 3
        | 2=>Z c.f
        | 3=>(cV y.1.1 (R.list c.f)).v
        | 4=>Pt zp 0
        | 5=>Pt b11 3
        | 6=>Z c.f
        | 7=>(cV (some y.2) (R.list c.f)).v
        | 8=>.bool true
        | 9=>.bool false
        | 10=>.bool false
        | 11=>Pt x.b 0
        | 12=>Pt b11 3
        | 13=>Z c.f
        | 14=>N (R.next c.f)
        | 15=>Pt zp 0
        | 16=>Pt b11 3
        | 17=>Z c.f
        | 18=>N (R.next c.f)
        | 19=>.bool false
        | 20=>.bool false
        | _=>N 0
      let Ms : Nat→{q : Acc // q=none→R.list c.f=[]} × (Nat × Nat)→List ai:=fun j y=>match j with
        | 3=>aa 3 y.1.1 (au (R.list c.f))++x.E
        | 7=>aa 3 (some y.2) (au (R.list c.f))++z.E R
        | 8=>(aa 3 y.1.1 (au (R.list c.f))++x.E)++(aa 3 (some y.2) (au (R.list c.f))++z.E R)
        | 10=>(aa 3 y.1.1 (au (R.list c.f))++x.E)++(aa 3 (some y.2) (au (R.list c.f))++z.E R)
        | 14=>(aa 3 y.1.1 (au (R.list c.f))++x.E)++(aa 3 (some y.2) (au (R.list c.f))++z.E R)
        | 18=>(aa 3 y.1.1 (au (R.list c.f))++x.E)++(aa 3 (some y.2) (au (R.list c.f))++z.E R)
        | 21=>x.E
        | 22=>z.E R
        | 23=>[(⟨b11,Row 26 c.cs,true⟩ : ai)]
        | _=>[]
      refine JC.nN (g:=⟨[(0,calls.v),(1,Z name),(7,Pt p0 0),(8,Pt x.b 0),(9,Pt zp 0),(11,Pt b11 0),(60,calls.v),(61,N calls.l.length),(62,N i)],24,vs2,Ms,(fun j=>match j with | 2=>[(1,246)] | 3=>[(0,245),(2,247)] | 6=>[(5,250)] | 7=>[(4,249),(6,251)] | 8=>[(3,248),(7,252)] | 9=>[(8,253)] | 10=>[(9,254)] | 11=>[(10,255)] | 12=>[(10,255)] | 13=>[(12,257),(10,255)] | 14=>[(11,256),(13,258),(10,255)] | 15=>[(10,255)] | 16=>[(10,255)] | 17=>[(16,261),(10,255)] | 18=>[(15,260),(17,262),(10,255)] | 19=>[(14,259),(18,263),(10,255)] | 20=>[(10,255),(19,264)] | _=>[]),(fun j=>match j with | 2=>[23] | 3=>[21] | 6=>[23] | 7=>[22] | 8=>[3,7] | 10=>[8] | 13=>[23] | 14=>[10] | 17=>[23] | 18=>[14] | _=>[]),(fun j=>match j with | 3=>[21] | 7=>[22] | 8=>[3,7] | 10=>[8] | 14=>[10] | 18=>[14] | _=>[]),(fun j=>match j with | _=>none),fun _=>[],fun _ _ _=>True⟩) [(20,265)] [18,23] bZ (by repeat (first | exact ag.nil | refine ag.cons _ _ _ rfl ?_)) (fun _ _=>.nil) ?_ (by kernel_rfl) (by kernel_rfl) (by kernel_rfl) ?_ ?_
      · show aj (x.E++(z.E R++([(⟨b11,Row 26 c.cs,true⟩ : ai)]++[]))) _;rw [List.append_nil];exact aj.refl _
      · refine ⟨?_,?_,?_,?_,?_,?_,?_,?_,?_,?_,?_,?_,?_,?_,?_,?_,?_,?_,?_,?_,?_,trivial⟩
        · (intro xx EF MF Q kk;(try refine JL.aB rfl rfl ?_);exact JL.q (OQ.move rfl) rfl (JL.nil (kk default nofun)))
        · (intro xx EF MF Q kk;(try refine JL.aB rfl rfl ?_);exact JL.q (OQ.aV rfl rfl rfl (by decide) rfl) rfl (JL.nil (kk default nofun)))
        · (intro xx EF MF Q kk;(try refine JL.aB rfl rfl ?_);exact JL.q (OQ.load dU rfl .here hc3) rfl (JL.nil (kk default nofun)))
        · (intro xx EF MF Q kk;refine JL.perm (M':=x.E++MF) ?_ (List.Perm.of_eq (DZ _ _));refine JL.AQ (f:=c.f) k (by omega) (by omega) rfl rfl rfl fun q=>?_;rw [← mX q.2];refine JL.perm (M':=(aa 3 q.1 (au (R.list c.f))++x.E)++([]++MF)) ?_ (List.Perm.of_eq (Ev _ _ _));exact JL.nil (kk (q,(0,0)) nofun))
        · (intro xx EF MF Q kk;(try refine JL.aB rfl rfl ?_);exact JL.q (OQ.move rfl) rfl (JL.nil (kk default nofun)))
        · (intro xx EF MF Q kk;(try refine JL.aB rfl rfl ?_);exact JL.q (OQ.aV rfl rfl rfl (by decide) rfl) rfl (JL.nil (kk default nofun)))
        · (intro xx EF MF Q kk;(try refine JL.aB rfl rfl ?_);exact JL.q (OQ.load dU rfl .here hc3) rfl (JL.nil (kk default nofun)))
        · (intro xx EF MF Q kk;refine JL.perm (M':=z.E R++MF) ?_ (List.Perm.of_eq (DZ _ _));refine JL.Ca (f:=c.f) kz hflz (by omega) hzv rfl rfl rfl fun q=>?_;refine JL.perm (M':=(aa 3 (some q) (au (R.list c.f))++z.E R)++([]++MF)) ?_ (List.Perm.of_eq (Ev _ _ _));exact JL.nil (kk (default,q) nofun))
        · (intro xx EF MF Q kk;refine JL.q (v:=.bool true) (OQ.aF (vs:=[(cV (xx 3).1.1 (R.list c.f)).v,(cV (some (xx 7).2) (R.list c.f)).v]) mW rfl (fun w' hw'=>yB (xx 3).1.2 (by omega) hw')) rfl ?_;refine JL.perm (M':=((aa 3 (xx 3).1.1 (au (R.list c.f))++x.E)++(aa 3 (some (xx 7).2) (au (R.list c.f))++z.E R))++([]++MF)) ?_ (List.Perm.of_eq (EM _ _ _));exact JL.nil (kk ((xx 3).1,(xx 7).2) nofun))
        · (intro xx EF MF Q kk;(try refine JL.aB rfl rfl ?_);exact JL.q (OQ.not rfl) rfl (JL.nil (kk default nofun)))
        · (intro xx EF MF Q kk;refine JL.q (OQ.move rfl) rfl ?_;refine JL.perm (M':=((aa 3 (xx 8).1.1 (au (R.list c.f))++x.E)++(aa 3 (some (xx 8).2) (au (R.list c.f))++z.E R))++([]++MF)) ?_ (List.Perm.of_eq (EN _ _));exact JL.nil (kk (xx 8) nofun))
        · (intro xx EF MF Q kk;(try refine JL.aB rfl rfl ?_);exact JL.q (OQ.move rfl) rfl (JL.nil (kk default nofun)))
        · (intro xx EF MF Q kk;(try refine JL.aB rfl rfl ?_);exact JL.q (OQ.aV rfl rfl rfl (by decide) rfl) rfl (JL.nil (kk default nofun)))
        · (intro xx EF MF Q kk;(try refine JL.aB rfl rfl ?_);exact JL.q (OQ.load dU rfl .here hc3) rfl (JL.nil (kk default nofun)))
        · (intro xx EF MF Q kk;(try refine JL.aB rfl rfl ?_);refine JL.perm (M':=x.E++(aa 3 (xx 10).1.1 (au (R.list c.f))++((aa 3 (some (xx 10).2) (au (R.list c.f))++z.E R)++MF))) ?_ (EO _ _ _ _ _);refine JL.AP (f:=c.f) k (by omega) rfl rfl rfl ?_;refine JL.perm (M':=((aa 3 (xx 10).1.1 (au (R.list c.f))++x.E)++(aa 3 (some (xx 10).2) (au (R.list c.f))++z.E R))++([]++MF)) ?_ (EP _ _ _ _ _);exact JL.nil (kk (xx 10) nofun))
        · (intro xx EF MF Q kk;(try refine JL.aB rfl rfl ?_);exact JL.q (OQ.move rfl) rfl (JL.nil (kk default nofun)))
        · (intro xx EF MF Q kk;(try refine JL.aB rfl rfl ?_);exact JL.q (OQ.aV rfl rfl rfl (by decide) rfl) rfl (JL.nil (kk default nofun)))
        · (intro xx EF MF Q kk;(try refine JL.aB rfl rfl ?_);exact JL.q (OQ.load dU rfl .here hc3) rfl (JL.nil (kk default nofun)))
        · (intro xx EF MF Q kk;(try refine JL.aB rfl rfl ?_);refine JL.perm (M':=z.E R++((aa 3 (xx 14).1.1 (au (R.list c.f))++x.E)++(aa 3 (some (xx 14).2) (au (R.list c.f))++MF))) ?_ (ER _ _ _ _ _);refine JL.yA (f:=c.f) kz (by omega) hzv rfl rfl ?_;refine JL.perm (M':=((aa 3 (xx 14).1.1 (au (R.list c.f))++x.E)++(aa 3 (some (xx 14).2) (au (R.list c.f))++z.E R))++([]++MF)) ?_ (ES _ _ _ _ _);exact JL.nil (kk (xx 14) nofun))
        · (intro xx EF MF Q kk;(try refine JL.aB rfl rfl ?_);exact JL.q (OQ.fQ (a:=(R.next c.f : Int)) (b:=(R.next c.f : Int)) rfl rfl (c:=true) (decide_eq_true rfl)) rfl (JL.nil (kk default nofun)))
        · (intro xx EF MF Q kk;(try refine JL.aB rfl rfl ?_);exact JL.q (OQ.aJ rfl rfl) rfl (JL.nil (kk default nofun)))
      · intro xx hx
        show JE _ _ _ _ _ ((265,.bool false)::[(0,calls.v),(1,Z name),(7,Pt p0 0),(8,Pt x.b 0),(9,Pt zp 0),(11,Pt b11 0),(60,calls.v),(61,N calls.l.length),(62,N i)]) (((aa 3 (xx 18).1.1 (au (R.list c.f))++x.E)++(aa 3 (some (xx 18).2) (au (R.list c.f))++z.E R))++([(⟨b11,Row 26 c.cs,true⟩ : ai)]++[]))
        generalize xx 18=y
        clear hx xx vs2 Ms
        refine JE.next ?_
        refine JC.cond_false rfl rfl ?_
        repeat (first | refine JL.q (by first|(apply OQ.move;rfl)|(apply OQ.addN;rfl;rfl;exact (by (try simp only []);omega))) rfl ?_ | refine JC.region ?_ | refine JC.skip ?_ | refine JL.nil ?_ | refine JE.next ?_ | refine JE.an ?_)
        refine JE.perm (M':=x.E++(z.E R++(aa 3 y.1.1 (au (R.list c.f))++(aa 3 (some y.2) (au (R.list c.f))++([(⟨b11,Row 26 c.cs,true⟩ : ai)]++[]))))) (eS fun _ _ y=>by simp only [List.count_append,List.count_nil];omega) ?_
        exact JE.again (i:=nu.mk i x af vs R nd z) (nu.mk (i+1) x af vs R nd z) ⟨hi2,k,kz,hzp,hnd,hms,hnx,hbl,hsv,hsz,hp,hg⟩ (by show calls.l.length - (i+1)<calls.l.length - i;omega) (by repeat (first | exact ag.nil | refine ag.cons _ _ _ rfl ?_)) (aE (aE (.nil _) _) _)
    cases h0
    case true=>
      refine JC.cond_true rfl rfl ?_
      refine JC.seq (JC.region ?_)
      repeat (refine JL.q (by first|(apply OQ.load;exact dU;rfl;exact (hHc x z R);exact hc3)|(apply OQ.move;rfl)|(apply OQ.aV;rfl;rfl;rfl;exact (by decide);rfl)) rfl ?_)
      refine JL.perm (M':=z.E R++(x.E++[(⟨b11,Row 26 c.cs,true⟩ : ai)])) ?_ (List.perm_append_comm_assoc _ _ _)
      refine JL.yA (f:=c.f) kz (by omega) hzv rfl rfl ?_
      refine JL.perm (M':=x.E++(z.E R++[(⟨b11,Row 26 c.cs,true⟩ : ai)])) ?_ (List.perm_append_comm_assoc _ _ _)
      repeat (refine JL.q (by (apply OQ.assign;rfl)) rfl ?_)
      refine JL.nil (JE.next ?_)
      refine JC.seq ?_
      let vs2 : Nat→Eu x af vs R nd c.f c.s.l→Value:=fun j y=>match j with
        | 0=>Pt x.b 0
        | 1=>Pt b11 3
        | 2=>Z c.f
        | 3=>.slice (some ⟨y.1.2,0,none⟩) 0 0
        | 4=>Pt b11 4
        | 5=>c.s.v
        | 6=>ah y.1.1.1 c.s.l.length
        | 7=>Es y.2
        | 8=>Es y.2
        | 9=>N (Dj y.2)
        | 10=>N (Dl y.2)
        | 11=>N (Dj y.2)
        | 12=>N (Dl y.2)
        | _=>N 0
      let Ms : Nat→Eu x af vs R nd c.f c.s.l→List ai:=fun j y=>match j with
        | 3=>[⟨y.1.2,Sl.Own 5 1 0 0 [],true⟩]
        | 6=>aa 5 y.1.1.1 (c.s.l.map U8)
        | 7=>Et x y.2
        | 13=>x.E
        | 14=>z.E R
        | 15=>[(⟨b11,Row 26 c.cs,true⟩ : ai)]
        | _=>[]
      refine JC.nN (g:=⟨[(0,calls.v),(1,Z name),(7,Pt p0 0),(8,Pt x.b 0),(9,Pt zp 0),(11,Pt b11 0),(60,calls.v),(61,N calls.l.length),(62,N i),(12,.bool (okF c.f)),(13,cU r0),(14,N (R.next c.f))],16,vs2,Ms,(fun j=>match j with | 2=>[(1,147)] | 5=>[(4,150)] | 6=>[(3,149),(5,151)] | 7=>[(0,146),(2,148),(6,152)] | 8=>[(7,153)] | 9=>[(8,145)] | 10=>[(8,145)] | 11=>[(9,154)] | 12=>[(10,155)] | _=>[]),(fun j=>match j with | 2=>[15] | 5=>[15] | 6=>[3] | 7=>[13,6] | _=>[]),(fun j=>match j with | 6=>[3] | 7=>[13] | _=>[]),(fun j=>match j with | 7=>some 6 | 8=>some 7 | 9=>some 8 | 10=>some 8 | 11=>some 9 | 12=>some 10 | _=>none),fun _=>[],fun j a b=>match j with | 7=>a.2.isSome=true | 8=>a=b | 9=>a=b | 10=>a=b | 11=>a=b | 12=>a=b | _=>True⟩) [(11,15),(12,16)] [7,14,15] bZ (by repeat (first | exact ag.nil | refine ag.cons _ _ _ rfl ?_)) (fun _ _=>.nil) ?_ (by kernel_rfl) (by kernel_rfl) (by kernel_rfl) ?_ ?_
      · show aj (x.E++(z.E R++([(⟨b11,Row 26 c.cs,true⟩ : ai)]++[]))) _;rw [List.append_nil];exact aj.refl _
      · refine ⟨?_,?_,?_,?_,?_,?_,?_,?_,?_,?_,?_,?_,?_,trivial⟩
        · (intro xx EF MF Q kk;(try refine JL.aB rfl rfl ?_);exact JL.q (OQ.move rfl) rfl (JL.nil (kk default nofun)))
        · (intro xx EF MF Q kk;(try refine JL.aB rfl rfl ?_);exact JL.q (OQ.aV rfl rfl rfl (by decide) rfl) rfl (JL.nil (kk default nofun)))
        · (intro xx EF MF Q kk;(try refine JL.aB rfl rfl ?_);exact JL.q (OQ.load dU rfl .here hc3) rfl (JL.nil (kk default nofun)))
        · (intro xx EF MF Q kk;exact JL.pV Tryz.underlying24 pJ rfl fun b _=>JL.nil (kk ((⟨some (0,0),nofun⟩,b),none) nofun))
        · (intro xx EF MF Q kk;(try refine JL.aB rfl rfl ?_);exact JL.q (OQ.aV rfl rfl rfl (by decide) rfl) rfl (JL.nil (kk default nofun)))
        · (intro xx EF MF Q kk;(try refine JL.aB rfl rfl ?_);exact JL.q (OQ.load rq rfl .here hc4) rfl (JL.nil (kk default nofun)))
        · (intro xx EF MF Q kk;exact AW hcs (fun w' M hw'=>hcs.holds hw' rfl) rfl rfl rfl (by omega) fun q=>JL.nil (kk ((q,0),none) nofun))
        · (intro xx EF MF Q kk;refine JL.perm (M':=x.E++(aa 5 (xx 6).1.1.1 (c.s.l.map U8)++MF)) ?_ (List.Perm.of_eq (EK _ _ _));refine vU (q:=(xx 6).1.1) k (by omega) (by omega) (by omega) hTA rfl rfl rfl rfl fun r=>?_;refine JL.perm (M':=(Bz.mk x.b r.z').E++((aa 5 (xx 6).1.1.1 (c.s.l.map U8)++[])++MF)) ?_ (List.Perm.of_eq (EL _ _ _));exact JL.nil (kk ((xx 6).1,some r) (fun k h=>rfl)))
        · (intro xx EF MF Q kk;exact JL.q (OQ.move rfl) rfl (JL.nil (kk (xx 7) (fun k h=>by cases h;rfl))))
        · (intro xx EF MF Q kk;exact JL.q (OQ.extract rfl rfl) rfl (JL.nil (kk (xx 8) (fun k h=>by cases h;rfl))))
        · (intro xx EF MF Q kk;exact JL.q (OQ.extract rfl rfl) rfl (JL.nil (kk (xx 8) (fun k h=>by cases h;rfl))))
        · (intro xx EF MF Q kk;exact JL.q (OQ.assign rfl) rfl (JL.nil (kk (xx 9) (fun k h=>by cases h;rfl))))
        · (intro xx EF MF Q kk;exact JL.q (OQ.assign rfl) rfl (JL.nil (kk (xx 10) (fun k h=>by cases h;rfl))))
      · intro xx hx
        have e8 : xx 8=xx 7:=hx 8 7 (by decide) rfl
        have e9 : xx 9=xx 8:=hx 9 8 (by decide) rfl
        have e10 : xx 10=xx 8:=hx 10 8 (by decide) rfl
        have e11 : xx 11=xx 9:=hx 11 9 (by decide) rfl
        have e12 : xx 12=xx 10:=hx 12 10 (by decide) rfl
        have e2 : (xx 7).2.isSome=true:=hx 7 6 (by decide) rfl
        have d11 : xx 11=xx 7:=e11.trans (e9.trans e8)
        have d12 : xx 12=xx 7:=e12.trans (e10.trans e8)
        show JE _ _ _ _ _ [(15,N (Dj (xx 11).2)),(16,N (Dl (xx 12).2)),(0,calls.v),(1,Z name),(7,Pt p0 0),(8,Pt x.b 0),(9,Pt zp 0),(11,Pt b11 0),(60,calls.v),(61,N calls.l.length),(62,N i),(12,.bool (okF c.f)),(13,cU r0),(14,N (R.next c.f))] (Et x (xx 7).2++(z.E R++([(⟨b11,Row 26 c.cs,true⟩ : ai)]++[])))
        rw [d11,d12,List.append_nil]
        generalize xx 7=y at e2 ⊢
        clear hx e8 e9 e10 e11 e12 d11 d12 xx vs2 Ms
        obtain ⟨_,o⟩:=y
        cases o with
        | none=>cases e2
        | some r=>
        obtain ⟨cd,uid,z2,recs2,vs2,R2,n2,k2,p2,o2⟩:=r
        try dsimp only at k2 p2 o2
        refine JE.next ?_
        show JC _ _ _ _ _ _ [(15,N uid),(16,N cd),(0,calls.v),(1,Z name),(7,Pt p0 0),(8,Pt x.b 0),(9,Pt zp 0),(11,Pt b11 0),(60,calls.v),(61,N calls.l.length),(62,N i),(12,.bool (okF c.f)),(13,cU r0),(14,N (R.next c.f))] ((Bz.mk x.b z2).E++(z.E R++[(⟨b11,Row 26 c.cs,true⟩ : ai)]))
        cases hok : okF c.f with
        | false=>
          clear e2
          obtain ⟨_,f1,f2,f3,f4,f5,f6,f7⟩:=o2.resolve_right fun h=>by rw [hok] at h;exact absurd h.1 (by decide)
          clear o2
          subst f1
          subst f2
          repeat (first | refine JL.q (by first|(apply OQ.not;rfl)|(apply OQ.move;rfl)) rfl ?_ | refine JC.seq ?_ | refine JC.region ?_ | refine JL.nil ?_ | refine JE.next ?_)
          refine JC.cond_true rfl rfl ?_
          repeat (first | refine JL.q (by first|(apply OQ.fQ (a:=0) (b:=0) (c:=true);rfl;rfl;rfl)|(apply OQ.fQ (a:=1) (b:=1) (c:=true);rfl;rfl;rfl)|(apply OQ.aJ;rfl;rfl)|(apply OQ.move;rfl)) rfl ?_ | refine JC.seq ?_ | refine JC.region ?_ | refine JL.nil ?_ | refine JE.next ?_ | refine JL.aB rfl rfl ?_)
          refine JC.cond_false rfl rfl ?_
          repeat (first | refine JC.skip ?_ | refine JC.exit ?_ | refine JE.next ?_ | refine JE.aH ?_ | refine JE.aW ?_)
          exact JE.mid (nu.mk (i+1) (Bz.mk x.b z2) recs2 vs2 R2 n2 z) ⟨hkeep k2 f3 f5 f6 f7,rfl⟩ (by repeat (first | exact ag.nil | refine ag.cons _ _ _ rfl ?_)) (by rw [f6];exact aj.refl _)
        | true=>
          obtain ⟨_,st,o3⟩:=o2.resolve_left fun h=>by rw [hok] at h;exact absurd h.1 (by decide)
          have hd1:=pF k.r hok c.s.l
          have hsv3 : iA (cy vs (eP R c.f c.s.l))≤300 * (i+1):=by have:=gd (eP R c.f c.s.l) vs;omega
          obtain ⟨f0,fv,fs,fg,fp⟩:=st.fit k.z hd1.1 (B:=300 * (i+1)) (H:=2000) (g:=3 * i+5) hsv3 hnb hsz hg hgt
          obtain ⟨_,eu,eR,en⟩:=o3.resolve_right fun h=>by have:=h.1;omega
          clear o2 o3 e2
          subst f0
          subst eu
          repeat (first | refine JL.q (by first|(apply OQ.not;rfl)|(apply OQ.move;rfl)) rfl ?_ | refine JC.seq ?_ | refine JC.region ?_ | refine JL.nil ?_ | refine JE.next ?_)
          refine JC.cond_false rfl rfl ?_
          repeat (first | refine JL.q (by first|(apply OQ.load;exact dU;rfl;exact (hHc (Bz.mk x.b z2) z R);exact hc3)|(apply OQ.load;exact rq;rfl;exact (hHc (Bz.mk x.b z2) z R);exact hc4)|(apply OQ.move;rfl)|(apply OQ.aV;rfl;rfl;rfl;exact (by decide);rfl)) rfl ?_ | refine JC.seq ?_ | refine JC.region ?_ | refine JC.skip ?_ | refine JE.next ?_)
          refine JL.perm (M':=z.E R++((Bz.mk x.b z2).E++[(⟨b11,Row 26 c.cs,true⟩ : ai)])) ?_ (List.perm_append_comm_assoc _ _ _)
          refine JL.DX (s:=c.s) kz (by omega) (by omega) hnxu (by omega) (fun w' hw'=>⟨hcs.holds hw' rfl,lV hw' (z.wr R) hcs⟩) hzv rfl rfl rfl fun r=>?_
          obtain ⟨z3,hp3,kz3⟩:=r
          dsimp only at hp3 kz3 ⊢
          refine JL.perm (M':=(Bz.mk x.b z2).E++(z3.E (R.aD c.f c.s.l)++[(⟨b11,Row 26 c.cs,true⟩ : ai)])) ?_ (List.perm_append_comm_assoc _ _ _)
          repeat (first | refine JL.q (by first|(apply OQ.fQ (a:=0) (b:=0) (c:=true);rfl;rfl;rfl)|(apply OQ.fQ (a:=(R.next c.f : Int)) (b:=(R.next c.f : Int)) (c:=true);rfl;rfl;exact (decide_eq_true rfl))|(apply OQ.aJ;rfl;rfl)|(apply OQ.move;rfl)) rfl ?_ | refine JC.seq ?_ | refine JC.region ?_ | refine JL.nil ?_ | refine JE.next ?_ | refine JL.aB rfl rfl ?_)
          refine JC.cond_false rfl rfl ?_
          repeat (first | refine JC.skip ?_ | refine JE.an ?_)
          have hdl:=Ap R c.f c.s.l
          have hdm : (R.aD c.f c.s.l).ms.length=R.ms.length+1:=by
            show (R.ms++[_]).length=_
            rw [List.length_append]
            rfl
          have hdb : ∀ m ∈ (R.aD c.f c.s.l).ms,m.b.length≤100:=fun m hm=>by
            rcases List.mem_append.1 hm with hm | hm
            · exact hbl m hm
            · rw [List.mem_singleton] at hm
              subst hm
              exact hcl
          exact JE.mid (nu.mk (i+1) (Bz.mk x.b z2) recs2 vs2 R2 n2 z3) ⟨⟨hi',k2,by dsimp only;rw [eR];exact kz3,hp3.trans hzp,by dsimp only;omega,by dsimp only;rw [eR];omega,by dsimp only;rw [eR];omega,by dsimp only;rw [eR];exact hdb,by dsimp only;rw [fv];exact hsv3,fs,fp.trans hp,by dsimp only;omega⟩,rfl⟩ (by repeat (first | exact ag.nil | refine ag.cons _ _ _ rfl ?_)) (by rw [eR];exact aj.refl _)
    refine JC.cond_false rfl rfl ?_
    cases h1
    case true=>
      repeat (first | refine JL.q (by first|(apply OQ.iC (b:=1);rfl;rfl;exact hh1)|(apply OQ.assign;rfl)) rfl ?_ | refine JC.seq ?_ | refine JC.region ?_ | refine JL.nil ?_ | refine JE.next ?_)
      refine JC.cond_true rfl rfl ?_
      refine JC.seq (JC.region ?_)
      repeat (refine JL.q (by first|(apply OQ.load;exact dU;rfl;exact (hHc x z R);exact hc3)|(apply OQ.load (v:=cU c.u);exact bI;rfl;exact (hHc x z R);exact hc1)|(apply OQ.load (v:=cU c.fl);exact bI;rfl;exact (hHc x z R);exact hc2)|(apply OQ.move;rfl)|(apply OQ.aV;rfl;rfl;rfl;exact (by decide);rfl)) rfl ?_)
      refine JL.AS (x:=x) (f:=c.f) (u:=c.u) (fl:=c.fl) k (by omega) hcu.1 hcu.2 (fun m hm=>by have:=hbl m hm;omega) hTA rfl rfl rfl rfl rfl fun r=>?_
      obtain ⟨cd,z3,recs3,vs3,R3,k3,p3,o3⟩:=r
      dsimp only at k3 p3 o3 ⊢
      obtain ⟨g1,hg1⟩ : ∃ g,decide (c.fl<0)=g:=⟨_,rfl⟩
      obtain ⟨g2,hg2⟩ : ∃ g,decide ((15 : Int)<c.fl)=g:=⟨_,rfl⟩
      cases g1
      case true=>
        obtain ⟨_,e1,e2,e3,e4,e5⟩:=o3.resolve_right fun h=>by rcases h with h | h <;> exact h.1 (.inl (of_decide_eq_true hg1))
        subst e1
        repeat (first | refine JL.q (by first|(apply OQ.load (v:=cU c.fl);exact bI;rfl;exact (hHc (Bz.mk x.b z3) z R);exact hc2)|(apply OQ.gv (b:=0);rfl;rfl;exact hg1)|(apply OQ.aS;rfl;rfl)|(apply OQ.move;rfl)|(apply OQ.assign;rfl)|(apply OQ.aV;rfl;rfl;rfl;exact (by decide);rfl)) rfl ?_ | refine JC.seq ?_ | refine JC.region ?_ | refine JC.block ?_ | refine JL.nil ?_ | refine JE.next ?_ | refine JL.bC rfl rfl rfl rfl ?_)
        refine JC.cond_true rfl rfl ?_
        repeat (first | refine JL.q (by first|(apply OQ.fQ (a:=1) (b:=1) (c:=true);rfl;rfl;rfl)|(apply OQ.move;rfl)) rfl ?_ | refine JC.seq ?_ | refine JC.region ?_ | refine JL.nil ?_ | refine JE.next ?_)
        refine JC.cond_false rfl rfl ?_
        repeat (first | refine JC.skip ?_ | refine JE.an ?_)
        exact JE.mid (nu.mk (i+1) (Bz.mk x.b z3) recs3 vs3 R3 nd z) ⟨hkeep k3 e2 e4 e5 rfl,rfl⟩ (by repeat (first | exact ag.nil | refine ag.cons _ _ _ rfl ?_)) (by rw [e5];exact aj.refl _)
      cases g2
      case true=>
        obtain ⟨_,e1,e2,e3,e4,e5⟩:=o3.resolve_right fun h=>by rcases h with h | h <;> exact h.1 (.inr (of_decide_eq_true hg2))
        subst e1
        repeat (first | refine JL.q (by first|(apply OQ.load (v:=cU c.fl);exact bI;rfl;exact (hHc (Bz.mk x.b z3) z R);exact hc2)|(apply OQ.gv (b:=0);rfl;rfl;exact hg1)|(apply OQ.cD (b:=15);rfl;rfl;exact hg2)|(apply OQ.aJ;rfl;rfl)|(apply OQ.move;rfl)|(apply OQ.assign;rfl)|(apply OQ.aV;rfl;rfl;rfl;exact (by decide);rfl)) rfl ?_ | refine JC.seq ?_ | refine JC.region ?_ | refine JC.block ?_ | refine JL.nil ?_ | refine JE.next ?_ | refine JL.aB rfl rfl ?_)
        refine JC.cond_true rfl rfl ?_
        repeat (first | refine JL.q (by first|(apply OQ.fQ (a:=1) (b:=1) (c:=true);rfl;rfl;rfl)|(apply OQ.move;rfl)) rfl ?_ | refine JC.seq ?_ | refine JC.region ?_ | refine JL.nil ?_ | refine JE.next ?_)
        refine JC.cond_false rfl rfl ?_
        repeat (first | refine JC.skip ?_ | refine JE.an ?_)
        exact JE.mid (nu.mk (i+1) (Bz.mk x.b z3) recs3 vs3 R3 nd z) ⟨hkeep k3 e2 e4 e5 rfl,rfl⟩ (by repeat (first | exact ag.nil | refine ag.cons _ _ _ rfl ?_)) (by rw [e5];exact aj.refl _)
      have hnf : ¬ (c.fl<0∨15<c.fl):=fun h=>h.elim (of_decide_eq_false hg1) (of_decide_eq_false hg2)
      have o3:=o3.resolve_left fun h=>hnf h.1
      repeat (first | refine JL.q (by first|(apply OQ.load (v:=cU c.fl);exact bI;rfl;exact (hHc (Bz.mk x.b z3) z R);exact hc2)|(apply OQ.gv (b:=0);rfl;rfl;exact hg1)|(apply OQ.cD (b:=15);rfl;rfl;exact hg2)|(apply OQ.aJ;rfl;rfl)|(apply OQ.move;rfl)|(apply OQ.assign;rfl)|(apply OQ.aV;rfl;rfl;rfl;exact (by decide);rfl)) rfl ?_ | refine JC.seq ?_ | refine JC.region ?_ | refine JC.block ?_ | refine JL.nil ?_ | refine JE.next ?_ | refine JL.aB rfl rfl ?_)
      refine JC.cond_false rfl rfl ?_
      rcases hfd with ⟨hr,hno⟩ | ⟨i0,m,hr,hm,hfi⟩
      · obtain ⟨_,_,e1,e2,e3,e4,e5⟩:=o3.resolve_right fun h=>by
          obtain ⟨_,m',hm',_⟩:=h
          rw [hno] at hm'
          cases hm'
        subst hr e1
        repeat (first | refine JL.q (by first|(apply OQ.gv (a:=-1) (b:=0) (c:=true);rfl;rfl;rfl)|(apply OQ.move;rfl)|(apply OQ.assign;rfl)) rfl ?_ | refine JC.seq ?_ | refine JC.region ?_ | refine JL.nil ?_ | refine JE.next ?_)
        refine JC.cond_true rfl rfl ?_
        repeat (first | refine JL.q (by first|(apply OQ.fQ (a:=7) (b:=7) (c:=true);rfl;rfl;rfl)|(apply OQ.move;rfl)) rfl ?_ | refine JC.seq ?_ | refine JC.region ?_ | refine JL.nil ?_ | refine JE.next ?_)
        refine JC.cond_false rfl rfl ?_
        repeat (first | refine JC.skip ?_ | refine JE.an ?_)
        exact JE.mid (nu.mk (i+1) (Bz.mk x.b z3) recs3 vs3 R3 nd z) ⟨hkeep k3 e2 e4 e5 rfl,rfl⟩ (by repeat (first | exact ag.nil | refine ag.cons _ _ _ rfl ?_)) (by rw [e5];exact aj.refl _)
      · obtain ⟨_,m',hm',st,o4⟩:=o3.resolve_left fun h=>by rw [hfi] at h;cases h.2.1
        obtain rfl : m=m':=by rw [hfi] at hm';exact Option.some.inj hm'
        obtain ⟨fl,hfle⟩ : ∃ fl : Nat,c.fl=(fl : Int):=⟨c.fl.toNat,by omega⟩
        have hflt : c.fl.toNat=fl:=by omega
        have hc2f : ∀ o,Row 26 c.cs o→cellAt o 2=some (N fl):=by rw [hfle] at hc2;exact hc2
        have hd1:=rC (fl:=c.fl) k.r hfi
        have hmb:=hbl m (List.mem_of_getElem? hm)
        have hsv3 : iA (cy vs [cC c.f c.u c.fl m.b])≤300 * (i+1):=by have:=gd [cC c.f c.u c.fl m.b] vs;omega
        obtain ⟨f0,fv,fs,fg,fp⟩:=st.fit k.z hd1.1 (B:=300 * (i+1)) (H:=2000) (g:=3 * i+5) hsv3 hnb hsz hg hgt
        obtain ⟨_,eR⟩:=o4.resolve_right fun h=>by have:=h.1;omega
        rw [hflt] at eR
        subst hr f0
        have hi0:=(List.getElem?_eq_some_iff.1 hm).1
        obtain ⟨rm,hrm⟩ : ∃ r,z.qm=some r:=by cases h : z.qm with | none=>rw [kz.qm h] at hi0;cases hi0 | some r=>exact ⟨r,rfl⟩
        obtain ⟨rY,mk2,mk3,jh⟩:=vV (fl:=fl) k.r kz hm hfi
        obtain ⟨T,hTe⟩ : ∃ T,aa 9 z.qn (R.nx.map fun x=>Z x.1)++(aa 3 z.qx (R.nx.map fun x=>N x.2)++ay z.ss)=T:=⟨_,rfl⟩
        obtain ⟨A,hAe⟩ : ∃ A,aa 9 z.qi (R.ms.map fun m=>Z m.f)=A:=⟨_,rfl⟩
        have hzE : z.E R=⟨zp,Row 37 (z.cs R),true⟩::(A++(aY 46 3 (some rm) (z.ms R)++T)):=by
          unfold Rx.E
          rw [hrm,hTe,hAe,hzp]
        have hzE2 : z.E (R.mark c.f c.u fl)=⟨zp,Row 37 (z.cs R),true⟩::(A++(aY 46 3 (some rm) ((z.ms R).set i0 (((z.ms R).getD i0 []).set 1 (N fl)))++T)):=by
          unfold Rx.E
          rw [mk2,mk3,jh,hrm,hzp]
          show _::(_++(_++(aa 9 z.qn (R.nx.map fun x=>Z x.1)++(aa 3 z.qx (R.nx.map fun x=>N x.2)++ay z.ss))))=_
          rw [hTe,hAe]
        obtain ⟨Z0,hZ0⟩ : ∃ Z0,(Bz.mk x.b z3).E++(A++T)=Z0:=⟨_,rfl⟩
        have hcsr1 : ∀ o,Row 37 (z.cs R) o→cellAt o 1=some (ah (some rm) R.ms.length):=by rw [← hrm];exact Row.cell rfl
        repeat (first | refine JL.q (by first|(apply OQ.gv (a:=(i0 : Int)) (b:=0) (c:=false);rfl;rfl;exact (decide_eq_false (by omega)))|(apply OQ.move;rfl)|(apply OQ.assign;rfl)) rfl ?_ | refine JC.seq ?_ | refine JC.region ?_ | refine JL.nil ?_ | refine JE.next ?_)
        refine JC.cond_false rfl rfl ?_
        refine JC.seq ?_
        rw [hzE]
        refine JC.AR (M':=⟨zp,Row 37 (z.cs R),true⟩::(aY 46 3 (some rm) (z.ms R)++([(⟨b11,Row 26 c.cs,true⟩ : ai)]++Z0))) ?_ (by rw [← hZ0];exact eS fun _ _ y=>by simp only [List.count_append,List.count_cons];omega)
        let vs : Nat→Nat→Value:=fun j y=>match j with
          | 0=>Pt zp 0
          | 1=>Pt zp 0
          | 2=>Pt zp 1
          | 3=>ah (some rm) R.ms.length
          | 4=>N i0
          | 5=>Pt b11 2
          | 6=>N fl
          | 7=>Pt rm.1 (0+i0 * 3)
          | 8=>Pt rm.1 (0+i0 * 3+1)
          | _=>N 0
        let Ms : Nat→Nat→List ai:=fun j y=>match j with
          | 9=>aY 46 3 (some rm) ((z.ms R).set i0 (((z.ms R).getD i0 []).set 1 (N fl)))
          | 10=>[⟨zp,Row 37 (z.cs R),true⟩]
          | 11=>aY 46 3 (some rm) (z.ms R)
          | 12=>[(⟨b11,Row 26 c.cs,true⟩ : ai)]
          | 13=>Z0
          | _=>[]
        refine JC.grow (g:=⟨[(0,calls.v),(1,Z name),(7,Pt p0 0),(9,Pt zp 0),(11,Pt b11 0),(60,calls.v),(61,N calls.l.length),(62,N i),(8,Pt x.b 0),(13,N i0),(17,N 0)],14,vs,Ms,(fun j=>match j with | 1=>[(0,187)] | 2=>[(1,188)] | 3=>[(2,189)] | 6=>[(5,192)] | 7=>[(3,190),(4,191)] | 8=>[(7,194)] | 9=>[(8,195),(6,193)] | _=>[]),(fun j=>match j with | 3=>[10] | 6=>[12] | 9=>[11] | _=>[]),(fun j=>match j with | 9=>[11] | _=>[]),(fun j=>match j with | _=>none)⟩) [] [10,9,12,13] bZ (by repeat (first | exact ag.nil | refine ag.cons _ _ _ rfl ?_)) ?_ (by kernel_rfl) (by kernel_rfl) (by kernel_rfl) ?_ ?_
        · show aj (⟨zp,Row 37 (z.cs R),true⟩::(aY 46 3 (some rm) (z.ms R)++([(⟨b11,Row 26 c.cs,true⟩ : ai)]++(Z0++[])))) _;rw [List.append_nil];exact aj.refl _
        · refine ⟨?_,?_,?_,?_,?_,?_,?_,?_,?_,?_,trivial⟩
          · (intro xx EF MF Q kk;(try refine JL.aB rfl rfl ?_);exact JL.q (OQ.move rfl) rfl (JL.nil (kk default nofun)))
          · (intro xx EF MF Q kk;(try refine JL.aB rfl rfl ?_);exact JL.q (OQ.aO rfl) rfl (JL.nil (kk default nofun)))
          · (intro xx EF MF Q kk;(try refine JL.aB rfl rfl ?_);exact JL.q (OQ.aV rfl rfl rfl (by decide) rfl) rfl (JL.nil (kk default nofun)))
          · (intro xx EF MF Q kk;(try refine JL.aB rfl rfl ?_);exact JL.q (OQ.load tu rfl .here hcsr1) rfl (JL.nil (kk default nofun)))
          · (intro xx EF MF Q kk;(try refine JL.aB rfl rfl ?_);exact JL.q (OQ.move rfl) rfl (JL.nil (kk default nofun)))
          · (intro xx EF MF Q kk;(try refine JL.aB rfl rfl ?_);exact JL.q (OQ.aV rfl rfl rfl (by decide) rfl) rfl (JL.nil (kk default nofun)))
          · (intro xx EF MF Q kk;(try refine JL.aB rfl rfl ?_);exact JL.q (OQ.load (v:=N fl) bI rfl .here hc2f) rfl (JL.nil (kk default nofun)))
          · (intro xx EF MF Q kk;(try refine JL.aB rfl rfl ?_);exact JL.q (OQ.fc (i:=i0) (b:=rm.1) (j:=0) Tryz.underlying34 mU rfl rfl hi0) rfl (JL.nil (kk default nofun)))
          · (intro xx EF MF Q kk;(try refine JL.aB rfl rfl ?_);exact JL.q (OQ.aV rfl rfl rfl (by decide) rfl) rfl (JL.nil (kk default nofun)))
          · (intro xx EF MF Q kk;exact Dg kz hi0 rfl rfl (JL.nil (kk default nofun)))
        · intro xx hx
          show JE _ _ _ _ _ [(0,calls.v),(1,Z name),(7,Pt p0 0),(9,Pt zp 0),(11,Pt b11 0),(60,calls.v),(61,N calls.l.length),(62,N i),(8,Pt x.b 0),(13,N i0),(17,N 0)] ([⟨zp,Row 37 (z.cs R),true⟩]++(aY 46 3 (some rm) ((z.ms R).set i0 (((z.ms R).getD i0 []).set 1 (N fl)))++([(⟨b11,Row 26 c.cs,true⟩ : ai)]++(Z0++[]))))
          clear hx xx vs Ms
          refine JE.next ?_
          repeat (first | refine JL.q (by first|(apply OQ.fQ (a:=0) (b:=0) (c:=true);rfl;rfl;rfl)|(apply OQ.move;rfl)) rfl ?_ | refine JC.seq ?_ | refine JC.region ?_ | refine JL.nil ?_ | refine JE.next ?_)
          refine JC.cond_false rfl rfl ?_
          repeat (first | refine JC.skip ?_ | refine JE.an ?_)
          refine JE.perm (M':=(Bz.mk x.b z3).E++(z.E (R.mark c.f c.u fl)++[(⟨b11,Row 26 c.cs,true⟩ : ai)])) (by rw [hzE2,← hZ0];exact eS fun _ _ y=>by simp only [List.count_append,List.count_cons,List.count_nil];omega) ?_
          have hml : (R.mark c.f c.u fl).ms.length=R.ms.length:=by show (List.map _ _).length=_;rw [List.length_map]
          have hmbl : ∀ m ∈ (R.mark c.f c.u fl).ms,m.b.length≤100:=fun m hm=>by
            obtain ⟨m',hm',rfl⟩:=List.mem_map.1 hm
            rw [(dn _ _ _ m').2.2]
            exact hbl m' hm'
          exact JE.mid (nu.mk (i+1) (Bz.mk x.b z3) recs3 vs3 R3 nd z) ⟨⟨hi',k3,by dsimp only;rw [eR];exact rY,hzp,by dsimp only;omega,by dsimp only;rw [eR];omega,by dsimp only;rw [eR];exact Nat.le_succ_of_le hnx,by dsimp only;rw [eR];exact hmbl,by dsimp only;rw [fv];exact hsv3,fs,fp.trans hp,by dsimp only;omega⟩,rfl⟩ (by repeat (first | exact ag.nil | refine ag.cons _ _ _ rfl ?_)) (by rw [eR];exact aj.refl _)
    repeat (first | refine JL.q (by first|(apply OQ.iC (b:=1);rfl;rfl;exact hh1)|(apply OQ.assign;rfl)) rfl ?_ | refine JC.seq ?_ | refine JC.region ?_ | refine JL.nil ?_ | refine JE.next ?_)
    refine JC.cond_false rfl rfl ?_
    cases h2
    case true=>
      repeat (first | refine JL.q (by first|(apply OQ.iC (b:=2);rfl;rfl;exact hh2)|(apply OQ.assign;rfl)) rfl ?_ | refine JC.seq ?_ | refine JC.region ?_ | refine JL.nil ?_ | refine JE.next ?_)
      refine JC.cond_true rfl rfl ?_
      refine JC.seq (JC.region ?_)
      repeat (refine JL.q (by first|(apply OQ.load;exact dU;rfl;exact (hHc x z R);exact hc3)|(apply OQ.move;rfl)|(apply OQ.aV;rfl;rfl;rfl;exact (by decide);rfl)) rfl ?_)
      refine JL.perm (M':=z.E R++(x.E++[(⟨b11,Row 26 c.cs,true⟩ : ai)])) ?_ (List.perm_append_comm_assoc _ _ _)
      refine JL.Cb (f:=c.f) kz hflz (by omega) hzv rfl rfl rfl fun q4=>?_
      repeat (refine JL.q (by (apply OQ.assign;rfl)) rfl ?_)
      refine JL.nil (JE.next ?_)
      refine JC.seq (JC.region ?_)
      have hel : (jW R c.f).length≤R.ms.length:=by
        unfold jW
        rw [List.length_map]
        exact List.length_filter_le _ _
      refine JL.perm (M':=x.E++(aa 3 (some q4) (au (jW R c.f))++(z.E R++[(⟨b11,Row 26 c.cs,true⟩ : ai)]))) ?_ (D2 _ _ _ _)
      repeat (refine JL.q (by first|(apply OQ.load;exact dU;rfl;exact (aG (aG (aG .here)));exact hc3)|(apply OQ.move;rfl)|(apply OQ.aV;rfl;rfl;rfl;exact (by decide);rfl)) rfl ?_)
      refine JL.C7 (f:=c.f) k (by omega) (by omega) hTA rfl rfl rfl fun r=>?_
      obtain ⟨cd,qe,le,hqe,z2,recs2,vs2,R2,k2,p2,o2⟩:=r
      dsimp only at hqe k2 p2 o2 ⊢
      have key : cd=0∧le=jW R c.f∧R2=R.aX c.f∧iA vs2≤300 * (i+1)∧z2.h.size=2000∧z2.h.x.p=p0∧z2.h.g.toNat≤3 * (i+1)+5:=by
        rcases o2 with ⟨e0,e1,e2,e3,e4,e5,e6⟩ | ⟨_,st,o3⟩
        · exact ⟨e1,by rw [e0,e2],by rw [e6,B9 e0],by rw [e5];omega,by rw [e3];exact hsz,by rw [e3];exact hp,by rw [e3];omega⟩
        · have hd1:=uB k.r c.f
          have hsv3 : iA (cy vs (gz R c.f))≤300 * (i+1):=by have:=hd1.2 vs;omega
          obtain ⟨f0,fv,fs,fg,fp⟩:=st.fit k.z hd1.1 (B:=300 * (i+1)) (H:=2000) (g:=3 * i+5) hsv3 hnb hsz hg hgt
          obtain ⟨_,el,eR⟩:=o3.resolve_right fun h=>by have:=h.1;omega
          exact ⟨f0,el,eR,by rw [fv];exact hsv3,fs,fp.trans hp,by omega⟩
      clear o2
      obtain ⟨e0,el,eR,hsv4,hsz4,hp4,hg4⟩:=key
      subst e0 el
      rw [← mX hqe]
      repeat (refine JL.q (by first|(apply OQ.extract;rfl;rfl)|(apply OQ.move;rfl)|(apply OQ.assign;rfl)) rfl ?_)
      refine JL.nil (JE.next ?_)
      refine JC.seq (JC.region ?_)
      refine JL.perm (M':=z.E R++((Bz.mk x.b z2).E++([(⟨b11,Row 26 c.cs,true⟩ : ai)]++(aa 3 qe (au (jW R c.f))++aa 3 (some q4) (au (jW R c.f)))))) ?_ (D3 _ _ _ _ _)
      repeat (refine JL.q (by first|(apply OQ.load;exact dU;rfl;exact (aG (aG .here));exact hc3)|(apply OQ.move;rfl)|(apply OQ.aV;rfl;rfl;rfl;exact (by decide);rfl)) rfl ?_)
      refine JL.DY kz (by omega) hflz hzv rfl rfl fun r=>?_
      obtain ⟨z3,hp3,kz3⟩:=r
      dsimp only at hp3 kz3 ⊢
      repeat (refine JL.q (by fail) rfl ?_)
      refine JL.nil (JE.next ?_)
      have hre:=fun (w' : World) (hw' : Holds w [] (z3.E (R.aX c.f)++((Bz.mk x.b z2).E++([(⟨b11,Row 26 c.cs,true⟩ : ai)]++(aa 3 qe (au (jW R c.f))++aa 3 (some q4) (au (jW R c.f)))))) w')=>Ao (q2:=q4) hqe (by omega) (jR (hw'.weak (av _ (av _ (av _ (aj.refl _)))))) (jR (M:=[]) (hw'.weak (by rw [List.append_nil];exact av _ (av _ (av _ (av _ (aj.refl _)))))))
      repeat (first | refine JL.q (by first|(apply OQ.fQ (a:=0) (b:=0) (c:=true);rfl;rfl;rfl)|(apply OQ.aF (vs:=[(cV qe (jW R c.f)).v,(cV (some q4) (jW R c.f)).v]);exact mW;rfl;exact (fun w' hw'=>hre w' hw'))|(apply OQ.not;rfl)|(apply OQ.aJ;rfl;rfl)|(apply OQ.move;rfl)) rfl ?_ | refine JC.seq ?_ | refine JC.region ?_ | refine JL.nil ?_ | refine JE.next ?_ | refine JL.aB rfl rfl ?_)
      refine JC.cond_false rfl rfl ?_
      repeat (first | refine JC.skip ?_ | refine JE.an ?_)
      refine JE.perm (M':=(Bz.mk x.b z2).E++(z3.E (R.aX c.f)++([(⟨b11,Row 26 c.cs,true⟩ : ai)]++(aa 3 qe (au (jW R c.f))++aa 3 (some q4) (au (jW R c.f)))))) (List.perm_append_comm_assoc _ _ _) ?_
      have hml : (R.aX c.f).ms.length≤R.ms.length:=List.length_filter_le _ _
      have hmbl : ∀ m ∈ (R.aX c.f).ms,m.b.length≤100:=fun m hm=>hbl m (List.mem_filter.1 hm).1
      exact JE.mid (nu.mk (i+1) (Bz.mk x.b z2) recs2 vs2 R2 nd z3) ⟨⟨hi',k2,by dsimp only;rw [eR];exact kz3,hp3.trans hzp,by dsimp only;omega,by dsimp only;rw [eR];omega,by dsimp only;rw [eR];exact Nat.le_succ_of_le hnx,by dsimp only;rw [eR];exact hmbl,hsv4,hsz4,hp4,hg4⟩,rfl⟩ (by repeat (first | exact ag.nil | refine ag.cons _ _ _ rfl ?_)) (by rw [eR];exact aE (aE (ax _ _) _) _)
    repeat (first | refine JL.q (by first|(apply OQ.iC (b:=2);rfl;rfl;exact hh2)|(apply OQ.assign;rfl)) rfl ?_ | refine JC.seq ?_ | refine JC.region ?_ | refine JL.nil ?_ | refine JE.next ?_)
    refine JC.cond_false rfl rfl ?_
    cases h3
    case true=>
      repeat (first | refine JL.q (by first|(apply OQ.iC (b:=3);rfl;rfl;exact hh3)|(apply OQ.assign;rfl)) rfl ?_ | refine JC.seq ?_ | refine JC.region ?_ | refine JL.nil ?_ | refine JE.next ?_)
      refine JC.cond_true rfl rfl ?_
      obtain ⟨ls,hls,hdo,hrc⟩:=k.z.again
      have hno : bY x.z.bl=0:=Jv.no _ _ _ k.z.jv (by omega)
      refine JC.seq (JC.region ?_)
      repeat (refine JL.q (by (apply OQ.move;rfl)) rfl ?_)
      refine JL.perm (M':=cg x.z.h.x x.z.bl []++(⟨x.z.p,Row 108 x.z.cs,true⟩::⟨x.z.mb,dO (x.z.mm,x.z.c),true⟩::⟨x.z.j,Row 160 (bp x.z.h),true⟩::(ay (x.z.mm.map ME.val)++([⟨x.b,Row 76 [Pt x.z.p 0],true⟩]++(z.E R++[(⟨b11,Row 26 c.cs,true⟩ : ai)]))))) ?_ (by unfold Bz.E;rw [List.append_assoc];exact BW x.z _)
      refine JL.bE (ι:=BZ x.z.h.x x.z.bl ls) (xs:=[.tmp 241]) (vs:=[Pt x.z.h.x.p 0]) (X:=cg x.z.h.x x.z.bl []) (fun y=>Pt y.1.b 0) (fun y=>y.1.E) iQ (by rw [hp];rfl) rfl (cl _ _ _) (fun y=>Bz.wr _) (fun w' _ hw=>jS x.z.h.x x.z.bl ls k.z.dk hno hls w' hw) fun y=>?_
      obtain ⟨y,y1,y2,y3⟩:=y
      dsimp only
      rw [hdo,hrc] at y1
      have hs2 : y.z.h.size=2000:=by rw [y2];show x.z.bl.length / 2=2000;rw [← k.z.jv.n];exact hsz
      have hx2 : y.z.h.x.p=p0:=by rw [y2];exact hp
      have hg2 : y.z.h.g.toNat≤x.z.h.g.toNat+1:=by rw [y2];exact oR k.z.jv.ue (by omega)
      refine JL.less (M':=y.E++(z.E R++[(⟨b11,Row 26 c.cs,true⟩ : ai)])) (aE (.drop _ _ _ (.drop _ _ _ (.drop _ _ _ (av _ (.drop _ _ _ (aj.refl _)))))) _) ?_
      repeat (refine JL.q (by (apply OQ.assign;rfl)) rfl ?_)
      refine JL.nil (JE.next ?_)
      repeat (first | refine JL.q (by first|(apply OQ.lU;exact Tryz.underlying28;rfl;rfl)|(apply OQ.move;rfl)) rfl ?_ | refine JC.seq ?_ | refine JC.region ?_ | refine JL.nil ?_ | refine JE.next ?_)
      refine JC.cond_false rfl rfl ?_
      repeat (first | refine JC.skip ?_ | refine JE.an ?_)
      exact JE.mid (nu.mk (i+1) y af vs R nd z) ⟨⟨hi',⟨y1,k.v,k.r⟩,kz,hzp,by dsimp only;omega,by dsimp only;omega,by dsimp only;omega,hbl,by dsimp only;omega,hs2,hx2,by dsimp only;omega⟩,rfl⟩ (by repeat (first | exact ag.nil | refine ag.cons _ _ _ rfl ?_)) (aj.refl _)
    repeat (first | refine JL.q (by first|(apply OQ.iC (b:=3);rfl;rfl;exact hh3)|(apply OQ.assign;rfl)) rfl ?_ | refine JC.seq ?_ | refine JC.region ?_ | refine JL.nil ?_ | refine JE.next ?_)
    refine JC.cond_false rfl rfl ?_
    refine JC.seq (JC.region ?_)
    repeat (refine JL.q (by first|(apply OQ.load;exact dU;rfl;exact (hHc x z R);exact hc3)|(apply OQ.load (v:=cU c.u);exact bI;rfl;exact (hHc x z R);exact hc1)|(apply OQ.move;rfl)|(apply OQ.aV;rfl;rfl;rfl;exact (by decide);rfl)) rfl ?_)
    refine JL.tj (x:=x) (f:=c.f) (u:=c.u) k (by omega) hcu.1 hcu.2 hTA rfl rfl rfl rfl fun r=>?_
    have hend : nu.ok p0 zp calls.l.length (nu.mk (i+1) x af vs R nd z):=⟨hi',k,kz,hzp,by dsimp only;omega,by dsimp only;omega,by dsimp only;omega,hbl,by dsimp only;omega,hsz,hp,by dsimp only;omega⟩
    rcases hfd with ⟨hr,hno⟩ | ⟨i0,m,hr,hm,hfi⟩
    · subst hr
      rw [hno]
      show JL Tryz.prog _ _ _ _ _ _ ((83,.tuple #[.agg (cm 0 0 bG).toArray,N 7])::_) ([]++(x.E++(z.E R++[(⟨b11,Row 26 c.cs,true⟩ : ai)])))
      rw [List.nil_append]
      repeat (refine JL.q (by first|(apply OQ.extract;rfl;rfl)|(apply OQ.move;rfl)) rfl ?_)
      refine JL.alloc Cj rfl fun b21 _=>?_
      refine JL.aq (cs:=cm 0 0 bG) mU rfl rfl rfl (by rfl) .here rfl ?_
      repeat (refine JL.q (by (apply OQ.assign;rfl)) rfl ?_)
      refine JL.nil (JE.next ?_)
      have hm0 : ∀ o,Row 46 (cm 0 0 bG) o→cellAt o 0=some (N 0):=Row.cell rfl
      refine JC.seq ?_
      refine JC.quiet bZ (by kernel_rfl) ?_
      repeat (first | refine JQ.q (by first|(apply OQ.gv (a:=-1) (b:=0) (c:=true);rfl;rfl;rfl)|(apply OQ.fQ (a:=7) (b:=7) (c:=true);rfl;rfl;rfl)|(apply OQ.load (v:=N 0);exact bI;rfl;exact .here;exact hm0)|(apply OQ.fQ (a:=0) (b:=0) (c:=true);rfl;rfl;rfl)|(apply OQ.ee (a:=-1) (b:=0) (c:=false);rfl;rfl;rfl)|(apply OQ.aS;rfl;rfl)|(apply OQ.aJ;rfl;rfl)|(apply OQ.move;rfl)|(apply OQ.aV;rfl;rfl;rfl;exact (by decide);rfl)) rfl ?_ | refine JQ.nil ?_ | refine JE.next ?_ | refine JQ.aB rfl rfl ?_ | refine JQ.bC rfl rfl rfl rfl ?_ | refine JQ.gF rfl rfl rfl rfl ?_)
      refine JC.cond_false rfl rfl ?_
      repeat (first | refine JC.skip ?_ | refine JE.an ?_)
      exact JE.mid (nu.mk (i+1) x af vs R nd z) ⟨hend,rfl⟩ (by repeat (first | exact ag.nil | refine ag.cons _ _ _ rfl ?_)) (.drop _ _ _ (aj.refl _))
    · obtain ⟨s,hs1,hs2,hs3⟩:=Rx.at kz hm
      subst hr
      rw [hfi]
      show JL Tryz.prog _ _ _ _ _ _ ((83,.tuple #[.agg (cm c.u m.fl (vQ r m.b)).toArray,N 0])::_) (aa 5 (some r) (m.v.map U8)++(x.E++(z.E R++[(⟨b11,Row 26 c.cs,true⟩ : ai)])))
      obtain ⟨s5,hs5⟩ : ∃ s5,vQ r m.b=s5:=⟨_,rfl⟩
      have hsl : s5.l=m.b:=by rw [← hs5];rfl
      rw [hs5]
      repeat (refine JL.q (by first|(apply OQ.extract;rfl;rfl)|(apply OQ.move;rfl)) rfl ?_)
      refine JL.alloc Cj rfl fun b21 _=>?_
      refine JL.aq (cs:=cm c.u m.fl s5) mU rfl rfl rfl (by rfl) .here rfl ?_
      repeat (refine JL.q (by (apply OQ.assign;rfl)) rfl ?_)
      refine JL.nil (JE.next ?_)
      have hi0:=(List.getElem?_eq_some_iff.1 hm).1
      have hmb:=hbl m (List.mem_of_getElem? hm)
      obtain ⟨rm,hrm⟩ : ∃ r,z.qm=some r:=by cases h : z.qm with | none=>rw [kz.qm h] at hi0;cases hi0 | some r=>exact ⟨r,rfl⟩
      have hm0 : ∀ o,Row 46 (cm c.u m.fl s5) o→cellAt o 0=some (cU c.u):=Row.cell rfl
      have hm1 : ∀ o,Row 46 (cm c.u m.fl s5) o→cellAt o 1=some (N m.fl):=Row.cell rfl
      have hm2 : ∀ o,Row 46 (cm c.u m.fl s5) o→cellAt o 2=some s5.v:=Row.cell rfl
      have hx1 : ∀ o,Row 37 (z.cs R) o→cellAt o 1=some (ah (some rm) R.ms.length):=by rw [← hrm];exact Row.cell rfl
      have hkx : ∀ (j : Nat) (v : Value),(cm m.u m.fl s)[j]?=some v→∀ o,Sl.Own 46 3 (z.ms R).length rm.2 (z.ms R).flatten o→cellAt o (0+i0 * 3+j)=some v:=fun j v hv o ho=>by
        obtain ⟨c,e,fr,rfl,hcc⟩:=Sl.Own.chunk (i:=i0) (z.AT R) (by rw [Rx.Ag kz];exact hi0) o ho
        rw [hs3] at hcc
        have:=hcc j (List.getElem?_eq_some_iff.1 hv).1
        show c[0+i0 * 3+j]?=_
        rw [Nat.zero_add,this,hv]
      have hk1:=hkx 1 (N m.fl) rfl
      have hk2:=hkx 2 s.v rfl
      have hMz : Has (z.E R) zp (Row 37 (z.cs R)) true:=by rw [← hzp];exact .here
      have hMm : Has (z.E R) rm.1 (Sl.Own 46 3 (z.ms R).length rm.2 (z.ms R).flatten) true:=by unfold Rx.E;exact .there (aG (by rw [hrm];exact .here))
      obtain ⟨XX,hXX⟩ : ∃ XX,aa 5 (some r) (m.v.map U8)++(x.E++(z.E R++[(⟨b11,Row 26 c.cs,true⟩ : ai)]))=XX:=⟨_,rfl⟩
      have hX1 : Has XX zp (Row 37 (z.cs R)) true:=by rw [← hXX];exact aG (aG (yC hMz))
      have hX2 : Has XX rm.1 (Sl.Own 46 3 (z.ms R).length rm.2 (z.ms R).flatten) true:=by rw [← hXX];exact aG (aG (yC hMm))
      have hX3 : Has XX b11 (Row 26 c.cs) true:=by rw [← hXX];exact aG (aG (aG .here))
      have hsame : ∀ (w' : World),Holds w [] (⟨b21,Row 46 (cm c.u m.fl s5),true⟩::XX) w'→Calls Tryz.prog 20 [s5.v,s.v].toArray w' fun e w2=>e=.returned (.bool true)∧Ext w' w2:=fun w' hw'=>by
        have ok1 : s5.ok w':=by
          rw [← hs5]
          refine yh (c:=BitVec.ofNat 8 m.fl) (M:=x.E++(z.E R++[(⟨b11,Row 26 c.cs,true⟩ : ai)])) (hw'.weak (.drop _ _ _ ?_))
          rw [← hXX]
          exact aj.refl _
        have Dx : s.ok w':=Rx.byte kz hs1 (.drop _ _ _ (by rw [← hXX];exact av _ (av _ (ax _ _)))) hw'
        have:=xo s5 s w' ok1 Dx (by rw [hsl];omega)
        rw [hsl,hs2,decide_eq_true rfl] at this
        exact this
      rw [hXX]
      refine JC.seq ?_
      refine JC.quiet bZ (by kernel_rfl) ?_
      repeat (first | refine JQ.q (by first|(apply OQ.gv (a:=(i0 : Int)) (b:=0) (c:=false);rfl;rfl;exact (decide_eq_false (by omega)))|(apply OQ.ee (a:=(i0 : Int)) (b:=0) (c:=true);rfl;rfl;exact (decide_eq_true (by omega)))|(apply OQ.fQ (a:=0) (b:=0) (c:=true);rfl;rfl;rfl)|(apply OQ.load (v:=cU c.u);exact bI;rfl;exact .here;exact hm0)|(apply OQ.load (v:=cU c.u);exact bI;rfl;exact (.there hX3);exact hc1)|(apply OQ.fQ (a:=c.u) (b:=c.u) (c:=true);rfl;rfl;exact (decide_eq_true rfl))|(apply OQ.load (v:=N m.fl);exact bI;rfl;exact .here;exact hm1)|(apply OQ.load;exact tu;rfl;exact (.there hX1);exact hx1)|(apply OQ.fc (i:=i0) (b:=rm.1) (j:=0);exact Tryz.underlying34;exact mU;rfl;rfl;exact hi0)|(apply OQ.load (v:=N m.fl);exact bI;rfl;exact (.there hX2);exact hk1)|(apply OQ.fQ (a:=(m.fl : Int)) (b:=(m.fl : Int)) (c:=true);rfl;rfl;exact (decide_eq_true rfl))|(apply OQ.load (v:=s5.v);exact rq;rfl;exact .here;exact hm2)|(apply OQ.load (v:=s.v);exact rq;rfl;exact (.there hX2);exact hk2)|(apply OQ.aF (vs:=[s5.v,s.v]);exact ve;rfl;exact (fun w' hw'=>hsame w' hw'))|(apply OQ.not;rfl)|(apply OQ.aS;rfl;rfl)|(apply OQ.aJ;rfl;rfl)|(apply OQ.move;rfl)|(apply OQ.aO;rfl)|(apply OQ.aV;rfl;rfl;rfl;exact (by decide);rfl)) rfl ?_ | refine JQ.nil ?_ | refine JE.next ?_ | refine JQ.aB rfl rfl ?_ | refine JQ.bC rfl rfl rfl rfl ?_ | refine JQ.gF rfl rfl rfl rfl ?_)
      refine JC.cond_false rfl rfl ?_
      repeat (first | refine JC.skip ?_ | refine JE.an ?_)
      exact JE.mid (nu.mk (i+1) x af vs R nd z) ⟨hend,rfl⟩ (by repeat (first | exact ag.nil | refine ag.cons _ _ _ rfl ?_)) (.drop _ _ _ (by rw [← hXX];exact av _ (aj.refl _)))
end
section
set_option maxRecDepth 10000
open Go.ChangeShapes Go.WideShapes Go.ChangeAt Go.RowKit
open Sl
set_option linter.unusedVariables false
theorem D4 : ownKnob Tryz.prog.godebug=none:=by kernel_rfl
theorem yD : laidOutB Tryz.prog=true:=by kernel_rfl
theorem Dh {z : Int} (h : (Lit.int .u8 z).wf=true) : U8 (BitVec.ofInt 8 z)=.int .u8 z:=by
  have h0 : 0≤z∧z≤255:=by
    have h1 : (decide (0≤z) && decide (z≤255))=true:=h
    simpa using h1
  have h2 : ((BitVec.ofInt 8 z).toNat : Int)=z:=by
    rw [BitVec.toNat_ofInt]
    omega
  unfold U8
  rw [h2]
def yE (P : Program) (t : TypeId) (i : Nat) (ty : TypeId) (off : Nat) : Bool:=match (P.fieldsOf t)[i]? with
  | some f=>f.type == ty && f.offset == off
  | none=>false
theorem vW {P : Program} {t : TypeId} {i : Nat} {ty : TypeId} {off : Nat} (h : yE P t i ty off=true) : ∃ f,(P.fieldsOf t)[i]?=some f∧f.type=ty∧f.offset=off:=by
  unfold yE at h
  split at h
  · next f e=>
    simp only [Bool.and_eq_true,beq_iff_eq] at h
    exact ⟨f,e,h.1,h.2⟩
  · cases h
def uE (zs : List Int) : List (BitVec 8):=zs.map (BitVec.ofInt 8)
theorem Cc {H : Type} {enc : TypeId × Value→H} {W : World} {fuel : Nat} {v : Value} {x : DataW H × List MemPlace} (h : DataW.trod enc Tryz.prog W 0 (fun _=>true) true fuel 24 [v]=some x) : ∃ k : aC,v=k.v∧k.ok W∧k.cap≤maxLen:=by
  rcases open_ints (show Tryz.prog.underlying 24=some (.slice 5) by kernel_rfl) (show Tryz.prog.underlying 5=some (.int .u8) by kernel_rfl) (by kernel_rfl) h with ⟨hcs,_⟩ | ⟨x,l,c,zs,hcs,_,hl,hm,hz,_,hcell,hwz⟩
  · cases hcs
    exact ⟨⟨none,0,[]⟩,rfl,⟨by simp,Reads.nil _ _⟩,by decide⟩
  · cases hcs
    simp only [if_true] at hz
    have hlen : (uE (zs.take l)).length=l:=by simp [uE];omega
    refine ⟨⟨some x,c,uE (zs.take l)⟩,by simp [aC.v,hlen],⟨by rw [hlen];exact hl,?_⟩,hm⟩
    intro i v hv
    have hi : i<l:=by
      have:=(List.getElem?_eq_some_iff.1 hv).1
      simpa [hlen] using this
    have hc:=hcell i (by omega)
    obtain ⟨b,o,sp⟩:=x
    cases sp with
    | some s=>
      have hc:=hcell 0 (by omega)
      simp only [World.cell?,Addr.add,if_true] at hc
      split at hc <;> simp at hc
    | none=>
      refine ⟨b,o,rfl,?_⟩
      have e1 : zs.getD i 0=zs[i]'(by omega):=by simp [List.getD,show i<zs.length by omega]
      have e2:=Dh (hwz (zs[i]'(by omega)) (List.getElem_mem _))
      have e3 : v=.int .u8 (zs.getD i 0):=by
        simp only [uE,List.map_map,List.getElem?_map,List.getElem?_take] at hv
        rw [if_pos hi,List.getElem?_eq_getElem (by omega)] at hv
        simp only [Option.map_some,Function.comp,Option.some.injEq] at hv
        rw [← hv,e2,e1]
      rw [e3]
      have e4 : (⟨b,o,none⟩ : Addr).add i=⟨b,o+i,none⟩:=by
        unfold Addr.add
        split
        · subst i;rfl
        · rfl
      rw [e4] at hc
      exact hc
end
section
open Go.ChangeShapes Go.WideShapes Go.ChangeAt Go.RowKit
open Sl
set_option linter.unusedVariables false
theorem jT {P : Program} {w : World} {n : String} {d : DataW Unit} : ∀ {L : List (String × DataW Unit)} {ps : List MemPlace},DataW.LaidVars P w L ps→(n,d) ∈ L→
    ∃ g t cs fuel p,P.globalNamed n=some g∧(P.globals[g]?).map (·.type)=some t∧w.var? P n=some cs∧DataW.trod (fun _=>()) P w 0 (fun _=>true) false fuel t cs.toList=some (d,p)
  | [],_,_,h=>by cases h
  | (n',d')::L,ps,⟨g,t,cs,fuel,p,q,h1,h2,h3,h4,h5,_⟩,h=>by
    rcases List.mem_cons.1 h with h | h
    · cases h
      exact ⟨g,t,cs,fuel,p,h1,h2,h3,h4⟩
    · exact jT h5 h
theorem nq : ((Rows.boxCallsRow.laid).all fun x=>x.2.handleName?.isNone)=true:=by kernel_rfl
theorem Aq (os : Os) (args : Array Value) : laidMetH Tryz.prog Rows.boxCallsRow.laid ((World.laidAll Tryz.prog os Rows.boxCallsRow.laid).forCall (fun _ _=>0) ⟨#[],args,[]⟩).memory:=by
  rw [MakeChecks.laidMetH_plain _ _ _ nq]
  exact laidMet_laidAll _ (by kernel_rfl) (by kernel_rfl)
theorem vX (os : Os) : (World.laidAll Tryz.prog os Rows.boxCallsRow.laid).Shaped Tryz.prog:=World.shaped_of_ZipB (by kernel_rfl) (by kernel_rfl)
theorem yF {W : World} {ps : List MemPlace} {L : List (String × DataW Unit)} (h : DataW.LaidVars Tryz.prog W L ps) (hm : ("internal/strconv.uint64pow10",Lib.tabData .u64 Go.Lib.pow10Tab) ∈ L) : eY W:=by
  obtain ⟨g,t,cs,fuel,p,h1,h2,h3,h4⟩:=jT h hm
  have hg : Tryz.prog.globalNamed "internal/strconv.uint64pow10" = some 3:=by kernel_rfl
  obtain rfl:=Option.some.inj (hg.symm.trans h1)
  obtain rfl:=Option.some.inj ((show (Tryz.prog.globals[3]?).map (·.type)=some 258 by kernel_rfl).symm.trans h2)
  have hcs:=Lib.cells_of_tab (show Tryz.prog.underlying 258=some (.array 20 90) by kernel_rfl) (show Tryz.prog.underlying 90=some (.int .u64) by kernel_rfl) (by kernel_rfl) (by kernel_rfl) h4
  unfold World.var? at h3
  rw [hg] at h3
  simp only [Option.bind_some] at h3
  split at h3
  · rename_i cs' e fr hb
    obtain rfl:=Option.some.inj h3
    refine ⟨e,fr,?_⟩
    rw [hb]
    have : cs'=(cs'.toList).toArray:=by simp
    rw [this,hcs]
    rfl
  · cases h3
theorem Ar : Rows.boxCallsRow.laid=[("math/bits.deBruijn32tab",Rows.laid_math_bits_deBruijn32tab),("math/bits.deBruijn64tab",Rows.laid_math_bits_deBruijn64tab),("internal/strconv.uint64pow10",Lib.tabData .u64 Go.Lib.pow10Tab),("strconv.ErrRange",Rows.laid_strconv_ErrRange),("strconv.ErrSyntax",Rows.laid_strconv_ErrSyntax)]:=by kernel_rfl
theorem rE {W : World} (h : laidMetH Tryz.prog Rows.boxCallsRow.laid W) : eY W:=by
  rw [MakeChecks.laidMetH_plain _ _ _ nq,Ar] at h
  obtain ⟨ps,h,_⟩:=h
  exact yF h (by simp)
end
section
set_option maxRecDepth 10000
open Go.ChangeShapes Go.WideShapes Go.ChangeAt Go.RowKit
open Sl
set_option linter.unusedVariables false
theorem vY {α : Type} {H : Type} {enc : TypeId × Value→H} {W : World} {fuel k : Nat} {t e : TypeId} {v : Value} {x : DataW H × List MemPlace} (cs : α→List Value) (P : α→Prop) (c0 : α) (hk0 : 0<k)
    (hu : Tryz.prog.underlying t=some (.slice e)) (hc1 : Tryz.prog.cellsOf e=k) (hlen : ∀ c,P c→(cs c).length=k)
    (hel : ∀ (l : List Value) (fuel : Nat) (x : DataW H × List MemPlace),l.length=k→DataW.trod enc Tryz.prog W 0 (fun _=>true) true fuel e l=some x→∃ c,l=cs c∧P c)
    (h : DataW.trod enc Tryz.prog W 0 (fun _=>true) true fuel t [v]=some x) :
    ∃ (ad : Option Addr) (cap : Nat) (l : List α),v=.slice ad l.length cap∧l.length≤cap∧Reads W ad (l.map cs).flatten∧∀ c ∈ l,P c:=by
  rcases Go.Deep.open_slice hu h with ⟨hcs,_⟩ | ⟨a',l,cap,m,n,D,Pl,hcs,_,hl,hm,hmm,hxx,hel'⟩
  · cases hcs
    exact ⟨none,0,[],rfl,Nat.le_refl _,Reads.nil _ _,nofun⟩
  · cases hcs
    simp only [if_true] at hmm
    subst hmm
    simp only [hc1] at hel'
    have hk : ∀ i,∃ c : α,i<l→(∀ j u,(cs c)[j]?=some u→W.cell? ((a'.add (i * k)).add j)=some u)∧P c:=by
      intro i
      by_cases hi : i<l
      · obtain ⟨cs',h1,h2⟩:=hel' i (by omega)
        obtain ⟨_,hlen',hcell⟩:=World.cells?_some h1
        obtain ⟨c,rfl,hp⟩:=hel _ _ _ hlen' h2
        refine ⟨c,fun _=>⟨fun j u hu=>?_,hp⟩⟩
        have hj : j<(cs c).length:=(List.getElem?_eq_some_iff.1 hu).1
        rw [hcell j (by omega)]
        exact hu
      · exact ⟨c0,fun h=>absurd h hi⟩
    let f : Nat→α:=fun i=>Classical.choose (hk i)
    have hf : ∀ i,i<l→(∀ j u,(cs (f i))[j]?=some u→W.cell? ((a'.add (i * k)).add j)=some u)∧P (f i):=fun i=>Classical.choose_spec (hk i)
    refine ⟨some a',m,(List.range l).map f,by simp,by simpa using hl,?_,?_⟩
    · intro i u hu
      have hcss : ∀ q ∈ ((List.range l).map f).map cs,q.length=k:=by
        intro q hq
        obtain ⟨d,hd,rfl⟩:=List.mem_map.1 hq
        obtain ⟨j,hj,rfl⟩:=List.mem_map.1 hd
        exact hlen _ (hf j (List.mem_range.1 hj)).2
      have hlen2:=bH hcss
      have hi : i<(((List.range l).map f).map cs).flatten.length:=(List.getElem?_eq_some_iff.1 hu).1
      rw [hlen2] at hi
      simp only [List.length_map,List.length_range] at hi
      have hq : i / k<l:=Nat.div_lt_of_lt_mul (by rw [Nat.mul_comm];exact hi)
      have hr : i % k<k:=Nat.mod_lt _ hk0
      have hat:=fu (i:=i / k) hcss (by simpa using hq)
      have e2 : (((List.range l).map f).map cs).getD (i / k) []=cs (f (i / k)):=by simp [hq]
      rw [e2] at hat
      have hdm : i / k * k+i % k=i:=by rw [Nat.mul_comm];exact Nat.div_add_mod i k
      have hu2 : (cs (f (i / k)))[i % k]?=some u:=by
        rw [← hat,List.getElem?_take,if_pos hr,List.getElem?_drop,hdm]
        exact hu
      have hc:=(hf (i / k) hq).1 (i % k) u hu2
      obtain ⟨b,o,sp⟩:=a'
      cases sp with
      | some s=>
        exfalso
        have h0:=hf 0 (Nat.lt_of_le_of_lt (Nat.zero_le _) hq)
        have hl0:=hlen _ h0.2
        obtain ⟨u0,hu0⟩ : ∃ u0,(cs (f 0))[0]?=some u0:=⟨_,List.getElem?_eq_getElem (by omega)⟩
        have h00:=h0.1 0 u0 hu0
        simp only [World.cell?,Addr.add,Nat.zero_mul,if_true] at h00
        split at h00 <;> simp at h00
      | none=>
        refine ⟨b,o,rfl,?_⟩
        rw [bL,bL,Nat.add_assoc,hdm] at hc
        exact hc
    · intro d hd
      obtain ⟨j,hj,rfl⟩:=List.mem_map.1 hd
      exact (hf j (List.mem_range.1 hj)).2
theorem yG {α : Type} {H : Type} {enc : TypeId × Value→H} {W : World} {base fuel k : Nat} {t e : TypeId} {v : Value} {x : DataW H × List MemPlace} (cs : α→List Value) (P : α→Prop) (c0 : α) (hk0 : 0<k)
    (hu : Tryz.prog.underlying t=some (.slice e)) (hc1 : Tryz.prog.cellsOf e=k) (hlen : ∀ c,P c→(cs c).length=k)
    (hel : ∀ (l : List Value) (fuel : Nat) (x : DataW H × List MemPlace),l.length=k→DataW.trod enc Tryz.prog W 0 (fun _=>true) true fuel e l=some x→∃ c,l=cs c∧P c)
    (hok : Value.okWide Tryz.prog W .any base t v) (h : DataW.trod enc Tryz.prog W 0 (fun _=>true) true fuel t v.cells.toList=some x) :
    ∃ (ad : Option Addr) (cap : Nat) (l : List α),v=.slice ad l.length cap∧l.length≤cap∧Reads W ad (l.map cs).flatten∧∀ c ∈ l,P c:=by
  obtain ⟨a,l,c,rfl⟩:=okWide_slice hu hok
  exact vY cs P c0 hk0 hu hc1 hlen hel h
theorem As {H : Type} {enc : TypeId × Value→H} {W : World} {fuel nf : Nat} {t : TypeId} {cs : List Value} {x : DataW H × List MemPlace} (ht : Tryz.prog.underlying t=some (.struct (Tryz.prog.fieldsOf t))) (hsz : (Tryz.prog.fieldsOf t).size=nf)
    (h : DataW.trod enc Tryz.prog W 0 (fun _=>true) true fuel t cs=some x) : ∃ n,∀ {i ty off},yE Tryz.prog t i ty off=true→i<nf→∃ y,DataW.trod enc Tryz.prog W 0 (fun _=>true) true n ty ((cs.drop off).take (Tryz.prog.cellsOf ty))=some y:=by
  obtain ⟨xs,n,_,_,_,hlen,hf⟩:=DataW.trod_struct ht h
  rw [hsz] at hlen
  refine ⟨n,fun {i ty off} h1 h2=>?_⟩
  obtain ⟨f,e1,rfl,rfl⟩:=vW h1
  exact ⟨xs[i],by rw [hf i f e1,List.getElem?_eq_getElem (by omega)]⟩
theorem Cd {cs : List Value} {off : Nat} (h : off<cs.length) : ∃ v,(cs.drop off).take 1=[v]∧cs[off]?=some v:=
  ⟨cs[off],by rw [List.drop_eq_getElem_cons h,List.take_succ_cons,List.take_zero],List.getElem?_eq_getElem h⟩
end
section
set_option maxRecDepth 10000
open Go.ChangeShapes Go.WideShapes Go.ChangeAt Go.RowKit
open Sl cY
set_option linter.unusedVariables false
theorem tE {H : Type} {enc : TypeId × Value→H} {W : World} {base fuel : Nat} {v : Value} {x : DataW H × List MemPlace} (hok : Value.okWide Tryz.prog W .any base 22 v) (h : DataW.trod enc Tryz.prog W 0 (fun _=>true) true fuel 22 v.cells.toList=some x) :
    ∃ k : uC,v=k.v∧k.ok W:=by
  obtain ⟨ad,cap,l,e,h1,h2,h3⟩:=yG (k:=5) (e:=26) gp.cs (fun c=>c.ok W) dG (by decide) (by kernel_rfl) (by kernel_rfl) (fun c _=>rfl)
    (fun l fuel x hl hx=>by
      obtain ⟨n,g⟩:=As (nf:=5) (by kernel_rfl) (by kernel_rfl) hx
      have c0 : Tryz.prog.cellsOf 3=1:=by kernel_rfl
      have c1 : Tryz.prog.cellsOf 24=1:=by kernel_rfl
      have c2 : Tryz.prog.cellsOf 9=1:=by kernel_rfl
      have hi : Tryz.prog.underlying 3=some (.int .i64):=by kernel_rfl
      have hs : Tryz.prog.underlying 9=some .string:=by kernel_rfl
      obtain ⟨y0,g0⟩:=g (i:=0) (ty:=3) (off:=0) (by kernel_rfl) (by decide)
      obtain ⟨y1,g1⟩:=g (i:=1) (ty:=3) (off:=1) (by kernel_rfl) (by decide)
      obtain ⟨y2,g2⟩:=g (i:=2) (ty:=3) (off:=2) (by kernel_rfl) (by decide)
      obtain ⟨y3,g3⟩:=g (i:=3) (ty:=9) (off:=3) (by kernel_rfl) (by decide)
      obtain ⟨y4,g4⟩:=g (i:=4) (ty:=24) (off:=4) (by kernel_rfl) (by decide)
      rw [c0] at g0 g1 g2
      rw [c2] at g3
      rw [c1] at g4
      obtain ⟨z0,q0,_,_⟩:=DataW.trod_int hi g0
      obtain ⟨z1,q1,_,w1⟩:=DataW.trod_int hi g1
      obtain ⟨z2,q2,_,_⟩:=DataW.trod_int hi g2
      obtain ⟨z3,q3,_,w3⟩:=DataW.trod_string hs g3
      obtain ⟨v,hv,_⟩:=Cd (off:=4) (by omega : 4<l.length)
      rw [hv] at g4
      obtain ⟨k,rfl,hk,_⟩:=Cc g4
      have hz : Value.string z3=Z (bytesOf z3):=by show _=Value.string _;rw [jw]
      have hw1 : -9223372036854775808≤z1∧z1≤9223372036854775807:=by
        have h : (decide (IntKind.i64.min≤z1) && decide (z1≤IntKind.i64.max))=true:=w1
        rw [Bool.and_eq_true,decide_eq_true_eq,decide_eq_true_eq,show IntKind.i64.min=-9223372036854775808 from rfl,show IntKind.i64.max=9223372036854775807 from rfl] at h
        exact h
      have hw3 : (bytesOf z3).length<9223372036854775808:=by
        rw [ec]
        have : maxLen<9223372036854775808:=by decide
        omega
      refine ⟨⟨z0,z1,z2,bytesOf z3,k⟩,?_,hw1,hw3,hk⟩
      match l,hl,q0,q1,q2,q3,hv with
      | [a,b,c,d,e],_,q0,q1,q2,q3,hv=>
        simp at q0 q1 q2 q3 hv
        rw [q0,q1,q2,q3,hv,hz]
        rfl) hok h
  exact ⟨⟨ad,cap,l⟩,e,⟨h1,h2,h3⟩⟩
end
end Go.Proofs.YtmhlgnbdhnolaaaGreatDoor
