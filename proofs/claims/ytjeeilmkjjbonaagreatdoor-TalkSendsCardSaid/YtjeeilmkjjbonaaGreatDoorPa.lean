/-
  Of no statement by itself: the texts FieS, LinS, LinT, TokS, TalP, TalO, LinK, TalQ, TokF, TokG, TalR, Sl, Slb, Slc, Slw, Slx, Sly, Slz, Slu, Slg, Slh, Slt, Slk, Slj, Slm, Slo, Sli, Slv in one.
  Conditions: each theorem's own.
-/
import Derived.Lib.IndexMore
import Derived.Deep.Quiet
import Derived.StillTail
import Derived.Below
import Derived.KernelRfl
import Derived.Tactics2
import Derived.Laws.Cells
import Derived.Laws.CopyRow
import Derived.Laws.Rows
import Derived.Laws.AppendOwn
import Derived.Stop.BytesEq
import Derived.Laws.StructEq
import Derived.Lib.ConvBytes
import Derived.Laws.MakeOwn
import Derived.Great.FillDense
import Derived.Laws.Externs
set_option linter.unusedSimpArgs false
set_option linter.unusedVariables false
namespace Go.Proofs.YtjeeilmkjjbonaaGreatDoor
section
namespace aI
abbrev By:=BitVec 8
def bl (c : By) : Bool:=c == 32 || c == 9
def B5 (c : By) : Bool:=decide (33≤c.toNat) && decide (c.toNat≤126) && !(c == 58)
def BC (c : By) : Bool:=c == 9 || (decide (32≤c.toNat) && decide (c.toNat≤126))
def y3 (s : List By) : Bool:=s.all B5 && decide (1≤s.length) && decide (s.length≤64)
def BD (s : List By) : Bool:=s.all BC && decide (s.length≤8192) && (decide (s.length=0) || (!bl (s.getD 0 0) && !bl (s.getD (s.length - 1) 0)))
def small (c : By) : By:=if 65≤c.toNat∧c.toNat≤90 then c+32 else c
def dN (a b : List By) : Bool:=decide (a.map small=b.map small)
theorem td (a : List By) : dN a a=true:=decide_eq_true rfl
def tn (v : List By) (i : Nat) : Bool:=decide (0<i) && (bl (v.getD i 0) && !bl (v.getD (i - 1) 0))
def scan (v : List By) (i : Nat) : Nat:=if h : i<v.length then (if tn v i then i else scan v (i+1)) else v.length
termination_by v.length - i
def st (n v : List By) : Nat→List By × Nat
  | 0=>(n++[58,32],n.length+2)
  | i+1=>if tn v i=true∧76<(st n v i).2+scan v (i+1) - i then ((st n v i).1++[13,10,v.getD i 0],1) else ((st n v i).1++[v.getD i 0],(st n v i).2+1)
inductive Fo : List By→List By→Prop
  | nil : Fo [] []
  | byte (c : By) (v L : List By) : BC c=true→Fo v L→Fo (c::v) (c::L)
  | fold (c : By) (e v L : List By) : bl c=true→(e=[10]∨e=[13,10])→Fo v L→Fo (c::v) (e++c::L)
theorem cx (v : List By) {i : Nat} (h : i<v.length) : v.take (i+1)=v.take i++[v.getD i 0]:=by
  rw [List.take_add_one,List.getD_eq_getElem?_getD,List.getElem?_eq_getElem h];rfl
def ox (b : List By) : List By:=b.takeWhile (· != 10)
def BE (l : List By) : List By:=if l.getLast?=some 13 then l.dropLast else l
def cut (b : List By) : Option (List By × List By):=if (ox b).length<b.length then some (BE (ox b),b.drop ((ox b).length+1)) else none
theorem vn {b l r : List By} (h : cut b=some (l,r)) : r.length<b.length:=by
  unfold cut at h
  split at h
  · cases h
    rw [List.length_drop];omega
  · cases h
def y4 (b : List By) : Option (List By × List By):=
  if bl (b.getD 0 0)=true∧b≠[] then
    match h : cut b with
    | none=>none
    | some (l,r)=>(y4 r).map fun q=>(l++q.1,q.2)
  else some ([],b)
termination_by b.length
decreasing_by exact vn h
def hend (b : List By) : Option Nat:=
  match h : cut b with
  | none=>none
  | some (l,r)=>if l=[] then some (b.length - r.length) else (hend r).map (·+(b.length - r.length))
termination_by b.length
decreasing_by exact vn h
def bO (v : List By) : List By:=v.dropWhile bl
def trim (v : List By) : List By:=(bO (bO v).reverse).reverse
def rd (k : Nat) (b : List By) : Except Nat (List (List By × List By) × List By):=
  match h : cut b with
  | none=>.error 3
  | some (l,r)=>
    if l=[] then .ok ([],r)
    else if (l.takeWhile (· != 58)).length=l.length∨¬ y3 (l.takeWhile (· != 58))=true then .error 3
    else if k=200 then .error 4
    else match h2 : y4 r with
      | none=>.error 3
      | some (vs,r')=>
        if 8192<(trim (l.drop ((l.takeWhile (· != 58)).length+1)++vs)).length then .error 4
        else if ¬ (trim (l.drop ((l.takeWhile (· != 58)).length+1)++vs)).all BC=true then .error 3
        else if hr : r'.length<b.length then (rd (k+1) r').map fun q=>((l.takeWhile (· != 58),trim (l.drop ((l.takeWhile (· != 58)).length+1)++vs))::q.1,q.2)
        else .error 3
termination_by b.length
def B6 (e : List By) : Prop:=e=[10]∨e=[13,10]
end aI
end
section
namespace br
abbrev By:=BitVec 8
def wh : By→List By→List By
  | _,[]=>[]
  | p,c::r=>(if (c=10∧p≠13)∨(c=13∧r.head?≠some 10) then [13,10] else [c])++wh c r
def iq (l : List By) : List By:=wh 0 l
def y5 : By→List By→Prop
  | _,[]=>True
  | p,c::r=>(c=10→p=13)∧(c=13→r.head?=some 10)∧y5 c r
theorem n10 (X : Prop) : ¬ (((10 : By)=10∧(13 : By)≠13)∨((10 : By)=13∧X)):=fun h=>h.elim (fun h=>h.2 rfl) (fun h=>absurd h.1 (by decide))
theorem xZ (r : List By) (h : r.head?=some 10) : (wh 13 r).head?=some 10:=by
  cases r with
  | nil=>cases h
  | cons c r=>
    obtain rfl : c=10:=Option.some.inj h
    show ((if ((10 : By)=10∧(13 : By)≠13)∨((10 : By)=13∧r.head?≠some 10) then [13,10] else [10])++wh 10 r).head?=some 10
    rw [if_neg (n10 _)];rfl
theorem ko : ∀ (l : List By) (p q : By),(p=13→l.head?=some 10→q=13)→y5 q (wh p l)
  | [],_,_,_=>trivial
  | c::r,p,q,h=>by
    rw [wh]
    by_cases h10 : c=10
    · subst h10
      have ih:=ko r 10 10 (fun e=>absurd e (by decide))
      by_cases hp : p=13
      · rw [if_neg (by rw [hp];exact n10 _)]
        exact ⟨fun _=>h hp rfl,fun e=>absurd e (by decide),ih⟩
      · rw [if_pos (Or.inl ⟨rfl,hp⟩)]
        exact ⟨fun e=>absurd e (by decide),fun _=>rfl,fun _=>rfl,fun e=>absurd e (by decide),ih⟩
    · by_cases h13 : c=13
      · subst h13
        by_cases hn : r.head?=some 10
        · rw [if_neg (by
            intro e
            rcases e with ⟨e,_⟩ | ⟨_,e⟩
            · exact absurd e (by decide)
            · exact e hn)]
          exact ⟨fun e=>absurd e (by decide),fun _=>xZ r hn,ko r 13 13 (fun _ _=>rfl)⟩
        · rw [if_pos (Or.inr ⟨rfl,hn⟩)]
          exact ⟨fun e=>absurd e (by decide),fun _=>rfl,fun _=>rfl,fun e=>absurd e (by decide),ko r 13 10 (fun _ e=>absurd e hn)⟩
      · rw [if_neg (by
          intro e
          rcases e with ⟨e,_⟩ | ⟨e,_⟩
          · exact h10 e
          · exact h13 e)]
        exact ⟨fun e=>absurd e h10,fun e=>absurd e h13,ko r c c (fun e=>absurd e h13)⟩
theorem rU (l : List By) : y5 0 (iq l):=ko l 0 0 (fun e=>absurd e (by decide))
theorem ng : ∀ (l : List By) (p : By),l.length≤(wh p l).length∧(wh p l).length≤2 * l.length
  | [],_=>⟨Nat.le_refl _,Nat.le_refl _⟩
  | c::r,p=>by
    have:=ng r c
    rw [wh,List.length_append]
    split <;> simp only [List.length_cons,List.length_nil] <;> omega
def gr (l : List By) (i : Nat) : List By:=if (l.getD i 0=10∧(i=0∨l.getD (i - 1) 0≠13))∨(l.getD i 0=13∧(i+1=l.length∨l.getD (i+1) 0≠10)) then [13,10] else [l.getD i 0]
theorem rV : ∀ (r a : List By),wh (a.getLast?.getD 0) r=(List.range r.length).flatMap fun j=>gr (a++r) (a.length+j)
  | [],_=>rfl
  | c::r,a=>by
    have ih:=rV r (a++[c])
    have e0 : (a++[c]).getLast?.getD 0=c:=by simp
    have e1 : a++[c]++r=a++c::r:=by simp
    rw [e0,e1] at ih
    have g0 : (a++c::r).getD (a.length+0) 0=c:=by simp [List.getD_eq_getElem?_getD]
    have g1 : (a++c::r).getD (a.length+0+1) 0=r.head?.getD 0:=by
      rw [List.getD_eq_getElem?_getD,List.getElem?_append_right (by omega),show a.length+0+1 - a.length=0+1 by omega]
      cases r <;> rfl
    have gl : (a++c::r).length=a.length+r.length+1:=by simp [Nat.add_assoc]
    have gp : a.length+0=0∨(a++c::r).getD (a.length+0 - 1) 0=a.getLast?.getD 0:=by
      by_cases h : a=[]
      · subst h;exact Or.inl rfl
      · right
        have hl : 0<a.length:=List.length_pos_iff.2 h
        rw [List.getD_eq_getElem?_getD,List.getElem?_append_left (by omega),List.getLast?_eq_getElem?]
        rfl
    have key : gr (a++c::r) (a.length+0)=(if (c=10∧a.getLast?.getD 0≠13)∨(c=13∧r.head?≠some 10) then [13,10] else [c]):=by
      unfold gr
      rw [g0,g1,gl]
      have i1 : (a.length+0=0∨(a++c::r).getD (a.length+0 - 1) 0≠13)↔a.getLast?.getD 0≠13:=by
        by_cases h : a=[]
        · subst h
          exact ⟨fun _=>by decide,fun _=>Or.inl rfl⟩
        · have hl : 0<a.length:=List.length_pos_iff.2 h
          rcases gp with gp | gp
          · omega
          · rw [gp]
            exact ⟨fun h=>h.elim (fun h=>by omega) id,Or.inr⟩
      have i2 : (a.length+0+1=a.length+r.length+1∨r.head?.getD 0≠10)↔r.head?≠some 10:=by
        cases r with
        | nil=>exact ⟨fun _=>by simp,fun _=>Or.inl rfl⟩
        | cons x r=>
          simp only [List.head?_cons,Option.getD_some,List.length_cons]
          exact ⟨fun h=>h.elim (fun h=>by omega) (fun h e=>h (Option.some.inj e)),fun h=>Or.inr fun e=>h (by rw [e])⟩
      simp only [i1,i2]
    rw [wh,ih,List.length_cons,List.range_succ_eq_map,List.flatMap_cons,key,List.flatMap_map]
    congr 1
    apply congrArg (fun f=>List.flatMap f (List.range r.length))
    funext j
    rw [List.length_append]
    show gr _ (a.length+1+j)=gr _ (a.length+(j+1))
    rw [show a.length+1+j=a.length+(j+1) by omega]
theorem vo (l : List By) : iq l=(List.range l.length).flatMap (gr l):=by
  have:=rV l []
  show wh 0 l=_
  simpa using this
def sp (s : List (List By) × List By) (c : By) : List (List By) × List By:=if c=10∧s.2.getLast?=some 13 then (s.1++[s.2.dropLast],[]) else (s.1,s.2++[c])
def bB (l : List By) : List (List By) × List By:=l.foldl sp ([],[])
def aE (ls : List (List By)) : List By:=ls.flatMap fun l=>l++[13,10]
theorem cK (a b : List (List By)) : aE (a++b)=aE a++aE b:=List.flatMap_append ..
theorem x4 (s : List (List By) × List By) (c : By) : aE (sp s c).1++(sp s c).2=aE s.1++s.2++[c]:=by
  unfold sp
  split
  · next h=>
    obtain ⟨h1,h2⟩:=h
    subst h1
    have e : s.2=s.2.dropLast++[13]:=by
      have hne : s.2≠[]:=fun e=>by rw [e] at h2;cases h2
      have h3:=List.getLast?_eq_some_getLast hne
      rw [h2] at h3
      have h4:=List.dropLast_concat_getLast hne
      rw [← Option.some.inj h3] at h4
      exact h4.symm
    rw [cK]
    show aE s.1++((s.2.dropLast++[13,10])++[])++[]=aE s.1++s.2++[10]
    rw [e]
    simp
  · simp
theorem kq : ∀ (l : List By) (s : List (List By) × List By),aE (l.foldl sp s).1++(l.foldl sp s).2=aE s.1++s.2++l
  | [],s=>by simp
  | c::l,s=>by
    rw [List.foldl_cons,kq l,x4]
    simp
theorem de (l : List By) : aE (bB l).1++(bB l).2=l:=by
  have:=kq l ([],[])
  simpa [bB,aE] using this
theorem jL : ∀ (l : List By) (s : List (List By) × List By),(∀ c ∈ l,c≠10)→l.foldl sp s=(s.1,s.2++l)
  | [],s,_=>by simp
  | c::l,s,h=>by
    have h1:=h c (List.mem_cons_self ..)
    have : sp s c=(s.1,s.2++[c]):=by unfold sp;rw [if_neg (fun e=>h1 e.1)]
    rw [List.foldl_cons,this,jL l _ fun x hx=>h x (List.mem_cons_of_mem _ hx)]
    simp
theorem qC (l : List By) (ls : List (List By)) (h : ∀ c ∈ l,c≠10) : (l++[13,10]).foldl sp (ls,[])=(ls++[l],[]):=by
  rw [List.foldl_append,jL l _ h]
  show sp (sp (ls,[]++l) 13) 10=_
  have e1 : sp (ls,[]++l) 13=(ls,l++[13]):=by unfold sp;rw [if_neg (fun e=>absurd e.1 (by decide))];simp
  rw [e1]
  unfold sp
  rw [if_pos ⟨rfl,by simp⟩]
  simp
theorem jM : ∀ (ls : List (List By)) (s : List (List By)),(∀ l ∈ ls,∀ c ∈ l,c≠10)→(aE ls).foldl sp (s,[])=(s++ls,[])
  | [],s,_=>by simp [aE]
  | l::ls,s,h=>by
    show ((l++[13,10])++aE ls).foldl sp (s,[])=_
    rw [List.foldl_append,qC l s (h l (List.mem_cons_self ..)),jM ls _ fun x hx=>h x (List.mem_cons_of_mem _ hx)]
    simp
theorem qD (ls : List (List By)) (t : List By) (h : ∀ l ∈ ls,∀ c ∈ l,c≠10) : bB (aE ls++t)=(ls++(bB t).1,(bB t).2):=by
  have key : ∀ (t : List By) (s : List (List By) × List By) (p : List (List By)),t.foldl sp (p++s.1,s.2)=(p++(t.foldl sp s).1,(t.foldl sp s).2):=by
    intro t
    induction t with
    | nil=>intro s p;rfl
    | cons c t ih=>
      intro s p
      rw [List.foldl_cons,List.foldl_cons]
      have : sp (p++s.1,s.2) c=(p++(sp s c).1,(sp s c).2):=by
        unfold sp
        split <;> simp
      rw [this,ih]
  unfold bB
  rw [List.foldl_append,jM ls [] h]
  have:=key t ([],[]) ls
  simpa using this
theorem jl : ∀ (l : List By) (s : List (List By) × List By),y5 (s.2.getLast?.getD 0) l→(∀ x ∈ s.1,∀ c ∈ x,c≠10∧c≠13)→(∀ c ∈ s.2.dropLast,c≠10∧c≠13)→(s.2.getLast?.getD 0≠10)→(s.2.getLast?.getD 0=13→l.head?=some 10)→
    (∀ x ∈ (l.foldl sp s).1,∀ c ∈ x,c≠10∧c≠13)∧(∀ c ∈ (l.foldl sp s).2,c≠10∧c≠13)
  | [],s,_,h1,h2,h3,h4=>by
    refine ⟨h1,fun c hc=>?_⟩
    have h13 : s.2.getLast?.getD 0≠13:=fun e=>by cases h4 e
    cases hs : s.2 with
    | nil=>
      have hc' : c ∈ s.2:=hc
      rw [hs] at hc'
      cases hc'
    | cons x r=>
      have hc' : c ∈ s.2:=hc
      have hne : s.2≠[]:=by rw [hs];simp
      have e:=List.dropLast_concat_getLast hne
      have hl : s.2.getLast?=some (s.2.getLast hne):=List.getLast?_eq_some_getLast hne
      rw [hl] at h3 h13
      rw [← e,List.mem_append] at hc'
      rcases hc' with hc' | hc'
      · exact h2 c hc'
      · obtain rfl : c=s.2.getLast hne:=by simpa using hc'
        exact ⟨h3,h13⟩
  | c::l,s,hc,h1,h2,h3,h4=>by
    obtain ⟨k1,k2,k3⟩:=hc
    rw [List.foldl_cons]
    by_cases h10 : c=10
    · have h13:=k1 h10
      have hl : s.2.getLast?=some 13:=by
        cases hq : s.2.getLast? with
        | none=>rw [hq] at h13;exact absurd h13 (by decide)
        | some x=>rw [hq] at h13;exact congrArg some h13
      have e : sp s c=(s.1++[s.2.dropLast],[]):=by unfold sp;rw [if_pos ⟨h10,hl⟩]
      rw [e]
      refine jl l _ ?_ ?_ (by simp) (by simp) (fun e=>absurd (show (0 : By)=13 from e) (by decide))
      · subst h10
        cases l with
        | nil=>trivial
        | cons d l=>
          obtain ⟨m1,m2,m3⟩:=k3
          exact ⟨fun e=>absurd (m1 e) (by decide),m2,m3⟩
      · intro x hx
        rcases List.mem_append.1 hx with hx | hx
        · exact h1 x hx
        · obtain rfl : x=s.2.dropLast:=by simpa using hx
          exact h2
    · have e : sp s c=(s.1,s.2++[c]):=by unfold sp;rw [if_neg (fun e=>h10 e.1)]
      rw [e]
      have el : (s.2++[c]).getLast?.getD 0=c:=by simp
      have ed : (s.2++[c]).dropLast=s.2:=by simp
      refine jl l _ (by rw [el];exact k3) h1 ?_ (by rw [el];exact h10) (by rw [el];exact k2)
      show ∀ d ∈ (s.2++[c]).dropLast,_
      rw [ed]
      have h13 : s.2.getLast?.getD 0≠13:=fun e=>by
        have:=h4 e
        simp only [List.head?_cons,Option.some.injEq] at this
        exact h10 this
      intro d hd
      have hne : s.2≠[]:=fun e=>by rw [e] at hd;cases hd
      have e:=List.dropLast_concat_getLast hne
      have hl : s.2.getLast?=some (s.2.getLast hne):=List.getLast?_eq_some_getLast hne
      rw [hl] at h3 h13
      rw [← e,List.mem_append] at hd
      rcases hd with hd | hd
      · exact h2 d hd
      · obtain rfl : d=s.2.getLast hne:=by simpa using hd
        exact ⟨h3,h13⟩
theorem oy {l : List By} (h : y5 0 l) : (∀ x ∈ (bB l).1,∀ c ∈ x,c≠10∧c≠13)∧(∀ c ∈ (bB l).2,c≠10∧c≠13):=
  jl l ([],[]) h (by simp) (by simp) (by decide) (fun e=>absurd e (by decide))
end br
end
section
namespace br
def laidB (b : List By) : List By:=if iq b=[]∨((iq b).getLast?=some 10∧(iq b).dropLast.getLast?=some 13) then iq b else iq b++[13,10]
def bh (l : List By) : List By:=if l.head?=some 46 then 46::l else l
def en (l : List By) : List By:=if l.head?=some 46 then l.tail else l
def iA (b : List By) : List By:=aE ((bB (laidB b)).1.map bh)++[46,13,10]
def gw : List (List By)→Option (List (List By) × List (List By))
  | []=>none
  | l::r=>if l=[46] then some ([],r) else (gw r).map fun p=>(en l::p.1,p.2)
def fz (b : List By) : Option (List By × List By):=(gw (bB b).1).map fun p=>(aE p.1,aE p.2++(bB b).2)
theorem rW : ∀ (l : List By) (p : By),y5 p l→y5 p (l++[13,10])
  | [],p,_=>⟨fun e=>absurd e (by decide),fun _=>rfl,fun _=>rfl,fun e=>absurd e (by decide),trivial⟩
  | c::r,p,h=>by
    obtain ⟨h1,h2,h3⟩:=h
    refine ⟨h1,fun e=>?_,rW r c h3⟩
    have:=h2 e
    cases r with
    | nil=>cases this
    | cons x r=>exact this
theorem l8 (b : List By) : y5 0 (laidB b):=by
  unfold laidB
  split
  · exact rU b
  · exact rW _ _ (rU b)
theorem kr {w : List By} (h1 : w.getLast?=some 10) (h2 : w.dropLast.getLast?=some 13) : w=w.dropLast.dropLast++[13,10]:=by
  have n1 : w≠[]:=fun e=>by rw [e] at h1;cases h1
  have n2 : w.dropLast≠[]:=fun e=>by rw [e] at h2;cases h2
  have e1:=List.dropLast_concat_getLast n1
  have e2:=List.dropLast_concat_getLast n2
  rw [List.getLast?_eq_some_getLast n1] at h1
  rw [List.getLast?_eq_some_getLast n2] at h2
  rw [Option.some.inj h1] at e1
  rw [Option.some.inj h2] at e2
  rw [← e2] at e1
  rw [← e1]
  simp
theorem rX (x : List By) : (bB (x++[13,10])).2=[]:=by
  unfold bB
  rw [List.foldl_append]
  show (sp (sp (x.foldl sp ([],[])) 13) 10).2=[]
  have e1 : sp (x.foldl sp ([],[])) 13=((x.foldl sp ([],[])).1,(x.foldl sp ([],[])).2++[13]):=by
    unfold sp
    rw [if_neg (fun e=>absurd e.1 (by decide))]
  rw [e1]
  unfold sp
  rw [if_pos ⟨rfl,by simp⟩]
theorem qE (b : List By) : (bB (laidB b)).2=[]:=by
  unfold laidB
  split
  · next h=>
    rcases h with h | ⟨h1,h2⟩
    · rw [h];rfl
    · rw [kr h1 h2];exact rX _
  · exact rX _
theorem ku (b : List By) : aE (bB (laidB b)).1=laidB b:=by
  have:=de (laidB b)
  rw [qE,List.append_nil] at this
  exact this
theorem oz (b : List By) : ∀ l ∈ (bB (laidB b)).1.map bh,∀ c ∈ l,c≠10:=by
  intro l hl c hc
  obtain ⟨x,hx,rfl⟩:=List.mem_map.1 hl
  have h:=(oy (l8 b)).1 x hx
  unfold bh at hc
  split at hc
  · rcases List.mem_cons.1 hc with rfl | hc
    · decide
    · exact (h c hc).1
  · exact (h c hc).1
theorem tf (l : List By) : bh l≠[46]:=by
  unfold bh
  split
  · next h=>intro e;cases l with
    | nil=>cases h
    | cons x r=>simp at e
  · next h=>intro e;rw [e] at h;exact h rfl
theorem qF (l : List By) : en (bh l)=l:=by
  unfold bh
  split
  · rfl
  · next h=>unfold en;rw [if_neg h]
theorem l9 : ∀ (ls r : List (List By)),gw (ls.map bh++[46]::r)=some (ls,r)
  | [],r=>by
    show (if ([46] : List By)=[46] then _ else _)=_
    rw [if_pos rfl]
  | l::ls,r=>by
    show (if bh l=[46] then _ else (gw (ls.map bh++[46]::r)).map fun p=>(en (bh l)::p.1,p.2))=_
    rw [if_neg (tf l),l9 ls r,qF];rfl
theorem kz : ∀ (ls : List (List By)),(∀ l ∈ ls,l≠[46])→gw ls=none
  | [],_=>rfl
  | l::ls,h=>by
    show (if l=[46] then _ else (gw ls).map fun p=>(en l::p.1,p.2))=_
    rw [if_neg (h l (List.mem_cons_self ..)),kz ls fun x hx=>h x (List.mem_cons_of_mem _ hx)];rfl
theorem zG (b : List By) : iA b=aE ((bB (laidB b)).1.map bh++[[46]]):=by
  rw [cK];rfl
theorem vp (b : List By) : ∀ l ∈ (bB (laidB b)).1.map bh++[[46]],∀ c ∈ l,c≠10:=by
  intro l hl c hc
  rcases List.mem_append.1 hl with hl | hl
  · exact oz b l hl c hc
  · obtain rfl : l=[46]:=by simpa using hl
    obtain rfl : c=46:=by simpa using hc
    decide
theorem rY (b t : List By) : fz (iA b++t)=some (laidB b,t):=by
  unfold fz
  rw [zG,qD _ t (vp b)]
  simp only
  rw [List.append_assoc]
  show (gw ((bB (laidB b)).1.map bh++[46]::(bB t).1)).map _=_
  rw [l9]
  show some (aE (bB (laidB b)).1,aE (bB t).1++(bB t).2)=_
  rw [ku,de]
def pl (s : Nat × Nat) (c : By) : Nat × Nat:=if c=10 then (s.1+1,0) else (s.1,s.2+1)
theorem y6 : ∀ (l : List By) (s : Nat × Nat),(l.foldl pl s).1≤s.1+l.length∧(l.foldl pl s).2≤s.2+l.length
  | [],_=>⟨Nat.le_refl _,Nat.le_refl _⟩
  | c::l,s=>by
    have:=y6 l (pl s c)
    rw [List.foldl_cons,List.length_cons]
    unfold pl at *
    split at this <;> simp only at this <;> split <;> simp_all <;> omega
end br
end
section
namespace Tok
open aI
def AB (c : By) (s : List By) : Bool:=s.any fun d=>d == c
def spec : List By:=[40,41,60,62,64,44,59,58,92,34,47,91,93,63,61,46]
def bV (c : By) : Bool:=decide (33≤c.toNat) && decide (c.toNat≤126) && !AB c spec
def gh (s : List By) : Bool:=s.all bV && decide (0<s.length)
def aX : List By→Nat→Bool→List By→List By × Nat
  | [],d,q,o=>if 0<d∨q=true then ([],3) else (o,0)
  | c::r,d,q,o=>
    if c=92∧(0<d∨q=true) then
      match r with
      | []=>([],3)
      | c2::r'=>aX r' d q (if q then o++[c,c2] else o)
    else if q then aX r d (!(c == 34)) (o++[c])
    else if c=40 then (if 9<d+1 then ([],5) else aX r (d+1) q o)
    else if c=41 then (if d=0 then ([],3) else aX r (d - 1) q (if d - 1=0 then o++[32] else o))
    else if d=0 then aX r d (c == 34) (o++[c])
    else aX r d q o
def eo (s : List By) : List By × Nat:=aX s 0 false []
def gx : List By→By→Bool
  | [],l=>!(l == 46)
  | c::r,l=>if (c=46∧l=46)∨(¬ c=46∧bV c=false) then false else gx r c
def cZ (s : List By) : Bool:=gx s 46
def fst (c : By) (s : List By) : Nat:=(s.takeWhile fun d=>!(d == c)).length
def Ax (s : List By) : List By:=(s.reverse.takeWhile fun d=>!(d == 60)).reverse
def dO (s : List By) : List By × Nat:=
  if fst 64 s=s.length∨cZ (s.take (fst 64 s))=false∨cZ (s.drop (fst 64 s+1))=false then ([],3)
  else (s.take (fst 64 s+1)++(s.drop (fst 64 s+1)).map small,0)
def iu (s : List By) : List By × Nat:=
  if 0<s.length∧s.getD (s.length - 1) 0=62 then
    (if 60 ∈ s then dO (trim (Ax s.dropLast)) else ([],3))
  else dO s
def cJ (s : List By) : List By × Nat:=if (eo s).2=0 then iu (trim (eo s).1) else ([],(eo s).2)
theorem eH (c : aI.By) (r : List aI.By) (d : Nat) (q : Bool) (o : List aI.By) (h : ¬ (c=92∧(0<d∨q=true))) : aX (c::r) d q o=if q then aX r d (!(c == 34)) (o++[c])
    else if c=40 then (if 9<d+1 then ([],5) else aX r (d+1) q o)
    else if c=41 then (if d=0 then ([],3) else aX r (d - 1) q (if d - 1=0 then o++[32] else o))
    else if d=0 then aX r d (c == 34) (o++[c])
    else aX r d q o:=by
  conv=>lhs;rw [aX.eq_def]
  dsimp only
  rw [if_neg h]
theorem kC (c2 : aI.By) (r : List aI.By) (d : Nat) (o : List aI.By) : aX (92::c2::r) d true o=aX r d true (o++[92]++[c2]):=by simp [aX]
theorem jm (d : Nat) (o : List aI.By) : aX [92] d true o=([],3):=by simp [aX]
theorem nh {c : aI.By} (h : ¬ c=92) (r : List aI.By) (d : Nat) (o : List aI.By) : aX (c::r) d true o=aX r d (!(c == 34)) (o++[c]):=by rw [eH _ _ _ _ _ (fun k=>h k.1),if_pos rfl]
theorem kD {d : Nat} (h : 0<d) (c2 : aI.By) (r : List aI.By) (o : List aI.By) : aX (92::c2::r) d false o=aX r d false o:=by simp [aX,h]
theorem jn {d : Nat} (h : 0<d) (o : List aI.By) : aX [92] d false o=([],3):=by simp [aX,h]
theorem iM (r : List aI.By) (d : Nat) (o : List aI.By) : aX (40::r) d false o=if 9<d+1 then ([],5) else aX r (d+1) false o:=by
  rw [eH _ _ _ _ _ (by rintro ⟨h,_⟩;revert h;decide),if_neg (by decide),if_pos rfl]
theorem j4 (r : List aI.By) (d : Nat) (o : List aI.By) : aX (41::r) d false o=if d=0 then ([],3) else aX r (d - 1) false (if d - 1=0 then o++[32] else o):=by
  rw [eH _ _ _ _ _ (by rintro ⟨h,_⟩;revert h;decide),if_neg (by decide),if_neg (by decide),if_pos rfl]
theorem kE {c : aI.By} (h1 : ¬ c=40) (h2 : ¬ c=41) (r : List aI.By) (o : List aI.By) : aX (c::r) 0 false o=aX r 0 (c == 34) (o++[c]):=by
  rw [eH _ _ _ _ _ (by rintro ⟨_,h | h⟩;exact absurd h (by decide);cases h),if_neg (by decide),if_neg h1,if_neg h2,if_pos rfl]
theorem vq {c : aI.By} {d : Nat} (h0 : ¬ c=92) (h1 : ¬ c=40) (h2 : ¬ c=41) (hd : ¬ d=0) (r : List aI.By) (o : List aI.By) : aX (c::r) d false o=aX r d false o:=by
  rw [eH _ _ _ _ _ (fun k=>h0 k.1),if_neg (by decide),if_neg h1,if_neg h2,if_neg hd]
theorem dn (d : Nat) (q : Bool) (o : List aI.By) : aX [] d q o=if (decide ((0 : Int)<(d : Int)) || q)=true then ([],3) else (o,0):=by
  rw [aX]
  congr 1
  rw [Bool.or_eq_true,decide_eq_true_eq]
  exact propext (or_congr (by omega) Iff.rfl)
theorem vr : ∀ (n : Nat) (r : List aI.By) (d : Nat) (q : Bool) (o : List aI.By),r.length≤n→(aX r d q o).1.length≤o.length+r.length:=by
  intro n
  induction n with
  | zero=>
    intro r d q o h
    obtain rfl : r=[]:=List.eq_nil_of_length_eq_zero (by omega)
    rw [dn]
    split <;> simp
  | succ n ih=>
    intro r d q o h
    match r,h with
    | [],_=>rw [dn];split <;> simp
    | c::r,h=>
      simp only [List.length_cons] at h ⊢
      by_cases h9 : c=92∧(0<d∨q=true)
      · obtain ⟨rfl,hq⟩:=h9
        match r,h with
        | [],_=>
          cases q
          · rw [jn (by simpa using hq)];simp
          · rw [jm];simp
        | c2::r,h=>
          simp only [List.length_cons] at h ⊢
          cases q
          · rw [kD (by simpa using hq)]
            have:=ih r d false o (by omega)
            omega
          · rw [kC]
            have:=ih r d true (o++[92]++[c2]) (by omega)
            simp only [List.length_append,List.length_cons,List.length_nil] at this
            omega
      · rw [eH c r d q o h9]
        have h0:=ih r d (!(c == 34)) (o++[c]) (by omega)
        have h1:=ih r (d+1) q o (by omega)
        have h2:=ih r (d - 1) q (if d - 1=0 then o++[32] else o) (by omega)
        have h3:=ih r d (c == 34) (o++[c]) (by omega)
        have h4:=ih r d q o (by omega)
        have h5 : (if d - 1=0 then o++[32] else o).length≤o.length+1:=by split <;> simp
        simp only [List.length_append,List.length_cons,List.length_nil] at h0 h3
        generalize (if d - 1=0 then o++[32] else o)=o2 at h2 h5 ⊢
        split
        · omega
        split
        · split
          · simp
          · omega
        split
        · split
          · simp
          · omega
        split
        · omega
        · omega
theorem mc (s : List aI.By) : (eo s).1.length≤s.length:=by
  have:=vr s.length s 0 false [] (Nat.le_refl _)
  simp only [List.length_nil,Nat.zero_add] at this
  exact this
end Tok
end
section
namespace dF
abbrev By:=BitVec 8
def bP : List By:=[72,69,76,79]
def aP : List By:=[77,65,73,76,32,70,82,79,77,58]
def aK : List By:=[82,67,80,84,32,84,79,58]
def bA : List By:=[68,65,84,65]
def dh : List By:=[82,83,69,84]
def bu : List By:=[81,85,73,84]
def oA : List By:=[50,50,49,32,98,121,101]
def fc : List By:=[50,53,48,32,111,107]
def AD : List By:=[51,53,52,32,103,111]
def rZ : List By:=[52,53,50,32,109,97,110,121]
def eX : List By:=[53,48,48,32,119,104,97,116]
def dW : List By:=[53,48,49,32,102,111,114,109]
def cy : List By:=[53,48,51,32,111,114,100,101,114]
structure Ml where
  fr : List By
  to : List (List By)
  b : List By
structure Po where
  st : Nat
  fr : List By
  to : List (List By)
  ln : List By
  dt : List By
  ms : List Ml
def new : Po:=⟨0,[],[],[],[],[]⟩
def dX (a : List By) : Bool:=decide ((Tok.cJ a).2=0) && decide ((Tok.cJ a).1=a)
def ep (s : List By) : Option (List By):=if s.head?=some 60∧s.tail.getLast?=some 62∧dX s.tail.dropLast=true then some s.tail.dropLast else none
def ax (w l : List By) : Bool:=decide (w.length≤l.length) && aI.dN (l.take w.length) w
def cg (S : Po) (st : Nat) : Po:=⟨st,[],[],S.ln,[],S.ms⟩
def dZ (S : Po) (t : List By) : Po × List By:=if t.head?=some 32 then (cg S 1,fc) else (S,dW)
def bW (S : Po) (t : List By) : Po × List By:=match ep t with
  | none=>(S,dW)
  | some a=>if S.st=1 then (⟨2,a,S.to,S.ln,S.dt,S.ms⟩,fc) else (S,cy)
def dP (S : Po) (t : List By) : Po × List By:=match ep t with
  | none=>(S,dW)
  | some a=>if S.st=2∨S.st=3 then (if S.to.length=10 then (S,rZ) else (⟨3,S.fr,S.to++[a],S.ln,S.dt,S.ms⟩,fc)) else (S,cy)
def dy (S : Po) (t : List By) : Po × List By:=if t=[] then (if S.st=3 then (⟨4,S.fr,S.to,S.ln,S.dt,S.ms⟩,AD) else (S,cy)) else (S,dW)
def dj (S : Po) (t : List By) : Po × List By:=if t=[] then (if S.st=0 then (S,fc) else (cg S 1,fc)) else (S,dW)
def gi (S : Po) (t : List By) : Po × List By:=if t=[] then (cg S 5,oA) else (S,dW)
def aZ (S : Po) (l : List By) : Po × List By:=
  if 512<l.length then (S,eX)
  else if ax bP l then dZ S (l.drop 4)
  else if ax aP l then bW S (l.drop 10)
  else if ax aK l then dP S (l.drop 8)
  else if ax bA l then dy S (l.drop 4)
  else if ax dh l then dj S (l.drop 4)
  else if ax bu l then gi S (l.drop 4)
  else (S,eX)
def cu (d : List By) : List By:=((br.fz (d++[46,13,10])).map Prod.fst).getD []
def gy (S : Po) : Po × List By:=(⟨1,[],[],S.ln,[],S.ms++[⟨S.fr,S.to,cu S.dt⟩]⟩,fc)
def bn (S : Po) (l : List By) : Po × List By:=
  if S.st=4 then (if l=[46] then ((gy S).1,(gy S).2++[13,10]) else (⟨S.st,S.fr,S.to,S.ln,S.dt++(l++[13,10]),S.ms⟩,[]))
  else ((aZ S l).1,(aZ S l).2++[13,10])
def ends (l : List By) : Bool:=decide (l.getLast?=some 10) && decide (l.dropLast.getLast?=some 13)
def bE (S : Po) (x : List By) : Po × List By:=
  if ends (S.ln++x) then bn ⟨S.st,S.fr,S.to,[],S.dt,S.ms⟩ (S.ln++x).dropLast.dropLast else (⟨S.st,S.fr,S.to,S.ln++x,S.dt,S.ms⟩,[])
def bZ (P : Po × List By) (c : By) : Po × List By:=if P.1.st=5 then P else ((bE P.1 [c]).1,P.2++(bE P.1 [c]).2)
def aA (S : Po) (b : List By) : Po × List By:=b.foldl bZ (S,[])
theorem gz (l : List By) : ends (l++[13,10])=true:=by
  have h1 : (l++[13,10]).getLast?=some (10 : By):=by simp
  have h2 : (l++[13,10]).dropLast.getLast?=some (13 : By):=by
    rw [show l++[(13 : By),10]=(l++[13])++[10] by simp,List.dropLast_concat];simp
  unfold ends
  rw [h1,h2]
  rfl
theorem j5 {l : List By} (h : ends l=true) : l=l.dropLast.dropLast++[13,10]:=by
  unfold ends at h
  rw [Bool.and_eq_true,decide_eq_true_iff,decide_eq_true_iff] at h
  exact br.kr h.1 h.2
theorem y7 (l : List By) : (l++[(13 : By),10]).dropLast.dropLast=l:=by
  rw [show l++[(13 : By),10]=(l++[13])++[10] by simp,List.dropLast_concat,List.dropLast_concat]
theorem gA {l : List By} (h : ends l=true) : l.dropLast.dropLast.length+2=l.length:=by
  have:=congrArg List.length (j5 h)
  rw [List.length_append] at this
  exact this.symm
theorem x5 {l : List By} (c : By) (h : c≠10) : ends (l++[c])=false:=by
  unfold ends
  have : (l++[c]).getLast?≠some (10 : By):=by rw [List.getLast?_concat];exact fun e=>h (Option.some.inj e)
  rw [decide_eq_false this,Bool.false_and]
theorem jo : ∀ (b : List By) (S : Po) (o : List By),b.foldl bZ (S,o)=((aA S b).1,o++(aA S b).2)
  | [],S,o=>by simp [aA]
  | c::b,S,o=>by
    have e : ∀ o',(c::b).foldl bZ (S,o')=b.foldl bZ (bZ (S,o') c):=fun _=>rfl
    have h : ∀ o',bZ (S,o') c=((bZ (S,[]) c).1,o'++(bZ (S,[]) c).2):=by
      intro o'
      unfold bZ
      dsimp only
      split <;> simp
    unfold aA
    rw [e,e,h o,jo b (bZ (S,[]) c).1 (o++(bZ (S,[]) c).2),← Prod.eta (bZ (S,[]) c),jo b (bZ (S,[]) c).1 (bZ (S,[]) c).2]
    dsimp only
    rw [List.append_assoc]
theorem ck (S : Po) (a b : List By) : aA S (a++b)=((aA (aA S a).1 b).1,(aA S a).2++(aA (aA S a).1 b).2):=by
  unfold aA
  rw [List.foldl_append,← Prod.eta (a.foldl bZ (S,[]))]
  exact jo b _ _
theorem iB {S : Po} (h : S.st=5) : ∀ b : List By,aA S b=(S,[])
  | []=>rfl
  | c::b=>by
    have e : aA S (c::b)=b.foldl bZ (bZ (S,[]) c):=rfl
    rw [e]
    have : bZ (S,[]) c=(S,[]):=by unfold bZ;rw [if_pos h]
    rw [this]
    exact iB h b
theorem kF : ∀ (x : List By) (S : Po),S.st≠5→(∀ c ∈ x,c≠10)→aA S x=(⟨S.st,S.fr,S.to,S.ln++x,S.dt,S.ms⟩,[])
  | [],S,_,_=>by simp [aA]
  | c::x,S,h5,hx=>by
    have e : aA S (c::x)=x.foldl bZ (bZ (S,[]) c):=rfl
    have hc:=x5 (l:=S.ln) c (hx c List.mem_cons_self)
    have : bZ (S,[]) c=(⟨S.st,S.fr,S.to,S.ln++[c],S.dt,S.ms⟩,[]):=by
      unfold bZ bE
      rw [if_neg h5]
      dsimp only
      rw [hc]
      rfl
    rw [e,this]
    have:=kF x ⟨S.st,S.fr,S.to,S.ln++[c],S.dt,S.ms⟩ h5 (fun d hd=>hx d (List.mem_cons_of_mem _ hd))
    unfold aA at this
    rw [this]
    simp
theorem kG (x : List By) (S : Po) (h5 : S.st≠5) (h0 : x≠[]) (hx : ∀ c ∈ x.dropLast,c≠10) : aA S x=bE S x:=by
  obtain ⟨y,c,rfl⟩:=(List.eq_nil_or_concat x).resolve_left h0
  rw [List.concat_eq_append] at *
  rw [List.dropLast_concat] at hx
  rw [ck,kF y S h5 hx]
  dsimp only
  have e : ∀ T : Po,T.st≠5→aA T [c]=bE T [c]:=by
    intro T hT
    show bZ (T,[]) c=_
    unfold bZ
    rw [if_neg hT]
    dsimp only
    rw [List.nil_append]
  rw [e ⟨S.st,S.fr,S.to,S.ln++y,S.dt,S.ms⟩ h5]
  have : bE ⟨S.st,S.fr,S.to,S.ln++y,S.dt,S.ms⟩ [c]=bE S (y++[c]):=by
    unfold bE
    dsimp only
    rw [List.append_assoc]
  rw [this,List.nil_append]
def Po.sz (S : Po) : Nat:=S.ln.length+S.dt.length+S.ms.length
structure Po.fit (S : Po) (n : Nat) : Prop where
  sz : S.sz≤n
  to : S.to.length≤10
theorem tg (S : Po) (t : List By) : (bW S t).1.to=S.to∧(bW S t).1.sz=S.sz∧(bW S t).1.ln=S.ln:=by
  unfold bW Po.sz
  repeat' split
  all_goals exact ⟨rfl,rfl,rfl⟩
theorem x6 (S : Po) (t : List By) (h : S.to.length≤10) : (dP S t).1.to.length≤10∧(dP S t).1.sz=S.sz∧(dP S t).1.ln=S.ln:=by
  unfold dP Po.sz
  repeat' split
  all_goals (refine ⟨?_,rfl,rfl⟩;first | exact h|(show (S.to++[_]).length≤10;rw [List.length_append,List.length_singleton];omega))
theorem ni (S : Po) (k : Nat) : (cg S k).to.length≤10∧(cg S k).sz≤S.sz∧(cg S k).ln=S.ln:=by
  refine ⟨by show 0≤10;omega,?_,rfl⟩
  unfold cg Po.sz
  simp only [List.length_nil]
  omega
theorem kH (S : Po) (l : List By) (h : S.to.length≤10) : (aZ S l).1.to.length≤10∧(aZ S l).1.sz≤S.sz∧(aZ S l).1.ln=S.ln:=by
  have h0 : S.to.length≤10∧S.sz≤S.sz∧S.ln=S.ln:=⟨h,Nat.le_refl _,rfl⟩
  unfold aZ
  split
  · exact h0
  split
  · unfold dZ
    split
    · exact ni S 1
    · exact h0
  split
  · obtain ⟨a,b,c⟩:=tg S (l.drop 10)
    exact ⟨a ▸ h,by omega,c⟩
  split
  · obtain ⟨a,b,c⟩:=x6 S (l.drop 8) h
    exact ⟨a,by omega,c⟩
  split
  · unfold dy
    repeat' split
    all_goals exact h0
  split
  · unfold dj
    repeat' split
    all_goals first | exact h0 | exact ni S 1
  split
  · unfold gi
    split
    · exact ni S 5
    · exact h0
  · exact h0
theorem kI (S : Po) (l : List By) (n : Nat) (h : S.fit n) : (bn S l).1.fit (n+l.length+2)∧(bn S l).1.ln=S.ln:=by
  unfold bn
  split
  · split
    · refine ⟨⟨?_,by show 0≤10;omega⟩,rfl⟩
      have:=h.sz
      unfold gy Po.sz at *
      simp only [List.length_append,List.length_cons,List.length_nil]
      omega
    · refine ⟨⟨?_,h.to⟩,rfl⟩
      have:=h.sz
      unfold Po.sz at *
      simp only [List.length_append,List.length_cons,List.length_nil]
      omega
  · obtain ⟨a,b,c⟩:=kH S l h.to
    exact ⟨⟨by have:=h.sz;show (aZ S l).1.sz≤_;omega,a⟩,c⟩
theorem th (S : Po) (x : List By) (n : Nat) (h : S.fit n) : (bE S x).1.fit (n+x.length):=by
  unfold bE
  split
  · rename_i he
    have hl:=gA he
    have h1:=h.sz
    unfold Po.sz at h1
    rw [List.length_append] at hl
    have h2:=(kI ⟨S.st,S.fr,S.to,[],S.dt,S.ms⟩ (S.ln++x).dropLast.dropLast (S.dt.length+S.ms.length) ⟨by unfold Po.sz;simp,h.to⟩).1
    exact ⟨by have:=h2.sz;omega,h2.to⟩
  · refine ⟨?_,h.to⟩
    have:=h.sz
    unfold Po.sz at *
    simp only [List.length_append]
    omega
end dF
end
section
namespace dF
def tq : Nat→List By
  | 0=>bP
  | 1=>aP
  | 2=>aK
  | _=>bA
theorem vt {k : Nat} (hk : k≤3) {S : Po} (hst : S.st≤k) {l : List By} (hno : ax (tq k) l=false) : ((aZ S l).1.st=5∨(aZ S l).1.st≤k)∧(aZ S l).1.ms=S.ms∧3≤(aZ S l).2.length:=by
  have h0 : ∀ y : List By,3≤y.length→((S,y).1.st=5∨(S,y).1.st≤k)∧(S,y).1.ms=S.ms∧3≤(S,y).2.length:=fun y hy=>⟨.inr hst,rfl,hy⟩
  have k4 : k=0∨k=1∨k=2∨k=3:=by omega
  unfold aZ
  split
  · exact h0 _ (by decide)
  split
  · rename_i hs
    have hk1 : 1≤k:=by
      rcases Nat.eq_zero_or_pos k with rfl | h
      · rw [show tq 0=bP from rfl,hs] at hno;cases hno
      · exact h
    unfold dZ
    split
    · exact ⟨.inr hk1,rfl,(by decide : 3≤fc.length)⟩
    · exact h0 _ (by decide)
  split
  · rename_i hs
    unfold bW
    split
    · exact h0 _ (by decide)
    · split
      · rename_i h1
        refine ⟨.inr ?_,rfl,(by decide : 3≤fc.length)⟩
        show 2≤k
        rcases k4 with rfl | rfl | rfl | rfl
        · omega
        · rw [show tq 1=aP from rfl,hs] at hno;cases hno
        · omega
        · omega
      · exact h0 _ (by decide)
  split
  · rename_i hs
    unfold dP
    split
    · exact h0 _ (by decide)
    · split
      · rename_i h1
        split
        · exact h0 _ (by decide)
        · refine ⟨.inr ?_,rfl,(by decide : 3≤fc.length)⟩
          show 3≤k
          rcases k4 with rfl | rfl | rfl | rfl
          · omega
          · omega
          · rw [show tq 2=aK from rfl,hs] at hno;cases hno
          · omega
      · exact h0 _ (by decide)
  split
  · rename_i hs
    unfold dy
    split
    · split
      · rename_i h1
        exfalso
        rcases k4 with rfl | rfl | rfl | rfl
        · omega
        · omega
        · omega
        · rw [show tq 3=bA from rfl,hs] at hno;cases hno
      · exact h0 _ (by decide)
    · exact h0 _ (by decide)
  split
  · unfold dj
    split
    · split
      · exact h0 _ (by decide)
      · exact ⟨.inr (by show 1≤k;omega),rfl,(by decide : 3≤fc.length)⟩
    · exact h0 _ (by decide)
  split
  · unfold gi
    split
    · exact ⟨.inl rfl,rfl,(by decide : 3≤oA.length)⟩
    · exact h0 _ (by decide)
  · exact h0 _ (by decide)
structure Inv (k : Nat) (S : Po) : Prop where
  ms : S.ms=[]
  ln : S.ln=[]
  st : S.st=5∨S.st≤k
theorem ef {S : Po} (h5 : S.st≠5) (h4 : S.st≠4) (hn : S.ln=[]) (l : List By) (hl : ∀ c ∈ l,c≠10) : aA S (l++[13,10])=((aZ S l).1,(aZ S l).2++[13,10]):=by
  rw [kG (l++[13,10]) S h5 (by simp) (by
    rw [show l++[(13 : By),10]=(l++[13])++[10] by simp,List.dropLast_concat]
    intro c hc
    rcases List.mem_append.1 hc with h | h
    · exact hl c h
    · rw [List.mem_singleton.1 h];decide)]
  unfold bE
  rw [hn,List.nil_append,gz,if_pos rfl,y7]
  have : (⟨S.st,S.fr,S.to,[],S.dt,S.ms⟩ : Po)=S:=by rw [← hn]
  rw [this]
  unfold bn
  rw [if_neg h4]
theorem Inv.line {k : Nat} (hk : k≤3) {S : Po} (h : Inv k S) (h5 : S.st≠5) (to : S.to.length≤10) (l : List By) (hl : ∀ c ∈ l,c≠10) (hno : ax (tq k) l=false) :
    Inv k (aA S (l++[13,10])).1∧∃ o,(aA S (l++[13,10])).2=o++[13,10]∧3≤o.length∧o=(aZ S l).2:=by
  have hs : S.st≤k:=h.st.resolve_left h5
  have hf:=ef h5 (by omega) h.ln l hl
  obtain ⟨h1,h2,h3⟩:=vt hk hs hno
  rw [hf]
  exact ⟨⟨h2.trans h.ms,(kH S l to).2.2.trans h.ln,h1⟩,_,rfl,h3,rfl⟩
def fA (c : By) : By:=if 97≤c.toNat∧c.toNat≤122 then c - 32 else c
theorem tu : ∀ c : By,∀ d ∈ ([32,58,65,67,68,69,70,72,73,76,77,79,80,81,82,83,84,85] : List By),(aI.small c=aI.small d↔fA c=d):=by
  have h : ∀ c : Fin 256,∀ d ∈ ([32,58,65,67,68,69,70,72,73,76,77,79,80,81,82,83,84,85] : List By),(aI.small (BitVec.ofNat 8 c.val)=aI.small d↔fA (BitVec.ofNat 8 c.val)=d):=by decide +kernel
  intro c
  simpa using h ⟨c.toNat,c.isLt⟩
theorem vu : ∀ (x w : List By),(∀ d ∈ w,d ∈ ([32,58,65,67,68,69,70,72,73,76,77,79,80,81,82,83,84,85] : List By))→(aI.dN x w=decide (x.map fA=w)):=by
  intro x w hw
  unfold aI.dN
  refine decide_eq_decide.2 ?_
  induction x generalizing w with
  | nil=>cases w <;> simp
  | cons c x ih=>
    cases w with
    | nil=>simp
    | cons d w=>
      rw [List.map_cons,List.map_cons,List.map_cons,List.cons.injEq,List.cons.injEq,ih w fun e he=>hw e (List.mem_cons_of_mem _ he),tu c d (hw d List.mem_cons_self)]
end dF
end
section
namespace br
def bT (l : List By) (i : Nat) : Prop:=l[i]?=some 13∧l[i+1]?=some 10
def dr (l : List By) : Prop:=∀ i,¬ bT l i
theorem oB (p : List (List By)) : ∀ (l : List By) (s : List (List By) × List By),l.foldl sp (p++s.1,s.2)=(p++(l.foldl sp s).1,(l.foldl sp s).2)
  | [],_=>rfl
  | c::l,s=>by
    rw [List.foldl_cons,List.foldl_cons]
    have e : sp (p++s.1,s.2) c=(p++(sp s c).1,(sp s c).2):=by
      unfold sp
      simp only
      split
      · rw [List.append_assoc]
      · rfl
    rw [e]
    exact oB p l (sp s c)
theorem nj : ∀ (l : List By) (L : List (List By)) (x : List By),dr (x++l)→l.foldl sp (L,x)=(L,x++l)
  | [],L,x,_=>by rw [List.append_nil];rfl
  | c::l,L,x,h=>by
    rw [List.foldl_cons]
    have e : sp (L,x) c=(L,x++[c]):=by
      unfold sp
      simp only
      rw [if_neg]
      rintro ⟨rfl,h13⟩
      have hx : x≠[]:=by rintro rfl;cases h13
      have hp : 0<x.length:=List.length_pos_iff.2 hx
      refine h (x.length - 1) ⟨?_,?_⟩
      · rw [List.getElem?_append_left (by omega),← List.getLast?_eq_getElem?];exact h13
      · rw [show x.length - 1+1=x.length by omega,List.getElem?_append_right (Nat.le_refl _)];simp
    rw [e,nj l L (x++[c]) (by rw [List.append_assoc];exact h),List.append_assoc]
    rfl
theorem iN {l : List By} (h : dr l) : bB l=([],l):=by
  have:=nj l [] [] (by simpa using h)
  simpa [bB] using this
theorem fh {l : List By} {i : Nat} (h : bT l i) (hn : ∀ j,j<i→¬ bT l j) : bB l=(l.take i::(bB (l.drop (i+2))).1,(bB (l.drop (i+2))).2):=by
  have hl : i+1<l.length:=(List.getElem?_eq_some_iff.1 h.2).1
  have e : l=l.take i++([13,10]++l.drop (i+2)):=by
    have e1 : l.drop i=13::l.drop (i+1):=by
      rw [List.drop_eq_getElem_cons (by omega)]
      congr 1
      exact (List.getElem?_eq_some_iff.1 h.1).2
    have e2 : l.drop (i+1)=10::l.drop (i+2):=by
      rw [List.drop_eq_getElem_cons hl]
      congr 1
      exact (List.getElem?_eq_some_iff.1 h.2).2
    calc l=l.take i++l.drop i:=(List.take_append_drop i l).symm
      _=_:=by rw [e1,e2];rfl
  have hno : dr ([]++(l.take i++[13])):=by
    intro j hj
    rw [List.nil_append] at hj
    have h2 : j+1<(l.take i++[13]).length:=(List.getElem?_eq_some_iff.1 hj.2).1
    rw [List.length_append,List.length_take,List.length_singleton] at h2
    have hji : j<i:=by omega
    refine hn j hji ⟨?_,?_⟩
    · have:=hj.1
      rwa [List.getElem?_append_left (by rw [List.length_take];omega),List.getElem?_take,if_pos hji] at this
    · have h3:=hj.2
      by_cases e1 : j+1<i
      · rwa [List.getElem?_append_left (by rw [List.length_take];omega),List.getElem?_take,if_pos e1] at h3
      · rw [List.getElem?_append_right (by rw [List.length_take];omega),List.length_take] at h3
        rw [show j+1 - min i l.length=0 by omega] at h3
        cases h3
  have e13:=nj (l.take i++[13]) [] [] hno
  have e10 : sp ([],[]++(l.take i++[13])) 10=([l.take i],[]):=by
    unfold sp
    rw [if_pos ⟨rfl,by simp⟩]
    simp
  have hs:=oB [l.take i] (l.drop (i+2)) ([],[])
  have e0 : bB l=bB (l.take i++[13]++([10]++l.drop (i+2))):=by
    congr 1
    rw [List.append_assoc]
    exact e
  rw [e0]
  show (l.take i++[13]++([10]++l.drop (i+2))).foldl sp ([],[])=_
  rw [List.foldl_append,e13,List.foldl_append]
  show (l.drop (i+2)).foldl sp (sp ([],[]++(l.take i++[13])) 10)=_
  rw [e10]
  exact hs
def r8 (l : List By) : List UInt8:=l.map UInt8.ofBitVec
theorem vv (l : List By) (i : Nat) : (r8 l)[i]?=l[i]?.map UInt8.ofBitVec:=by unfold r8;rw [List.getElem?_map]
theorem j6 (l : List By) (i : Nat) : Go.Lib.occAt (r8 l) (r8 [13,10]) i=true↔bT l i:=by
  unfold Go.Lib.occAt
  have h : ∀ r : List UInt8,(r8 [13,10]).isPrefixOf r=true↔r[0]?=some 13∧r[1]?=some 10:=by
    intro r
    match r with
    | []=>simp [r8]
    | [a]=>simp [r8]
    | a::b::r=>
      show ((UInt8.ofBitVec 13 == a) && ((UInt8.ofBitVec 10 == b) && true))=true↔_
      rw [Bool.and_eq_true,Bool.and_true,beq_iff_eq,beq_iff_eq]
      simp only [List.getElem?_cons_zero,List.getElem?_cons_succ,Option.some.injEq]
      exact ⟨fun ⟨h1,h2⟩=>⟨h1.symm,h2.symm⟩,fun ⟨h1,h2⟩=>⟨h1.symm,h2.symm⟩⟩
  rw [h,List.getElem?_drop,List.getElem?_drop,vv,vv,Nat.add_zero]
  unfold bT
  have inj : ∀ (o : Option By) (c : By),o.map UInt8.ofBitVec=some (UInt8.ofBitVec c)↔o=some c:=by
    intro o c
    cases o with
    | none=>simp
    | some a=>simp
  exact and_congr (inj _ 13) (inj _ 10)
def vw (l : List By) : Int:=Go.Lib.index (r8 l) (r8 [13,10])
theorem jq (l : List By) : (vw l=-1∧dr l)∨∃ i : Nat,vw l=i∧i+2≤l.length∧bT l i∧∀ j,j<i→¬ bT l j:=by
  rcases Go.Lib.index_spec (r8 l) (r8 [13,10]) with ⟨h1,h2⟩ | ⟨i,h1,h2,h3,h4⟩
  · refine .inl ⟨h1,fun i hi=>?_⟩
    have hl : i+1<l.length:=(List.getElem?_eq_some_iff.1 hi.2).1
    have:=h2 i (by unfold r8;rw [List.length_map];omega)
    rw [(j6 l i).2 hi] at this
    cases this
  · refine .inr ⟨i,h1,?_,(j6 l i).1 h3,fun j hj hc=>?_⟩
    · have hl : i+1<l.length:=(List.getElem?_eq_some_iff.1 ((j6 l i).1 h3).2).1
      omega
    · have:=h4 j hj
      rw [(j6 l j).2 hc] at this
      cases this
end br
end
section
namespace dF
open br (bT dr bB aE gw fz en fh iN)
theorem x7 {l : List By} (h : ends l=true) : bT l (l.length - 2):=by
  have hl:=gA h
  have e:=j5 h
  generalize l.dropLast.dropLast=y at hl e
  subst e
  rw [show (y++[(13 : By),10]).length - 2=y.length by simp]
  refine ⟨by simp,?_⟩
  rw [List.getElem?_append_right (by omega)]
  simp
theorem qG {a b : List By} (h : dr (a++b)) : dr a:=fun i ⟨h1,h2⟩=>by
  have l2:=(List.getElem?_eq_some_iff.1 h2).1
  exact h i ⟨by rw [List.getElem?_append_left (by omega)];exact h1,by rw [List.getElem?_append_left l2];exact h2⟩
theorem fP : ∀ (x : List By) (S : Po),S.st≠5→dr (S.ln++x)→aA S x=(⟨S.st,S.fr,S.to,S.ln++x,S.dt,S.ms⟩,[])
  | [],S,_,_=>by simp [aA]
  | c::x,S,h5,hx=>by
    have e : aA S (c::x)=x.foldl bZ (bZ (S,[]) c):=rfl
    have hc : ends (S.ln++[c])=false:=by
      cases hc : ends (S.ln++[c]) with
      | false=>rfl
      | true=>
        have h2 : dr (S.ln++[c]):=qG (b:=x) (by simpa using hx)
        exact absurd (x7 hc) (h2 _)
    have : bZ (S,[]) c=(⟨S.st,S.fr,S.to,S.ln++[c],S.dt,S.ms⟩,[]):=by
      unfold bZ bE
      rw [if_neg h5]
      dsimp only
      rw [hc]
      rfl
    rw [e,this]
    have:=fP x ⟨S.st,S.fr,S.to,S.ln++[c],S.dt,S.ms⟩ h5 (by simpa using hx)
    unfold aA at this
    rw [this]
    simp
theorem vz {b : List By} {i : Nat} (h : bT b i) : b=b.take i++([13,10]++b.drop (i+2)):=by
  have hl : i+1<b.length:=(List.getElem?_eq_some_iff.1 h.2).1
  have e1 : b.drop i=13::b.drop (i+1):=by
    rw [List.drop_eq_getElem_cons (by omega)]
    congr 1
    exact (List.getElem?_eq_some_iff.1 h.1).2
  have e2 : b.drop (i+1)=10::b.drop (i+2):=by
    rw [List.drop_eq_getElem_cons hl]
    congr 1
    exact (List.getElem?_eq_some_iff.1 h.2).2
  calc b=b.take i++b.drop i:=(List.take_append_drop i b).symm
    _=_:=by rw [e1,e2];rfl
theorem nk {S : Po} (h5 : S.st≠5) (hn : S.ln=[]) {b : List By} {i : Nat} (h : bT b i) (hno : ∀ j,j<i→¬ bT b j) :
    aA S b=((aA (bn S (b.take i)).1 (b.drop (i+2))).1,(bn S (b.take i)).2++(aA (bn S (b.take i)).1 (b.drop (i+2))).2):=by
  have hl : i+1<b.length:=(List.getElem?_eq_some_iff.1 h.2).1
  have e : aA S b=aA S ((b.take i++[13])++([10]++b.drop (i+2))):=by
    rw [List.append_assoc]
    exact congrArg (aA S) (vz h)
  have hne : dr (S.ln++(b.take i++[13])):=by
    rw [hn,List.nil_append]
    rintro j ⟨j1,j2⟩
    have l2:=(List.getElem?_eq_some_iff.1 j2).1
    rw [List.length_append,List.length_take,List.length_singleton] at l2
    have hji : j<i:=by omega
    by_cases hj1 : j+1<i
    · refine hno j hji ⟨?_,?_⟩
      · rw [List.getElem?_append_left (by rw [List.length_take];omega),List.getElem?_take_of_lt (by omega)] at j1;exact j1
      · rw [List.getElem?_append_left (by rw [List.length_take];omega),List.getElem?_take_of_lt (by omega)] at j2;exact j2
    · have : j+1=(b.take i).length:=by rw [List.length_take];omega
      rw [this,List.getElem?_append_right (Nat.le_refl _),Nat.sub_self] at j2
      cases j2
  have e10 : ∀ T : Po,T.st≠5→aA T ([10]++b.drop (i+2))=((aA (bE T [10]).1 (b.drop (i+2))).1,(bE T [10]).2++(aA (bE T [10]).1 (b.drop (i+2))).2):=by
    intro T hT
    have : aA T [10]=bE T [10]:=by
      show bZ (T,[]) 10=_
      unfold bZ
      rw [if_neg hT]
      dsimp only
      rw [List.nil_append]
    rw [ck,this]
  rw [e,ck,fP _ S h5 hne]
  dsimp only
  rw [List.nil_append,e10 ⟨S.st,S.fr,S.to,S.ln++(b.take i++[13]),S.dt,S.ms⟩ h5]
  have hp : bE ⟨S.st,S.fr,S.to,S.ln++(b.take i++[13]),S.dt,S.ms⟩ [10]=bn S (b.take i):=by
    unfold bE
    dsimp only
    rw [hn,List.nil_append,List.append_assoc]
    show (if ends (b.take i++[13,10])=true then bn _ (b.take i++[13,10]).dropLast.dropLast else _)=_
    rw [gz,if_pos rfl,y7]
    congr 1
    rw [← hn]
  rw [hp]
theorem tv {S : Po} (hn : S.ln=[]) (l : List By) (to : S.to.length≤10) : (bn S l).1.ln=[]:=(kI S l S.sz ⟨Nat.le_refl _,to⟩).2.trans hn
def me (S : Po) (d : List By) : Po:=⟨4,S.fr,S.to,[],S.dt++d,S.ms⟩
theorem mg (b : List By) : dr b∨∃ i,i+2≤b.length∧bT b i∧∀ j,j<i→¬ bT b j:=by
  rcases br.jq b with ⟨_,h⟩ | ⟨i,_,h1,h2,h3⟩
  · exact .inl h
  · exact .inr ⟨i,h1,h2,h3⟩
theorem mh {S : Po} (h4 : S.st=4) (hn : S.ln=[]) {b : List By} {i : Nat} (h : bT b i) (hno : ∀ j,j<i→¬ bT b j) (hp : ¬ b.take i=[46]) :
    aA S b=aA (me S (b.take i++[13,10])) (b.drop (i+2)):=by
  rw [nk (by omega) hn h hno]
  have : bn S (b.take i)=(me S (b.take i++[13,10]),[]):=by
    unfold bn me
    rw [if_pos h4,if_neg hp,h4,hn]
  rw [this]
  rfl
theorem tw : ∀ (k : Nat) (b : List By) (S : Po),b.length≤k→S.st=4→S.ln=[]→fz b=none→(aA S b).1.st=4∧(aA S b).1.ms=S.ms∧(aA S b).2=[]:=by
  intro k
  induction k with
  | zero=>
    intro b S hb h4 hn _
    obtain rfl:=List.eq_nil_of_length_eq_zero (by omega : b.length=0)
    exact ⟨h4,rfl,rfl⟩
  | succ k ih=>
    intro b S hb h4 hn hu
    rcases mg b with h | ⟨i,hi,h,hno⟩
    · rw [fP b S (by omega) (by rw [hn];exact h)]
      exact ⟨h4,rfl,rfl⟩
    · have hs:=fh h hno
      unfold fz at hu
      rw [hs] at hu
      have hu' : gw (b.take i::(bB (b.drop (i+2))).1)=none:=by
        cases hq : gw (b.take i::(bB (b.drop (i+2))).1) with
        | none=>rfl
        | some p=>rw [hq] at hu;cases hu
      have hp : ¬ b.take i=[46]:=by
        intro e
        unfold gw at hu'
        rw [if_pos e] at hu'
        cases hu'
      unfold gw at hu'
      rw [if_neg hp] at hu'
      have hu2 : fz (b.drop (i+2))=none:=by
        unfold fz
        cases hq : gw (bB (b.drop (i+2))).1 with
        | none=>rfl
        | some p=>rw [hq] at hu';cases hu'
      rw [mh h4 hn h hno hp]
      exact ih (b.drop (i+2)) (me S _) (by rw [List.length_drop];omega) rfl rfl hu2
theorem oC {b : List By} {i : Nat} (h : bT b i) (hno : ∀ j,j<i→¬ bT b j) (hp : ¬ b.take i=[46]) : fz b=(fz (b.drop (i+2))).map fun p=>(en (b.take i)++[13,10]++p.1,p.2):=by
  unfold fz
  rw [fh h hno]
  show (gw (b.take i::(bB (b.drop (i+2))).1)).map _=_
  rw [show gw (b.take i::(bB (b.drop (i+2))).1)=(gw (bB (b.drop (i+2))).1).map fun p=>(en (b.take i)::p.1,p.2) from if_neg hp]
  rw [Option.map_map,Option.map_map]
  congr 1
theorem gO {b : List By} {i : Nat} (h : bT b i) (hno : ∀ j,j<i→¬ bT b j) (hp : b.take i=[46]) : fz b=some ([],b.drop (i+2)):=by
  unfold fz
  rw [fh h hno]
  show (gw (b.take i::(bB (b.drop (i+2))).1)).map _=_
  rw [show gw (b.take i::(bB (b.drop (i+2))).1)=some ([],(bB (b.drop (i+2))).1) from if_pos hp]
  show some (([] : List By),aE (bB (b.drop (i+2))).1++(bB (b.drop (i+2))).2)=_
  rw [br.de]
def Dl (d : List By) : Prop:=∀ x : List By,fz (d++x)=(fz x).map fun p=>((cu d)++p.1,p.2)
theorem kJ : cu []=[]:=by
  have : bT ([46,13,10] : List By) 1:=⟨rfl,rfl⟩
  have:=gO this (fun j hj hh=>by
    obtain rfl : j=0:=by omega
    exact absurd hh.1 (by decide)) (rfl : ([46,13,10] : List By).take 1=[46])
  unfold cu
  rw [List.nil_append,this]
  rfl
theorem Dl.nil : Dl []:=fun x=>by
  rw [kJ,List.nil_append]
  cases fz x <;> rfl
theorem Dl.AE {d : List By} (h : Dl d) (l : List By) (i : Nat) (hl : l.length=i) (hno : ∀ x : List By,∀ j,j<i→¬ bT (l++[13,10]++x) j) (hp : ¬ l=[46]) : cu (d++(l++[13,10]))=cu d++(en l++[13,10])∧Dl (d++(l++[13,10])):=by
  have step : ∀ x : List By,fz (d++(l++[13,10])++x)=(fz x).map fun p=>(cu d++(en l++[13,10])++p.1,p.2):=fun x=>by
    have ha : bT (l++[13,10]++x) i:=by
      refine ⟨?_,?_⟩
      · rw [List.append_assoc,List.getElem?_append_right (by omega),hl,Nat.sub_self];rfl
      · rw [List.append_assoc,List.getElem?_append_right (by omega),hl,show i+1 - i=1 by omega];rfl
    have ht : (l++[13,10]++x).take i=l:=by rw [List.append_assoc,List.take_append_of_le_length (by omega),List.take_of_length_le (by omega)]
    have hd : (l++[13,10]++x).drop (i+2)=x:=by
      rw [show i+2=(l++[13,10]).length by simp [hl],List.drop_left]
    rw [List.append_assoc,h (l++[13,10]++x),oC ha (hno x) (by rw [ht];exact hp),ht,hd,Option.map_map]
    congr 1
    funext p
    simp
  have hm : cu (d++(l++[13,10]))=cu d++(en l++[13,10]):=by
    have h0 : fz ([46,13,10] : List By)=some ([],[]):=gO (i:=1) ⟨rfl,rfl⟩ (fun j hj hh=>by
      obtain rfl : j=0:=by omega
      exact absurd hh.1 (by decide)) rfl
    have:=step [46,13,10]
    rw [h0] at this
    show ((fz (d++(l++[13,10])++[46,13,10])).map Prod.fst).getD []=_
    rw [this]
    show cu d++(en l++[13,10])++[]=_
    rw [List.append_nil]
  exact ⟨hm,fun x=>by rw [step x,hm]⟩
theorem mj : ∀ (k : Nat) (b : List By) (S : Po),b.length≤k→S.st=4→S.ln=[]→Dl S.dt→∀ m r,fz b=some (m,r)→
    aA S b=((aA ⟨1,[],[],[],[],S.ms++[⟨S.fr,S.to,cu S.dt++m⟩]⟩ r).1,fc++[13,10]++(aA ⟨1,[],[],[],[],S.ms++[⟨S.fr,S.to,cu S.dt++m⟩]⟩ r).2):=by
  intro k
  induction k with
  | zero=>
    intro b S hb h4 hn _ m r hu
    obtain rfl:=List.eq_nil_of_length_eq_zero (by omega : b.length=0)
    cases hu
  | succ k ih=>
    intro b S hb h4 hn hd m r hu
    rcases mg b with h | ⟨i,hi,h,hno⟩
    · unfold fz at hu
      rw [iN h] at hu
      cases hu
    · by_cases hp : b.take i=[46]
      · rw [gO h hno hp] at hu
        obtain ⟨rfl,rfl⟩:=Prod.mk.inj (Option.some.inj hu)
        rw [nk (by omega) hn h hno]
        have : bn S (b.take i)=(⟨1,[],[],[],[],S.ms++[⟨S.fr,S.to,cu S.dt++[]⟩]⟩,fc++[13,10]):=by
          unfold bn gy
          rw [if_pos h4,if_pos hp,hn,List.append_nil]
        rw [this]
      · rw [oC h hno hp] at hu
        cases hq : fz (b.drop (i+2)) with
        | none=>rw [hq] at hu;cases hu
        | some p=>
          rw [hq] at hu
          obtain ⟨rfl,rfl⟩:=Prod.mk.inj (Option.some.inj hu)
          have hil : (b.take i).length=i:=by rw [List.length_take];omega
          have hno2 : ∀ x : List By,∀ j,j<i→¬ bT (b.take i++[13,10]++x) j:=by
            rintro x j hj ⟨j1,j2⟩
            refine hno j hj ⟨?_,?_⟩
            · rw [List.append_assoc,List.getElem?_append_left (by omega),List.getElem?_take_of_lt hj] at j1;exact j1
            · by_cases hj1 : j+1<i
              · rw [List.append_assoc,List.getElem?_append_left (by omega),List.getElem?_take_of_lt hj1] at j2;exact j2
              · rw [List.append_assoc,List.getElem?_append_right (by omega),hil,show j+1 - i=0 by omega] at j2
                cases j2
          obtain ⟨hm,hd2⟩:=hd.AE (b.take i) i hil hno2 hp
          rw [mh h4 hn h hno hp]
          have:=ih (b.drop (i+2)) (me S (b.take i++[13,10])) (by rw [List.length_drop];omega) rfl rfl hd2 p.1 p.2 hq
          rw [this]
          show ((aA ⟨1,[],[],[],[],S.ms++[⟨S.fr,S.to,cu (S.dt++(b.take i++[13,10]))++p.1⟩]⟩ p.2).1,_)=_
          rw [show cu ((me S (b.take i++[13,10])).dt)=cu (S.dt++(b.take i++[13,10])) from rfl,hm,List.append_assoc]
          rfl
end dF
end
section
namespace Tok
open aI
def Inv (o : List By) (q : Bool) : Prop:=∀ r : List By,aX (o++r) 0 false []=aX r 0 q o
theorem Inv.q {o : List By} {c : By} (h : Inv o true) (hc : ¬ c=92) : Inv (o++[c]) (!(c == 34)):=fun r=>by
  rw [List.append_assoc,h,List.singleton_append,nh hc]
theorem Inv.n {o : List By} {c : By} (h : Inv o false) (h1 : ¬ c=40) (h2 : ¬ c=41) : Inv (o++[c]) (c == 34):=fun r=>by
  rw [List.append_assoc,h,List.singleton_append,kE h1 h2]
end Tok
end
section
namespace Tok
open aI
theorem oD (p : By→Bool) (h : ∀ c : Fin 256,p (BitVec.ofNat 8 c.val)=true) (c : By) : p c=true:=by simpa using h ⟨c.toNat,c.isLt⟩
theorem oE (c : By) : bV (small c)=bV c∧((small c=46)↔(c=46))∧small (small c)=small c:=by
  have:=oD (fun c=>(bV (small c) == bV c) && (decide (small c=46) == decide (c=46)) && decide (small (small c)=small c)) (by decide +kernel) c
  simpa [Bool.and_eq_true,and_assoc] using this
def good (c : By) : Bool:=c == 46 || bV c || c == 64
theorem r9 (c : By) (h : c=46∨bV c=true) : good c=true∧¬ c=64:=by
  have:=oD (fun c=>!(decide (c=46) || bV c) || (good c && !decide (c=64))) (by decide +kernel) c
  rw [show (decide (c=46) || bV c)=true by simpa using h] at this
  simpa using this
theorem nq : ∀ (s : List By) (l : By),gx s l=true→∀ c ∈ s,c=46∨bV c=true
  | [],_,_,c,hc=>by cases hc
  | d::r,l,h,c,hc=>by
    rw [gx] at h
    split at h
    · cases h
    · next hn=>
      rcases List.mem_cons.1 hc with rfl | hc
      · by_cases h4 : c=46
        · exact .inl h4
        · right
          cases hp : bV c
          · exact absurd (Or.inr ⟨h4,hp⟩) hn
          · rfl
      · exact nq r d h c hc
theorem mq : ∀ (s : List By) (l l' : By),((l'=46)↔(l=46))→gx (s.map small) l'=gx s l
  | [],l,l',hl=>by
    show (!(l' == 46))=(!(l == 46))
    congr 1
    rw [Bool.eq_iff_iff,beq_iff_eq,beq_iff_eq]
    exact hl
  | c::r,l,l',hl=>by
    obtain ⟨h1,h2,_⟩:=oE c
    rw [List.map_cons,gx,gx,h1,mq r c (small c) h2]
    simp only [h2,hl]
theorem x8 {p r : List By} {c : By} {k : Nat} {u : List By} (hu : u=p++c::r) (hk : p.length=k) : u.take (k+1)=p++[c]:=by
  subst hu hk
  rw [show p.length+1=(p++[c]).length by simp,show p++c::r=(p++[c])++r by simp,List.take_left]
theorem oF {c : By} : ∀ (u : List By),fst c u<u.length→u=u.take (fst c u)++c::u.drop (fst c u+1)
  | [],h=>by simp at h
  | d::r,h=>by
    by_cases hd : d=c
    · subst hd
      have : fst d (d::r)=0:=by
        unfold fst
        rw [List.takeWhile_cons,if_neg (by simp)];rfl
      rw [this]
      rfl
    · have e : fst c (d::r)=fst c r+1:=by
        unfold fst
        rw [List.takeWhile_cons,if_pos (by simpa using hd)];rfl
      rw [e] at h ⊢
      rw [List.take_succ_cons,List.drop_succ_cons,List.cons_append,← oF r (by simpa using h)]
end Tok
end
section
namespace dF
open br (bT dr bB aE gw fz en fh iN iA laidB)
theorem tC {s : List By} (h : (Tok.cJ s).2=0) : ∀ c ∈ (Tok.cJ s).1,Tok.good c=true:=by
  have key : ∀ u : List By,(Tok.dO u).2=0→∀ c ∈ (Tok.dO u).1,Tok.good c=true:=by
    intro u hu
    unfold Tok.dO at hu ⊢
    split at hu
    · cases hu
    · next hn=>
      rw [if_neg hn]
      have h1 : ¬ Tok.fst 64 u=u.length:=fun k=>hn (.inl k)
      have h2 : Tok.cZ (u.take (Tok.fst 64 u))=true:=by
        cases e : Tok.cZ (u.take (Tok.fst 64 u))
        · exact absurd (.inr (.inl e)) hn
        · rfl
      have h3 : Tok.cZ (u.drop (Tok.fst 64 u+1))=true:=by
        cases e : Tok.cZ (u.drop (Tok.fst 64 u+1))
        · exact absurd (.inr (.inr e)) hn
        · rfl
      have hlt : Tok.fst 64 u<u.length:=by
        have : Tok.fst 64 u≤u.length:=(List.takeWhile_sublist _).length_le
        omega
      have hs:=Tok.oF u hlt
      have e : u.take (Tok.fst 64 u+1)=u.take (Tok.fst 64 u)++[64]:=Tok.x8 hs (by rw [List.length_take];exact Nat.min_eq_left (Nat.le_of_lt hlt))
      have hr' : Tok.cZ ((u.drop (Tok.fst 64 u+1)).map aI.small)=true:=by
        unfold Tok.cZ
        rw [Tok.mq _ 46 46 Iff.rfl]
        exact h3
      dsimp only
      rw [e]
      intro c hc
      rcases List.mem_append.1 hc with hc | hc
      · rcases List.mem_append.1 hc with hc | hc
        · exact (Tok.r9 c (Tok.nq _ 46 h2 c hc)).1
        · rw [List.mem_singleton.1 hc];decide
      · exact (Tok.r9 c (Tok.nq _ 46 hr' c hc)).1
  have key2 : ∀ t : List By,(Tok.iu t).2=0→∀ c ∈ (Tok.iu t).1,Tok.good c=true:=by
    intro t ht
    unfold Tok.iu at ht ⊢
    split at ht
    · next hh=>
      rw [if_pos hh]
      split at ht
      · next hm=>rw [if_pos hm];exact key _ ht
      · cases ht
    · next hh=>rw [if_neg hh];exact key _ ht
  unfold Tok.cJ at h ⊢
  split at h
  · next hh=>rw [if_pos hh];exact key2 _ h
  · next hh=>exact absurd h hh
theorem zH : ∀ c : By,Tok.good c=true→c≠10:=by
  have h : ∀ c : Fin 256,Tok.good (BitVec.ofNat 8 c.val)=true→BitVec.ofNat 8 c.val≠(10 : By):=by decide +kernel
  intro c
  simpa using h ⟨c.toNat,c.isLt⟩
theorem AF {a : List By} (h : dX a=true) : ∀ c ∈ a,c≠10:=by
  unfold dX at h
  rw [Bool.and_eq_true,decide_eq_true_iff,decide_eq_true_iff] at h
  intro c hc
  exact zH c (tC h.1 c (by rw [h.2];exact hc))
def addressed (w a : List By) : List By:=w++[60]++a++[62]
def fits (w a : List By) : Bool:=decide ((addressed w a).length≤512) && dX a
def jN : List By:=[100,101,115,112,97,116,99,104]
def crlf : List By:=[13,10]
def bU (to : List (List By)) : List By:=to.flatMap fun a=>addressed aK a++crlf
def y8 (fr : List By) (to : List (List By)) : List By:=bP++[32]++jN++crlf++(addressed aP fr++crlf)++bU to++(bA++crlf)
def gB (fr : List By) (to : List (List By)) (b : List By) : List By:=y8 fr to++iA b++(bu++crlf)
def cU (fr : List By) (to : List (List By)) (b : List By) : List By × Nat:=
  if fits aP fr=false∨to.all (fits aK)=false then ([],3)
  else if to.length=0∨10<to.length then ([],2)
  else (gB fr to b,0)
theorem oG {a : List By} (h : dX a=true) : ep ([60]++a++[62])=some a:=by
  unfold ep
  have e1 : ([60]++a++[62] : List By).tail=a++[62]:=by simp
  rw [e1,List.dropLast_concat,if_pos ⟨by simp,by simp,h⟩]
theorem kK {w r : List By} : ax w (w++r)=true:=by
  unfold ax
  rw [List.take_left,aI.td,Bool.and_true,decide_eq_true_iff,List.length_append]
  omega
theorem gC {w v r : List By} (h : aI.dN (v.take w.length) (w.take v.length)=false) : ax w (v++r)=false:=by
  unfold ax
  have : aI.dN ((v++r).take w.length) w=false:=by
    cases hs : aI.dN ((v++r).take w.length) w with
    | false=>rfl
    | true=>
      have h1:=of_decide_eq_true hs
      have h2 : (((v++r).take w.length).map aI.small).take v.length=(w.map aI.small).take v.length:=by rw [h1]
      rw [← List.map_take,← List.map_take,List.take_take] at h2
      have : aI.dN (v.take w.length) (w.take v.length)=true:=by
        unfold aI.dN
        rw [decide_eq_true_iff,← h2]
        congr 1
        rw [Nat.min_comm]
        by_cases hle : w.length≤v.length
        · rw [Nat.min_eq_left hle,List.take_append_of_le_length hle]
        · rw [Nat.min_eq_right (by omega),List.take_append_of_le_length (by omega),List.take_of_length_le (by omega),List.take_of_length_le (by omega)]
      rw [this] at h
      cases h
  rw [this,Bool.and_false]
theorem tD {S : Po} (h1 : S.st=1) {a : List By} (h : fits aP a=true) : aZ S (addressed aP a)=(⟨2,a,S.to,S.ln,S.dt,S.ms⟩,fc):=by
  unfold fits at h
  rw [Bool.and_eq_true,decide_eq_true_iff] at h
  unfold aZ
  rw [if_neg (by omega)]
  have e : addressed aP a=aP++([60]++a++[62]):=by unfold addressed;simp
  rw [e,if_neg (by rw [gC (by decide)];simp),if_pos kK]
  show bW S ((aP++([60]++a++[62])).drop aP.length)=_
  rw [List.drop_left]
  unfold bW
  rw [oG h.2]
  dsimp only
  rw [if_pos h1]
theorem tE {S : Po} (h1 : S.st=2∨S.st=3) (hl : S.to.length<10) {a : List By} (h : fits aK a=true) : aZ S (addressed aK a)=(⟨3,S.fr,S.to++[a],S.ln,S.dt,S.ms⟩,fc):=by
  unfold fits at h
  rw [Bool.and_eq_true,decide_eq_true_iff] at h
  unfold aZ
  rw [if_neg (by omega)]
  have e : addressed aK a=aK++([60]++a++[62]):=by unfold addressed;simp
  rw [e,if_neg (by rw [gC (by decide)];simp),if_neg (by rw [gC (by decide)];simp),if_pos kK]
  show dP S ((aK++([60]++a++[62])).drop aK.length)=_
  rw [List.drop_left]
  unfold dP
  rw [oG h.2]
  dsimp only
  rw [if_pos h1,if_neg (by omega)]
theorem vA {w a : List By} (hw : ∀ c ∈ w,c≠10) (h : dX a=true) : ∀ c ∈ addressed w a,c≠10:=by
  intro c hc
  unfold addressed at hc
  rcases List.mem_append.1 hc with hc | hc
  · rcases List.mem_append.1 hc with hc | hc
    · rcases List.mem_append.1 hc with hc | hc
      · exact hw c hc
      · rw [List.mem_singleton.1 hc];decide
    · exact AF h c hc
  · rw [List.mem_singleton.1 hc];decide
theorem oH {w a : List By} (h : fits w a=true) : dX a=true:=by
  unfold fits at h
  rw [Bool.and_eq_true] at h
  exact h.2
theorem kL : ∀ (to : List (List By)) (S : Po),(S.st=2∨S.st=3)→S.ln=[]→S.to.length+to.length≤10→to.all (fits aK)=true→0<to.length→
    (aA S (bU to)).1=⟨3,S.fr,S.to++to,[],S.dt,S.ms⟩
  | [],_,_,_,_,_,h=>absurd h (by simp)
  | a::to,S,hst,hn,hl,ha,_=>by
    rw [List.all_cons,Bool.and_eq_true] at ha
    have hf:=ef (S:=S) (by omega) (by omega) hn (addressed aK a) (vA (by decide) (oH ha.1))
    rw [List.length_cons] at hl
    rw [tE hst (by omega) ha.1] at hf
    have e : bU (a::to)=(addressed aK a++[13,10])++bU to:=by unfold bU;rw [List.flatMap_cons];rfl
    rw [e,ck,hf]
    dsimp only
    cases to with
    | nil=>
      show (aA _ []).1=_
      show (⟨3,S.fr,S.to++[a],S.ln,S.dt,S.ms⟩ : Po)=_
      rw [hn]
    | cons a2 to=>
      have:=kL (a2::to) ⟨3,S.fr,S.to++[a],S.ln,S.dt,S.ms⟩ (.inr rfl) hn (by show (S.to++[a]).length+_≤10;rw [List.length_append,List.length_singleton];omega) ha.2 (by simp)
      rw [this]
      show (⟨3,S.fr,S.to++[a]++a2::to,[],S.dt,S.ms⟩ : Po)=_
      rw [List.append_assoc]
      rfl
theorem tF (fr : List By) (to : List (List By)) (b : List By) (h1 : fits aP fr=true) (h2 : to.all (fits aK)=true) (h3 : 0<to.length) (h4 : to.length≤10) :
    (aA new (gB fr to b)).1=⟨5,[],[],[],[],[⟨fr,to,laidB b⟩]⟩:=by
  have a1 : aA new (bP++[32]++jN++[13,10])=(⟨1,[],[],[],[],[]⟩,fc++[13,10]):=by
    rw [ef (S:=new) (by decide) (by decide) rfl (bP++[32]++jN) (by decide)]
    rfl
  have a2 : aA ⟨1,[],[],[],[],[]⟩ (addressed aP fr++[13,10])=(⟨2,fr,[],[],[],[]⟩,fc++[13,10]):=by
    rw [ef (by decide) (by decide) rfl _ (vA (by decide) (oH h1)),tD rfl h1]
  have a3 : (aA ⟨2,fr,[],[],[],[]⟩ (bU to)).1=⟨3,fr,to,[],[],[]⟩:=by
    rw [kL to _ (.inl rfl) rfl (by simpa using h4) h2 h3]
    rfl
  have a4 : aA ⟨3,fr,to,[],[],[]⟩ (bA++[13,10])=(⟨4,fr,to,[],[],[]⟩,AD++[13,10]):=by
    rw [ef (by show 3≠5;decide) (by show 3≠4;decide) rfl bA (by decide)]
    rfl
  have a6 : aA ⟨1,[],[],[],[],[⟨fr,to,laidB b⟩]⟩ (bu++[13,10])=(⟨5,[],[],[],[],[⟨fr,to,laidB b⟩]⟩,oA++[13,10]):=by
    rw [ef (by show 1≠5;decide) (by show 1≠4;decide) rfl bu (by decide)]
    rfl
  have a5 : (aA ⟨4,fr,to,[],[],[]⟩ (iA b++(bu++[13,10]))).1=⟨5,[],[],[],[],[⟨fr,to,laidB b⟩]⟩:=by
    have:=mj _ (iA b++(bu++[13,10])) ⟨4,fr,to,[],[],[]⟩ (Nat.le_refl _) rfl rfl Dl.nil (laidB b) (bu++[13,10]) (br.rY b _)
    rw [this]
    dsimp only
    rw [kJ,List.nil_append,List.nil_append,a6]
  have e : gB fr to b=(bP++[32]++jN++[13,10])++((addressed aP fr++[13,10])++(bU to++((bA++[13,10])++(iA b++(bu++[13,10]))))):=by
    unfold gB y8 crlf
    simp only [List.append_assoc]
  rw [e,ck,a1,ck,a2,ck,a3,ck,a4]
  exact a5
end dF
end
section
namespace Sl
abbrev Env:=List (Nat × Value)
def lk : Env→Nat→Option Value
  | [],_=>none
  | (d,v)::E,t=>cond (Nat.beq d t) (some v) (lk E t)
structure bf (n : Nat) (E : Env) (a : Act) : Prop where
  size : a.tmps.size=n
  defers : a.defers=[]
  all : ∀ t v,lk E t=some v→a.tmps.getD t undef=v
theorem bf.put {n : Nat} {E : Env} {a : Act} (h : bf n E a) (d : Nat) (v : Value) (hd : Nat.blt d n=true) : bf n ((d,v)::E) (a.put (some d) v):=by
  have hd' : d<n:=by simpa using hd
  refine ⟨by simp [Act.put,h.size],h.defers,fun t u hu=>?_⟩
  simp only [lk] at hu
  by_cases e : d=t
  · subst e
    simp at hu
    subst hu
    simp [Act.put,h.size,hd']
  · have : Nat.beq d t=false:=Bool.eq_false_iff.2 fun h=>e (Nat.eq_of_beq_eq_true h)
    rw [this] at hu
    have:=h.all t u hu
    simpa [Act.put,Array.getElem?_setIfInBounds,e] using this
theorem bf.oI {n : Nat} {E : Env} {a : Act} (h : bf n E a) (v : Value) : bf n E (a.put none v):=h
inductive af (E : Env) : Env→Prop where
  | nil : af E []
  | cons (d : Nat) (v : Value) (E' : Env) : lk E d=some v→af E E'→af E ((d,v)::E')
theorem af.all {E E' : Env} (h : af E E') : ∀ p ∈ E',lk E p.1=some p.2:=by
  induction h with
  | nil=>simp
  | cons d v E' h _ ih=>
    intro p hp
    simp only [List.mem_cons] at hp
    rcases hp with rfl | hp
    · exact h
    · exact ih p hp
theorem bf.sub {n : Nat} {E E' : Env} {a : Act} (h : bf n E a) (hs' : af E E') : bf n E' a:=by
  have hs:=hs'.all
  clear hs'
  refine ⟨h.size,h.defers,fun t u hu=>h.all t u ?_⟩
  induction E' with
  | nil=>simp [lk] at hu
  | cons p E' ih=>
    simp only [lk] at hu
    by_cases e : p.1=t
    · subst e
      simp at hu
      subst hu
      exact hs p (by simp)
    · have : Nat.beq p.1 t=false:=Bool.eq_false_iff.2 fun h=>e (Nat.eq_of_beq_eq_true h)
      rw [this] at hu
      exact ih (fun q hq=>hs q (by simp [hq])) hu
def ev (E : Env) : Operand→Option Value
  | .tmp t=>lk E t
  | .const v=>some v
  | .global g=>some (.pointer (some ⟨g,0,none⟩))
  | .func f=>some (.func (.func f) #[] #[])
theorem bf.eval {n : Nat} {E : Env} {a : Act} (h : bf n E a) {x : Operand} {v : Value} (hx : ev E x=some v) : a.eval x=v:=by
  cases x with
  | tmp t=>exact h.all t v hx
  | const u=>exact Option.some.inj hx
  | global g=>exact Option.some.inj hx
  | func f=>exact Option.some.inj hx
structure kM (S : List Nat) (w w' : World) : Prop where
  os : w'.os=w.os
  tape : w'.tape=w.tape
  output : w'.output=w.output
  size : w.heap.size≤w'.heap.size
  block : ∀ k,k<w.heap.size→k ∉ S→w'.heap[k]?=w.heap[k]?
theorem kM.refl (S : List Nat) (w : World) : kM S w w:=⟨rfl,rfl,rfl,Nat.le_refl _,fun _ _ _=>rfl⟩
theorem kM.trans {S : List Nat} {a b c : World} (h : kM S a b) (k : kM S b c) : kM S a c:=
  ⟨k.os.trans h.os,k.tape.trans h.tape,k.output.trans h.output,Nat.le_trans h.size k.size,
   fun i hi hS=>(k.block i (Nat.lt_of_lt_of_le hi h.size) hS).trans (h.block i hi hS)⟩
theorem kM.mono {S S' : List Nat} {a b : World} (h : kM S a b) (hs : ∀ k ∈ S,k ∈ S') : kM S' a b:=
  ⟨h.os,h.tape,h.output,h.size,fun i hi hS=>h.block i hi fun hk=>hS (hs i hk)⟩
abbrev Ext:=kM []
theorem kM.below {w w' : World} (h : Ext w w') : RowKit.Below w.heap.size w w':=⟨h.os,h.tape,h.output,h.size,fun k hk=>h.block k hk (by simp)⟩
structure aN where
  b : Nat
  A : Obj→Prop
  wr : Bool
structure aa (w0 : World) (S : List Nat) (M : List aN) (w : World) : Prop where
  aS : kM S w0 w
  nodup : (M.map aN.b).Nodup
  all : ∀ e ∈ M,(∃ o,w.heap[e.b]?=some o∧e.A o)∧(e.wr=true→e.b ∈ S∨w0.heap.size≤e.b)
inductive Has : List aN→Nat→(Obj→Prop)→Bool→Prop where
  | here {b A wr M} : Has (⟨b,A,wr⟩::M) b A wr
  | there {e M b A wr} : Has M b A wr→Has (e::M) b A wr
theorem Has.mem {M : List aN} {b : Nat} {A : Obj→Prop} {wr : Bool} (h : Has M b A wr) : ⟨b,A,wr⟩ ∈ M:=by
  induction h with
  | here=>simp
  | there _ ih=>simp [ih]
inductive nr : List aN→Nat→(Obj→Prop)→(Obj→Prop)→List aN→Prop where
  | here {b A A' M} : nr (⟨b,A,true⟩::M) b A A' (⟨b,A',true⟩::M)
  | there {e M b A A' M'} : nr M b A A' M'→nr (e::M) b A A' (e::M')
theorem nr.has {M M' : List aN} {b : Nat} {A A' : Obj→Prop} (h : nr M b A A' M') : Has M b A true:=by
  induction h with
  | here=>exact .here
  | there _ ih=>exact .there ih
theorem nr.keys {M M' : List aN} {b : Nat} {A A' : Obj→Prop} (h : nr M b A A' M') : M'.map aN.b=M.map aN.b:=by
  induction h with
  | here=>rfl
  | there _ ih=>simp [ih]
theorem nr.old {M M' : List aN} {b : Nat} {A A' : Obj→Prop} (h : nr M b A A' M') (hn : (M.map aN.b).Nodup) :
    ∀ e ∈ M',e=⟨b,A',true⟩∨(e ∈ M∧e.b≠b):=by
  induction h with
  | @here b A A' M=>
    intro e he
    simp only [List.mem_cons] at he
    simp only [List.map_cons,List.nodup_cons] at hn
    rcases he with rfl | he
    · exact .inl rfl
    · exact .inr ⟨by simp [he],fun h=>hn.1 (h ▸ List.mem_map_of_mem he)⟩
  | @there x M b A A' M' hu ih=>
    intro e he
    simp only [List.map_cons,List.nodup_cons] at hn
    simp only [List.mem_cons] at he
    rcases he with rfl | he
    · refine .inr ⟨by simp,fun h=>hn.1 ?_⟩
      rw [h]
      exact List.mem_map_of_mem hu.has.mem (f:=aN.b)
    · rcases ih hn.2 e he with h | ⟨h1,h2⟩
      · exact .inl h
      · exact .inr ⟨by simp [h1],h2⟩
section
variable {w0 : World} {S : List Nat} {M M' : List aN} {w w' : World}
theorem aa.lt (h : aa w0 S M w) {e : aN} (he : e ∈ M) : e.b<w.heap.size:=by
  obtain ⟨⟨o,ho,_⟩,_⟩:=h.all e he
  by_cases hl : e.b<w.heap.size
  · exact hl
  · simp [Array.getElem?_eq_none (by omega : w.heap.size≤e.b)] at ho
theorem aa.get (h : aa w0 S M w) {b : Nat} {A : Obj→Prop} {wr : Bool} (hf : Has M b A wr) : ∃ o,w.heap[b]?=some o∧A o:=(h.all _ hf.mem).1
theorem aa.start (w0 : World) (S : List Nat) : aa w0 S [] w0:=⟨kM.refl _ _,by simp,by simp⟩
theorem aa.ext (h : aa w0 S M w) (k : Ext w w') : aa w0 S M w':=by
  refine ⟨h.aS.trans (k.mono (by simp)),h.nodup,fun e he=>⟨?_,(h.all e he).2⟩⟩
  obtain ⟨o,ho,hA⟩:=(h.all e he).1
  exact ⟨o,(k.block e.b (h.lt he) (by simp)).trans ho,hA⟩
theorem aa.drawn (h : aa w0 S M w) (n : Nat) : aa w0 S M { w with drawn:=n }:=
  h.ext ⟨rfl,rfl,rfl,Nat.le_refl _,fun _ _ _=>rfl⟩
theorem aa.old (h : aa w0 S M w) {k : Nat} (hk : k<w0.heap.size) (hS : k ∉ S) : w.heap[k]?=w0.heap[k]?:=h.aS.block k hk hS
theorem aa.sub (h : aa w0 S M w) (hn : (M'.map aN.b).Nodup) (hs : ∀ e ∈ M',e ∈ M) : aa w0 S M' w:=⟨h.aS,hn,fun e he=>h.all e (hs e he)⟩
inductive aq : List aN→List aN→Prop where
  | nil (N : List aN) : aq [] N
  | keep (b : Nat) (A A' : Obj→Prop) (wr : Bool) (N N' : List aN) : (∀ o,A o→A' o)→aq N' N→aq (⟨b,A',wr⟩::N') (⟨b,A,wr⟩::N)
  | drop (e : aN) (N N' : List aN) : aq N' N→aq N' (e::N)
theorem aq.refl : ∀ N,aq N N
  | []=>.nil _
  | ⟨_,_,_⟩::N=>.keep _ _ _ _ _ _ (fun _ h=>h) (aq.refl N)
theorem aq.keys (h : aq M' M) : (M'.map aN.b).Sublist (M.map aN.b):=by
  induction h with
  | nil=>exact List.nil_sublist _
  | keep _ _ _ _ _ _ _ _ ih=>exact ih.cons_cons _
  | drop _ _ _ _ ih=>exact ih.cons _
theorem aq.old (h : aq M' M) : ∀ e ∈ M',∃ e' ∈ M,e'.b=e.b∧e'.wr=e.wr∧∀ o,e'.A o→e.A o:=by
  induction h with
  | nil=>simp
  | keep b A A' wr M M' hA _ ih=>
    intro e he
    simp only [List.mem_cons] at he
    rcases he with rfl | he
    · exact ⟨⟨b,A,wr⟩,by simp,rfl,rfl,hA⟩
    · obtain ⟨e',h1,h2⟩:=ih e he
      exact ⟨e',by simp [h1],h2⟩
  | drop _ _ _ _ ih=>
    intro e he
    obtain ⟨e',h1,h2⟩:=ih e he
    exact ⟨e',by simp [h1],h2⟩
theorem aa.weak (h : aa w0 S M w) (hs : aq M' M) : aa w0 S M' w:=by
  refine ⟨h.aS,h.nodup.sublist hs.keys,fun e he=>?_⟩
  obtain ⟨e',h1,h2,h3,h4⟩:=hs.old e he
  obtain ⟨⟨o,ho,hA⟩,h5⟩:=h.all e' h1
  exact ⟨⟨o,h2 ▸ ho,h4 o hA⟩,fun hw=>h2 ▸ h5 (h3.trans hw)⟩
theorem aa.push (h : aa w0 S M w) (o : Obj) {A : Obj→Prop} (hA : A o) (hw : w'.heap=w.heap.push o) (h1 : w'.os=w.os) (h2 : w'.tape=w.tape) (h3 : w'.output=w.output) :
    aa w0 S (⟨w.heap.size,A,true⟩::M) w':=by
  have hx : Ext w w':=⟨h1,h2,h3,by rw [hw];simp,fun k hk _=>by rw [hw,Array.getElem?_push,if_neg (Nat.ne_of_lt hk)]⟩
  have h':=h.ext hx
  refine ⟨h'.aS,?_,fun e he=>?_⟩
  · simp only [List.map_cons,List.nodup_cons,h.nodup,and_true]
    intro hm
    obtain ⟨e,he,hb⟩:=List.mem_map.1 hm
    have:=h.lt he
    omega
  · simp only [List.mem_cons] at he
    rcases he with rfl | he
    · exact ⟨⟨o,by simp [hw],hA⟩,fun _=>.inr h.aS.size⟩
    · exact h'.all e he
theorem aa.write (h : aa w0 S M w) {b : Nat} {A A' : Obj→Prop} (hu : nr M b A A' M') {o' : Obj} (hA : A' o')
    (hb : w'.heap[b]?=some o') (hz : w'.heap.size=w.heap.size) (hk : ∀ k,k≠b→w'.heap[k]?=w.heap[k]?) (h1 : w'.os=w.os) (h2 : w'.tape=w.tape) (h3 : w'.output=w.output) :
    aa w0 S M' w':=by
  have hin:=(h.all _ hu.has.mem).2 rfl
  refine ⟨⟨h1.trans h.aS.os,h2.trans h.aS.tape,h3.trans h.aS.output,by rw [hz];exact h.aS.size,fun k hk' hS=>?_⟩,by rw [hu.keys];exact h.nodup,fun e he=>?_⟩
  · refine (hk k fun e=>?_).trans (h.aS.block k hk' hS)
    subst e
    rcases hin with h4 | h4
    · exact hS h4
    · simp only [] at h4;omega
  · rcases hu.old h.nodup e he with rfl | ⟨h4,h5⟩
    · exact ⟨⟨o',hb,hA⟩,fun _=>hin⟩
    · obtain ⟨⟨o,ho,hA'⟩,h6⟩:=h.all e h4
      exact ⟨⟨o,(hk _ h5).trans ho,hA'⟩,h6⟩
end
def vB {α : Type} (P : Program) : Sem α→Option α
  | .pure a=>some a
  | .program k=>vB P (k P)
  | .mark _ k=>vB P k
  | _=>none
theorem iO {α : Type} {P : Program} {a : α} : ∀ {s : Sem α} {w : World},vB P s=some a→s.run P w=.ok a w
  | .pure _,w,h=>by simp only [vB,Option.some.injEq] at h;subst h;rfl
  | .program k,w,h=>by simp only [vB] at h;exact iO (s:=k P) h
  | .mark _ k,w,h=>by simp only [vB] at h;exact iO (s:=k) h
  | .load ..,_,h | .store ..,_,h | .new ..,_,h | .shape ..,_,h | .freeze ..,_,h | .frozen ..,_,h | .getObj ..,_,h | .setObj ..,_,h | .choose ..,_,h | .sys ..,_,h | .halt ..,_,h=>by simp [vB] at h
structure OQ (P : Program) (n : Nat) (E : Env) (C : World→Prop) (o : Oper) (v : Value) : Prop where
  go : ∀ a,bf n E a→∀ w,C w→o.quietAt P a C w v
section
variable {P : Program} {n : Nat} {E : Env} {C : World→Prop} {dst : Option Tmp} {ty : TypeId} {pos : String} {aft : Array Edge} {g : Option (Nat × Bool)} {v : Value}
def Ay (E : Env) (x : Operand) : Value:=(ev E x).getD undef
def known (E : Env) (op : Op) : Bool:=op.operands.toList.all fun x=>(ev E x).isSome
def oJ : Op→Bool
  | .select ..=>false
  | _=>true
theorem OQ.pure {op : Op} (hs : oJ op=true) (hk : known E op=true) (h : vB P (execOp (Ay E) ⟨dst,op,ty,pos,aft,g⟩)=some (.value v)) : OQ P n E C ⟨dst,op,ty,pos,aft,g⟩ v:=by
  refine ⟨fun a ha w hw=>?_⟩
  have e : execOp a.eval ⟨dst,op,ty,pos,aft,g⟩=execOp (Ay E) ⟨dst,op,ty,pos,aft,g⟩:=by
    refine execOp_congr _ (fun cs b hh=>?_) fun x hx=>?_
    · simp only [] at hh;subst hh;simp [oJ] at hs
    · simp only [known,List.all_eq_true] at hk
      have:=hk x (by simpa using hx)
      obtain ⟨u,hu⟩:=Option.isSome_iff_exists.1 this
      rw [ha.eval hu,Ay,hu];rfl
  unfold Oper.quietAt
  rw [e,iO h]
  exact ⟨rfl,rfl⟩
theorem OQ.move {x : Operand} (hx : ev E x=some v) : OQ P n E C ⟨dst,.move x,ty,pos,aft,g⟩ v:=by
  refine ⟨fun a ha w hw=>?_⟩
  have:=ha.eval hx
  exact ⟨rfl,this⟩
theorem OQ.assign {x : Operand} (hx : ev E x=some v) : OQ P n E C ⟨dst,.assign x,ty,pos,aft,g⟩ v:=by
  refine ⟨fun a ha w hw=>?_⟩
  have:=ha.eval hx
  exact ⟨rfl,this⟩
theorem OQ.run {op : Op} (h : ∀ a,bf n E a→∀ w,C w→(execOp a.eval ⟨dst,op,ty,pos,aft,g⟩).run P w=.ok (.value v) w) : OQ P n E C ⟨dst,op,ty,pos,aft,g⟩ v:=by
  refine ⟨fun a ha w hw=>?_⟩
  unfold Oper.quietAt
  rw [h a ha w hw]
  exact ⟨rfl,rfl⟩
end
end Sl
end
section
namespace Sl
section
variable {P : Program} {md : Region.Mode} {ops : Array Oper} {C : World→Prop} {n : Nat}
def vC (P : Program) (md : Region.Mode) (ops : Array Oper) (C : World→Prop) (n : Nat) (L : Array Bool→Act→Prop) : Nat→Array Bool→Act→Prop
  | 0,done,a=>L done a
  | f+1,done,a=>Region.ready md ops done≠[]∧∀ i ∈ Region.ready md ops done,i<n∧qOp P ops C i (vC P md ops C n L f (done.setIfInBounds i true)) a
theorem jO {g : Nat} {L : Array Bool→Act→Prop} {Q : Exit→Act→World→Prop} (hL : ∀ done a w,C w→L done a→wpAny P md ops Q g done a w) :
    ∀ (f : Nat) (done : Array Bool) (a : Act) (w : World),C w→vC P md ops C n L f done a→wpAny P md ops Q (f+g) done a w
  | 0,done,a,w,hw,h=>by rw [Nat.zero_add];exact hL _ _ _ hw h
  | f+1,done,a,w,hw,h=>by
    rw [show f+1+g=(f+g)+1 by omega]
    exact ⟨fun h0=>absurd h0 h.1,fun i hi=>wpOp_of_qOp hw (fun a' w' hw' h'=>jO hL f _ a' w' hw' h') (h.2 i hi).2⟩
theorem qH {i : Nat} {oi : Oper} {v : Value} {L : Array Bool→Act→Prop} (hi : ops[i]?=some oi) (hsel : ∀ (j : Nat) (o : Oper) cs b,ops[j]?=some o→o.op≠.select cs b)
    (hs : Region.sinkB md ops n=true) (hc : Region.chainB md ops n=true) (hn : n<ops.size) (hin : i<n)
    (hend : ∀ done a,L done a→∀ j ∈ Region.ready md ops done,n≤j) :
    ∀ (f : Nat) (done : Array Bool) (a : Act),HeadInv md ops n done→
      (∀ j oj,ops[j]?=some oj→j≠i→done.getD j true=false→(∀ e ∈ oj.after,Region.binds md e=true→e.on≠i)→oi.apart ops oj=true)→
      i ∈ Region.ready md ops done→YieldsIn P ops C oi v a→
      vC P md ops C n L f (done.setIfInBounds i true) (a.put oi.dst v)→vC P md ops C n L (f+1) done a:=by
  intro f
  induction f with
  | zero=>
    intro done a inv _ hr hy H
    have hun:=(mem_ready.1 hr).1
    refine ⟨fun h=>(by rw [h] at hr;cases hr),fun j hj=>?_⟩
    have hjn : j<n:=Nat.lt_of_not_le fun h=>tail_waits hs hc hn inv _ i rfl hin hun j h hj
    refine ⟨hjn,?_⟩
    by_cases hji : j=i
    · subst hji;exact hy.qOp hi H
    · exact absurd (hend _ _ H j (ready_mono hj hji)) (by omega)
  | succ f ih=>
    intro done a inv hfree hr hy H
    have hun:=(mem_ready.1 hr).1
    refine ⟨fun h=>(by rw [h] at hr;cases hr),fun j hj=>?_⟩
    have hjn : j<n:=Nat.lt_of_not_le fun h=>tail_waits hs hc hn inv _ i rfl hin hun j h hj
    refine ⟨hjn,?_⟩
    by_cases hji : j=i
    · subst hji;exact hy.qOp hi H
    · obtain ⟨hjun,oj,hoj,hall⟩:=mem_ready.1 hj
      have hnot : ∀ e ∈ oj.after,Region.binds md e=true→e.on≠i:=fun e he hb heq=>by
        have h1:=hall e he hb
        rw [heq,getD_both hun] at h1
        cases h1
      have h2:=qOp_put hoj (hfree j oj hoj hji hjun hnot) (fun cs b=>hsel i oi cs b hi) (fun cs b=>hsel j oj cs b hoj) hy (H.2 j (ready_mono hj hji)).2
      refine qOp_mono (fun a' h3=>ih (done.setIfInBounds j true) a' (inv.set hj hjn) (fun k ok hk hki hkun hno=>hfree k ok hk hki ?_ hno) (ready_mono hr (Ne.symm hji)) h3.1 ?_) h2
      · by_cases hjk : j=k
        · subst hjk;exact hjun
        · rwa [getD_set_ne true hjk] at hkun
      · rw [Array.setIfInBounds_comm _ _ hji]
        exact h3.2
theorem oK {g : Nat} {Φ : Act→Prop} (hsel : Region.noSelect ops=true) (hs : Region.sinkB md ops n=true) (hc : Region.chainB md ops n=true) (hn : n<ops.size) :
    ∀ (l : List Oper) (k : Nat) (done : Array Bool) (a : Act),(∀ j,j<l.length→l[j]?=ops[k+j]?)→k+l.length=n→HeadInv md ops n done→
    Region.lexHead md ops g l.length k done=true→wpQuiet P ops C Φ l a→
    vC P md ops C n (fun done' a'=>Region.seqB md ops g n done'=true∧Φ a') l.length done a
  | [],k,done,a,_,hk,_,hB,h=>by
    have : k=n:=by simpa using hk
    subst this
    exact ⟨by simpa [Region.lexHead] using hB,h⟩
  | o::l,k,done,a,hl,hk,inv,hB,h=>by
    have h0 : ops[k]?=some o:=by simpa using (hl 0 (by simp)).symm
    simp only [List.length_cons,Region.lexHead,Bool.and_eq_true] at hB
    obtain ⟨⟨hr,hf⟩,hB'⟩:=hB
    have hkn : k<n:=by simp only [List.length_cons] at hk;omega
    have hr' : k ∈ Region.ready md ops done:=by simpa using hr
    have hst : qOp P ops C k (wpQuiet P ops C Φ l) a:=by unfold qOp;simp only [h0];exact h
    obtain ⟨v,hy,hK⟩:=yieldsIn_of_qOp h0 hst
    exact qH h0 (Region.noSelect_spec hsel) hs hc hn hkn (fun done' a' hL=>seqB_ready hL.1) l.length done a inv (Region.free_spec h0 hf) hr' hy
      (oK hsel hs hc hn l (k+1) _ _ (fun j hj=>by have:=hl (j+1) (by simp;omega);simpa [Nat.add_assoc,Nat.add_comm 1 j] using this) (by simp only [List.length_cons] at hk;omega) (inv.set hr' hkn) hB' hK)
theorem gD {id : Nat} {Q : Exit→Act→World→Prop} {a : Act} {w : World} {l : List Oper} (n : Nat) (hm : P.follows .mixedOrders=true) (hB : Region.lexTailB .any l.toArray n=true)
    (hC : C { w with drawn:=w.drawn+1 })
    (h : wpQuiet P l.toArray C (fun a'=>∀ w',C w'→wpList P l.toArray Q (l.drop n) a' w') (l.take n) a) : (Code.region id l.toArray true).wp P Q a w:=by
  simp only [Region.lexTailB,Bool.and_eq_true,decide_eq_true_eq] at hB
  obtain ⟨⟨⟨⟨hsel,hn⟩,hs⟩,hc⟩,hlex⟩:=hB
  have hn' : n<l.length:=by simpa using hn
  have htl : (l.take n).length=n:=by simp;omega
  have hdl : (l.drop n).length=l.toArray.size - n:=by simp
  have inv0 : HeadInv .any l.toArray n (Array.replicate l.toArray.size false):=
    ⟨by simp,fun j oj _ hl=>(by rw [getD_replicate_false] at hl;cases hl),fun t _ ht=>getD_in (by simpa using ht) (getD_replicate_false _ _)⟩
  have H:=oK (P:=P) (C:=C) (md:=.any) (g:=l.toArray.size - n) hsel hs hc hn (l.take n) 0 _ a (fun j hj=>by
    have hj' : j<n:=by rw [htl] at hj;exact hj
    simp [hj']) (by simpa using htl) inv0 (by rw [htl];exact hlex) h
  refine wp_region_any hm ?_
  have:=jO (Q:=Q) (g:=l.toArray.size - n) (fun done a' w' hw' hL=>by
    have:=wpAny_of_seq (md:=.any) (Q':=Q) (l.drop n) n done a' w' (fun j=>by simp [List.getElem?_drop]) (by rw [hdl];exact hL.1) (hL.2 w' hw')
    rwa [hdl] at this) _ _ _ _ hC H
  rw [htl,show n+(l.toArray.size - n)=l.toArray.size by omega] at this
  exact this
end
section
variable {P : Program} {n : Nat} {w0 : World} {S : List Nat} {ops : Array Oper} {Q Q' : Exit→Act→World→Prop} {l : List Oper} {E E' : Env} {M M' : List aN}
structure JL (P : Program) (n : Nat) (w0 : World) (S : List Nat) (ops : Array Oper) (Q : Exit→Act→World→Prop) (l : List Oper) (E : Env) (M : List aN) : Prop where
  go : ∀ a w,bf n E a→aa w0 S M w→wpList P ops Q l a w
structure JE (n : Nat) (w0 : World) (S : List Nat) (Q : Exit→Act→World→Prop) (e : Exit) (E : Env) (M : List aN) : Prop where
  go : ∀ a w,bf n E a→aa w0 S M w→Q e a w
structure JC (P : Program) (n : Nat) (w0 : World) (S : List Nat) (Q : Exit→Act→World→Prop) (c : Code) (E : Env) (M : List aN) : Prop where
  go : ∀ a w,bf n E a→aa w0 S M w→c.wp P Q a w
structure JQ (P : Program) (n : Nat) (w0 : World) (S : List Nat) (ops : Array Oper) (M : List aN) (Φ : Act→Prop) (l : List Oper) (E : Env) : Prop where
  go : ∀ a,bf n E a→wpQuiet P ops (aa w0 S M) Φ l a
theorem JC.seq {x y : Code} (h : JC P n w0 S (Exit.then (y.wp P Q) Q) x E M) : JC P n w0 S Q (.seq x y) E M:=⟨fun a w ha hw=>wp_seq (h.go a w ha hw)⟩
theorem JC.skip (h : JE n w0 S Q .normal E M) : JC P n w0 S Q .skip E M:=⟨fun a w ha hw=>wp_skip (h.go a w ha hw)⟩
theorem JC.label {k : Nat} (h : JE n w0 S Q .normal E M) : JC P n w0 S Q (.label k) E M:=⟨fun a w ha hw=>wp_label (h.go a w ha hw)⟩
theorem JC.exit {id : Nat} (h : JE n w0 S Q (.exit id) E M) : JC P n w0 S Q (.exit id) E M:=⟨fun a w ha hw=>wp_exit (h.go a w ha hw)⟩
theorem JC.ret (h : JE n w0 S Q .ret E M) : JC P n w0 S Q .ret E M:=⟨fun a w ha hw=>wp_ret (h.go a w ha hw)⟩
theorem JC.block {id : Nat} {c : Code} (h : JC P n w0 S (Exit.inBlock id Q) c E M) : JC P n w0 S Q (.block id c) E M:=⟨fun a w ha hw=>wp_block (h.go a w ha hw)⟩
theorem JC.cond {c : Operand} {x y : Code} {t : Bool} (hc : ev E c=some (.bool t)) (ht : t=true→JC P n w0 S Q x E M) (hf : t=false→JC P n w0 S Q y E M) : JC P n w0 S Q (.cond c x y) E M:=
  ⟨fun a w ha hw=>wp_cond_split (ha.eval hc) (fun h=>(ht h).go a w ha hw) (fun h=>(hf h).go a w ha hw)⟩
theorem JC.cond_true {c : Operand} {x y : Code} {t : Bool} (hc : ev E c=some (.bool t)) (h : t=true) (ht : JC P n w0 S Q x E M) : JC P n w0 S Q (.cond c x y) E M:=
  JC.cond hc (fun _=>ht) (fun h'=>by rw [h] at h';cases h')
theorem JC.cond_false {c : Operand} {x y : Code} {t : Bool} (hc : ev E c=some (.bool t)) (h : t=false) (hf : JC P n w0 S Q y E M) : JC P n w0 S Q (.cond c x y) E M:=
  JC.cond hc (fun h'=>by rw [h] at h';cases h') (fun _=>hf)
theorem JC.region {id : Nat} {l : List Oper} (h : JL P n w0 S l.toArray Q l E M) : JC P n w0 S Q (.region id l.toArray false) E M:=⟨fun a w ha hw=>wp_region_lit (h.go a w ha hw)⟩
theorem JC.quiet {id : Nat} {l : List Oper} (hm : P.follows .mixedOrders=true) (hB : Region.lexB .any l.toArray=true)
    (h : JQ P n w0 S l.toArray M (fun a'=>∀ w',aa w0 S M w'→Q .normal a' w') l E) : JC P n w0 S Q (.region id l.toArray true) E M:=
  ⟨fun a _ ha hw=>wp_region_quiet hm hB (hw.drawn _) (by simpa using h.go a ha)⟩
theorem JC.tail {id : Nat} {l : List Oper} (m : Nat) (hm : P.follows .mixedOrders=true) (hB : Region.lexTailB .any l.toArray m=true)
    (h : JQ P n w0 S l.toArray M (fun a'=>∀ w',aa w0 S M w'→wpList P l.toArray Q (l.drop m) a' w') (l.take m) E) : JC P n w0 S Q (.region id l.toArray true) E M:=
  ⟨fun a _ ha hw=>gD m hm hB (hw.drawn _) (h.go a ha)⟩
theorem JC.weak {c : Code} (h : JC P n w0 S Q c E' M') (hE : af E E') (hM : aq M' M) : JC P n w0 S Q c E M:=
  ⟨fun a w ha hw=>h.go a w (ha.sub hE) (hw.weak hM)⟩
theorem JE.weak {e : Exit} (h : JE n w0 S Q e E' M') (hE : af E E') (hM : aq M' M) : JE n w0 S Q e E M:=
  ⟨fun a w ha hw=>h.go a w (ha.sub hE) (hw.weak hM)⟩
theorem JC.loop {ι : Type} (Ei : ι→Env) (Mi : ι→List aN) (μ : ι→Nat) (I : ι→Prop) {c : Code} (i : ι) (hi : I i) (hE : af E (Ei i)) (hM : aq (Mi i) M)
    (h : ∀ i,I i→JC P n w0 S (Exit.then (fun a' w'=>∃ j,I j∧μ j<μ i∧bf n (Ei j) a'∧aa w0 S (Mi j) w') Q) c (Ei i) (Mi i)) : JC P n w0 S Q (.loop c) E M:=by
  refine ⟨fun a w ha hw=>?_⟩
  have ha':=ha.sub hE
  have hw':=hw.weak hM
  clear ha hw hE hM
  have key : ∀ m i,μ i=m→I i→∀ a w,bf n (Ei i) a→aa w0 S (Mi i) w→∀ (b : Frame) (k : List Item) (cs : List Frame),
      ∃ e a' w',Q e a' w'∧Arrives P (lone (b.at a (.code c::.inLoop c::k)) cs w) b k cs e a' w':=by
    intro m
    induction m using Nat.strongRecOn with
    | _ m ih=>
      intro i hm hI a w ha hw b k cs
      obtain ⟨e,a₁,w₁,hq,harr⟩:=(h i hI).go a w ha hw b (.inLoop c::k) cs
      cases e with
      | normal=>
        obtain ⟨j,hj,hlt,ha₁,hw₁⟩:=hq
        obtain ⟨e₂,a₂,w₂,hq₂,harr₂⟩:=ih (μ j) (hm ▸ hlt) j rfl hj a₁ w₁ ha₁ hw₁ b k cs
        exact ⟨e₂,a₂,w₂,hq₂,.of_steps (Steps.trans harr (.one step_inLoop)) harr₂⟩
      | exit id=>exact ⟨_,a₁,w₁,hq,.pass (x:=.inLoop c) rfl (fun _ _=>.inl (by simp)) harr⟩
      | goto l=>exact ⟨_,a₁,w₁,hq,.pass (x:=.inLoop c) rfl (fun _ _=>.inl (by simp)) harr⟩
      | ret=>exact ⟨_,a₁,w₁,hq,.pass (x:=.inLoop c) rfl (fun _ _=>.inl (by simp)) harr⟩
      | panic ch=>exact ⟨_,a₁,w₁,hq,.pass (x:=.inLoop c) rfl (fun _ _=>.inl (by simp)) harr⟩
      | outgrown=>exact ⟨_,a₁,w₁,hq,.pass (x:=.inLoop c) rfl (fun _ _=>.inl (by simp)) harr⟩
  intro b k cs
  obtain ⟨e,a',w',hq,harr⟩:=key _ i rfl hi a w ha' hw' b k cs
  exact ⟨e,a',w',hq,.of_steps (.one step_loop) harr⟩
theorem JE.next {y : Code} (h : JC P n w0 S Q' y E M) : JE n w0 S (Exit.then (y.wp P Q') Q) .normal E M:=⟨h.go⟩
theorem JE.again {ι : Type} {Ei : ι→Env} {Mi : ι→List aN} {μ : ι→Nat} {I : ι→Prop} {i : ι} (j : ι) (hj : I j) (hμ : μ j<μ i) (hE : af E (Ei j)) (hM : aq (Mi j) M) :
    JE n w0 S (Exit.then (fun a' w'=>∃ j,I j∧μ j<μ i∧bf n (Ei j) a'∧aa w0 S (Mi j) w') Q) .normal E M:=
  ⟨fun _ _ ha hw=>⟨j,hj,hμ,ha.sub hE,hw.weak hM⟩⟩
theorem JE.av {K : Act→World→Prop} {id : Nat} (h : JE n w0 S Q (.exit id) E M) : JE n w0 S (Exit.then K Q) (.exit id) E M:=⟨h.go⟩
theorem JE.ah {K : Act→World→Prop} (h : JE n w0 S Q .ret E M) : JE n w0 S (Exit.then K Q) .ret E M:=⟨h.go⟩
theorem JE.ag {id : Nat} (h : JE n w0 S Q .normal E M) : JE n w0 S (Exit.inBlock id Q) .normal E M:=⟨h.go⟩
theorem JE.aW {id : Nat} (h : JE n w0 S Q .ret E M) : JE n w0 S (Exit.inBlock id Q) .ret E M:=⟨h.go⟩
theorem JE.aF {id : Nat} (h : JE n w0 S Q .normal E M) : JE n w0 S (Exit.inBlock id Q) (.exit id) E M:=⟨fun a w ha hw=>by
  show (if id=id then Q .normal a w else _)
  rw [if_pos rfl];exact h.go a w ha hw⟩
theorem JE.vD {id id' : Nat} (hne : (id == id')=false) (h : JE n w0 S Q (.exit id) E M) : JE n w0 S (Exit.inBlock id' Q) (.exit id) E M:=⟨fun a w ha hw=>by
  show (if id=id' then _ else Q (.exit id) a w)
  rw [if_neg (by simpa using hne)];exact h.go a w ha hw⟩
theorem JL.nil (h : JE n w0 S Q .normal E M) : JL P n w0 S ops Q [] E M:=⟨h.go⟩
theorem JQ.nil (h : JE n w0 S Q .normal E M) : JQ P n w0 S ops M (fun a'=>∀ w',aa w0 S M w'→Q .normal a' w') [] E:=⟨fun a ha w hw=>h.go a w ha hw⟩
theorem JQ.vE {l' : List Oper} (h : JL P n w0 S ops Q l' E M) : JQ P n w0 S ops M (fun a'=>∀ w',aa w0 S M w'→wpList P ops Q l' a' w') [] E:=⟨fun a ha w hw=>h.go a w ha hw⟩
variable {d : Nat} {op : Op} {ty : TypeId} {pos : String} {aft : Array Edge} {v : Value}
theorem JL.q (h : OQ P n E (aa w0 S M) ⟨some d,op,ty,pos,aft,none⟩ v) (hd : Nat.blt d n=true) (k : JL P n w0 S ops Q l ((d,v)::E) M) : JL P n w0 S ops Q (⟨some d,op,ty,pos,aft,none⟩::l) E M:=
  ⟨fun a _ ha hw=>wpList_plain rfl fun _ hK=>Oper.wp_of_quiet (C:=aa w0 S M) (K:=fun a'=>a'=a.put (some d) v) hw (fun _ _ hw' e=>hK _ _ (e ▸ k.go _ _ (ha.put d v hd) hw')) ⟨v,h.go a ha,rfl⟩⟩
theorem JQ.q {Φ : Act→Prop} (h : OQ P n E (aa w0 S M) ⟨some d,op,ty,pos,aft,none⟩ v) (hd : Nat.blt d n=true) (k : JQ P n w0 S ops M Φ l ((d,v)::E)) : JQ P n w0 S ops M Φ (⟨some d,op,ty,pos,aft,none⟩::l) E:=
  ⟨fun a ha=>wpQuiet_step fun _ hK=>by
    simp only [Region.wanted,if_true]
    exact ⟨v,h.go a ha,hK _ (k.go _ (ha.put d v hd))⟩⟩
def fj (ops : Array Oper) (E : Env) (j : Nat) : Option Bool:=
  match (ops[j]?).bind (·.dst) with
  | some s=>match lk E s with
    | some (.bool b)=>some b
    | _=>none
  | none=>none
theorem kN {j : Nat} {b : Bool} (h : fj ops E j=some b) {a : Act} (ha : bf n E a) (hn : ∀ s,(ops[j]?).bind (·.dst)=some s→Nat.blt s n=true) : yielded ops a.tmps j=some b:=by
  unfold fj at h
  unfold yielded
  cases hs : (ops[j]?).bind (·.dst) with
  | none=>simp [hs] at h
  | some s=>
    simp only [hs] at h
    have hlt : s<n:=by simpa using hn s hs
    cases hv : lk E s with
    | none=>simp [hv] at h
    | some u=>
      have h1:=ha.all s u hv
      have h2 : a.tmps[s]?=some u:=by
        have : s<a.tmps.size:=by rw [ha.size];exact hlt
        rw [Array.getElem?_eq_getElem this]
        simpa [Array.getD,this] using h1
      simp only [hv] at h
      cases u <;> simp at h
      subst h
      simp [h2]
def dG (ops : Array Oper) (n j : Nat) : Bool:=match (ops[j]?).bind (·.dst) with | some s=>Nat.blt s n | none=>false
theorem gE {j : Nat} (h : dG ops n j=true) : ∀ s,(ops[j]?).bind (·.dst)=some s→Nat.blt s n=true:=by
  intro s hs
  simpa [dG,hs] using h
variable {j : Nat} {want b : Bool}
theorem mu (h : fj ops E j=some b) (hf : dG ops n j=true) {a : Act} (ha : bf n E a) : Region.wanted ⟨some d,op,ty,pos,aft,some (j,want)⟩ (yielded ops a.tmps)=(b == want):=by
  simp only [Region.wanted,kN h ha (gE hf)]
  cases b <;> cases want <;> rfl
theorem JL.aM (hg : fj ops E j=some b) (hf : dG ops n j=true) (hne : (b == want)=false) (hd : Nat.blt d n=true)
    (k : JL P n w0 S ops Q l ((d,undef)::E) M) : JL P n w0 S ops Q (⟨some d,op,ty,pos,aft,some (j,want)⟩::l) E M:=
  ⟨fun a w ha hw=>wpList_skip (by rw [mu hg hf ha];exact hne) (k.go _ _ (ha.put d undef hd) hw)⟩
theorem JQ.aM {Φ : Act→Prop} (hg : fj ops E j=some b) (hf : dG ops n j=true) (hne : (b == want)=false) (hd : Nat.blt d n=true)
    (k : JQ P n w0 S ops M Φ l ((d,undef)::E)) : JQ P n w0 S ops M Φ (⟨some d,op,ty,pos,aft,some (j,want)⟩::l) E:=
  ⟨fun a ha=>wpQuiet_step fun _ hK=>by
    rw [mu hg hf ha,hne]
    simp only [Bool.false_eq_true,if_false]
    exact hK _ (k.go _ (ha.put d undef hd))⟩
end
end Sl
end
section
namespace Sl
def cellAt : Obj→Nat→Option Value
  | .cells c _ _,j=>c[j]?
  | _,_=>none
def Row (e : TypeId) (l : List Value) : Obj→Prop:=fun o=>o=.cells l.toArray e (0,0)
def BW (e : TypeId) (l : List Value) : Obj→Prop:=fun o=>∃ sp : List Value,o=.cells (l++sp).toArray e (0,0)
def b6 (o : Obj) (j : Nat) (cs : List Value) : Prop:=∃ c e fr,o=.cells c e fr∧∀ i,i<cs.length→c[j+i]?=cs[i]?
theorem Row.cell {e : TypeId} {l : List Value} {j : Nat} {v : Value} (h : l[j]?=some v) : ∀ o,Row e l o→cellAt o j=some v:=by
  rintro o rfl
  simpa [cellAt] using h
theorem BW.cell {e : TypeId} {l : List Value} {j : Nat} {v : Value} (h : l[j]?=some v) : ∀ o,BW e l o→cellAt o j=some v:=by
  rintro o ⟨sp,rfl⟩
  have hj : j<l.length:=(List.getElem?_eq_some_iff.1 h).1
  simpa [cellAt,List.getElem?_append_left hj] using h
theorem Row.cells {e : TypeId} {l cs : List Value} {j : Nat} (h : (l.drop j).take cs.length=cs) : ∀ o,Row e l o→b6 o j cs:=by
  rintro o rfl
  refine ⟨_,_,_,rfl,fun i hi=>?_⟩
  rw [← h]
  simp [hi]
theorem Row.all {e : TypeId} {l : List Value} : ∀ o,Row e l o→b6 o 0 l:=Row.cells (by simp)
def qI (P : Program) (t : TypeId) : Bool:=
  match P.underlying t with
  | some (.struct _) | some (.array _ _)=>true
  | _=>false
def fG (P : Program) (t : TypeId) : Bool:=
  match P.underlying t with
  | some (.struct _) | some (.array _ _) | none=>false
  | _=>true
def gv (P : Program) (t : TypeId) : Option Nat:=(P.info? t).map (·.size)
section
variable {P : Program} {t : TypeId} {w w' : World} {b j : Nat} {v : Value} {cs : List Value}
theorem kO (h : fG P t=true) (w : World) : (isAgg t).run P w=.ok false w:=by
  unfold fG at h
  cases hu : P.underlying t with
  | none=>simp [hu] at h
  | some d=>
    unfold isAgg
    rw [Sem.run_bind,run_underlying hu w]
    cases d <;> simp_all
theorem tG (h : qI P t=true) (w : World) : (isAgg t).run P w=.ok true w:=by
  unfold qI at h
  cases hu : P.underlying t with
  | none=>simp [hu] at h
  | some d=>
    unfold isAgg
    rw [Sem.run_bind,run_underlying hu w]
    cases d <;> simp_all
theorem bF {k : Nat} (h : gv P t=some k) (w : World) : (sizeOf t).run P w=.ok k w:=by
  unfold gv at h
  cases hq : P.info? t with
  | none=>simp [hq] at h
  | some i=>
    have hs : i.size=k:=by simpa [hq] using h
    simp [sizeOf,typeInfo,hq,hs]
theorem bX (b j i : Nat) : (⟨b,j,none⟩ : Addr).add i=⟨b,j+i,none⟩:=by
  unfold Addr.add
  split <;> simp_all
theorem eE (hs : fG P t=true) (hc : w.cell? ⟨b,j,none⟩=some v) : (loadVar t ⟨b,j,none⟩).run P w=.ok v w:=by
  simp [loadVar,Sem.run_bind,kO hs,load,Sem.run,hc]
theorem oL (ha : qI P t=true) (hz : gv P t=some cs.length) (hc : ∀ i u,cs[i]?=some u→w.cell? ⟨b,j+i,none⟩=some u) : (loadVar t ⟨b,j,none⟩).run P w=.ok (.agg cs.toArray) w:=by
  have hl : (loadCells ⟨b,j,none⟩ cs.length).run P w=.ok cs.toArray w:=run_loadCells_list (P:=P) w ⟨b,j,none⟩ cs (fun i u hu=>by rw [bX];exact hc i u hu)
  simp [loadVar,Sem.run_bind,tG ha,bF hz,hl]
theorem cell_of {o : Obj} (ho : w.heap[b]?=some o) (h : cellAt o j=some v) : w.cell? ⟨b,j,none⟩=some v:=by
  unfold World.cell?
  simp only [ho]
  cases o <;> simp_all [cellAt]
theorem oM {o : Obj} (ho : w.heap[b]?=some o) (h : b6 o j cs) : ∀ i u,cs[i]?=some u→w.cell? ⟨b,j+i,none⟩=some u:=by
  intro i u hu
  obtain ⟨c,e,fr,rfl,hc⟩:=h
  have hi : i<cs.length:=(List.getElem?_eq_some_iff.1 hu).1
  exact cell_of ho (by simp [cellAt,hc i hi,hu])
end
section
variable {P : Program} {n : Nat} {w0 : World} {S : List Nat} {ops : Array Oper} {Q : Exit→Act→World→Prop} {l : List Oper} {E : Env} {M M' : List aN} {C : World→Prop}
variable {dst : Option Tmp} {d b j : Nat} {op : Op} {t ty : TypeId} {pos : String} {aft : Array Edge} {g : Option (Nat × Bool)} {v : Value} {x y : Operand} {A A' : Obj→Prop} {wr : Bool} {cs : List Value}
theorem OQ.j7 (ha : ∀ w,C w→(loadVar t ⟨b,j,none⟩).run P w=.ok v w) (hx : ev E x=some (.pointer (some ⟨b,j,none⟩))) : OQ P n E C ⟨dst,.load t x,ty,pos,aft,g⟩ v:=
  OQ.run fun a hk w hw=>by
    have:=hk.eval hx
    simp [execOp,this,Instr.loadAt,Instr.sureAddr,ha w hw]
theorem OQ.load (hs : fG P t=true) (hx : ev E x=some (.pointer (some ⟨b,j,none⟩))) (hM : Has M b A wr) (hA : ∀ o,A o→cellAt o j=some v) : OQ P n E (aa w0 S M) ⟨dst,.load t x,ty,pos,aft,g⟩ v:=
  OQ.j7 (fun _ hw=>let ⟨_,ho,hAo⟩:=hw.get hM;eE hs (cell_of ho (hA _ hAo))) hx
theorem OQ.ai (hs : fG P t=true) (hx : ev E x=some (.pointer (some ⟨b,j,none⟩))) (hb : b<w0.heap.size) (hS : b ∉ S) (hc : w0.cell? ⟨b,j,none⟩=some v) : OQ P n E (aa w0 S M) ⟨dst,.load t x,ty,pos,aft,g⟩ v:=
  OQ.j7 (fun w hw=>eE hs (by simpa [World.cell?,hw.old hb hS] using hc)) hx
theorem OQ.er {k : Nat} (ha : qI P t=true) (hz' : gv P t=some k) (hx : ev E x=some (.pointer (some ⟨b,j,none⟩))) (hM : Has M b A wr) (hl : cs.length=k) (hA : ∀ o,A o→b6 o j cs) : OQ P n E (aa w0 S M) ⟨dst,.load t x,ty,pos,aft,g⟩ (.agg cs.toArray):=
  OQ.j7 (fun _ hw=>let ⟨_,ho,hAo⟩:=hw.get hM;oL ha (hl ▸ hz') (oM ho (hA _ hAo))) hx
def aO (P : Program) (f : FuncId) : Prop:=∃ fn,P.funcs[f]?=some fn∧fn.body.isNone=false∧(fn.name == "runtime.NumGoroutine")=false
def fQ (E : Env) : List Operand→Option (List Value)
  | []=>some []
  | x::xs=>match ev E x,fQ E xs with
    | some v,some vs=>some (v::vs)
    | _,_=>none
theorem fR {a : Act} (hk : bf n E a) : ∀ {xs : List Operand} {vs : List Value},fQ E xs=some vs→xs.map a.eval=vs
  | [],vs,h=>by simpa [fQ] using h
  | x::xs,vs,h=>by
    simp only [fQ] at h
    cases h1 : ev E x with
    | none=>simp [h1] at h
    | some v=>
      cases h2 : fQ E xs with
      | none=>simp [h1,h2] at h
      | some us=>
        simp only [h1,h2,Option.some.injEq] at h
        subst h
        simp [hk.eval h1,fR hk h2]
theorem jr {f : FuncId} {xs : List Operand} {ats : Array TypeId} {vs : List Value} {a : Act} (hg : aO P f) (hk : bf n E a) (hx : fQ E xs=some vs) (w : World) :
    (execOp a.eval ⟨dst,.call ⟨.value (.func f),xs.toArray,ats⟩,ty,pos,aft,g⟩).run P w=.ok (.enter f vs.toArray) w:=by
  obtain ⟨fn,h1,h2,h3⟩:=hg
  have hm : xs.toArray.map a.eval=vs.toArray:=by simp [fR hk hx]
  have h2' : ¬ fn.body=none:=fun h=>by rw [h] at h2;cases h2
  have h3' : ¬ fn.name = "runtime.NumGoroutine" := by simpa using h3
  simp [execOp,resolve,Sem.run_bind,hm,Act.eval,Deferred.ofValue,invoke,callFunc,program,Sem.run,h1,h2',h3']
theorem OQ.call {f : FuncId} {xs : List Operand} {ats : Array TypeId} {vs : List Value} (hg : aO P f) (hx : fQ E xs=some vs) (hc : ∀ w,C w→Calls P f vs.toArray w fun e w'=>e=.returned v∧C w') : OQ P n E C ⟨dst,.call ⟨.value (.func f),xs.toArray,ats⟩,ty,pos,aft,g⟩ v:=by
  refine ⟨fun a hk w hw=>?_⟩
  unfold Oper.quietAt
  rw [jr hg hk hx w]
  exact ⟨rfl,hc w hw⟩
theorem OQ.an {f : FuncId} {xs : List Operand} {ats : Array TypeId} {vs : List Value} (hg : aO P f) (hx : fQ E xs=some vs) (hc : ∀ w,aa w0 S M w→Calls P f vs.toArray w fun e w'=>e=.returned v∧Ext w w') :
    OQ P n E (aa w0 S M) ⟨dst,.call ⟨.value (.func f),xs.toArray,ats⟩,ty,pos,aft,g⟩ v:=
  OQ.call hg hx fun w hw=>(hc w hw).mono fun _ _ ⟨h1,h2⟩=>⟨h1,hw.ext h2⟩
theorem JL.call {ι : Type} (vf : ι→Value) (Mf : ι→List aN) {f : FuncId} {xs : List Operand} {ats : Array TypeId} {vs : List Value} (hg : aO P f) (hx : fQ E xs=some vs) (hd : Nat.blt d n=true)
    (hc : ∀ w,aa w0 S M w→Calls P f vs.toArray w fun e w'=>∃ i,e=.returned (vf i)∧aa w0 S (Mf i) w')
    (k : ∀ i,JL P n w0 S ops Q l ((d,vf i)::E) (Mf i)) : JL P n w0 S ops Q (⟨some d,.call ⟨.value (.func f),xs.toArray,ats⟩,ty,pos,aft,none⟩::l) E M:=
  ⟨fun a w ha hw=>wpList_plain rfl fun K hK=>by
    unfold Oper.wp
    rw [jr hg ha hx w]
    exact (hc w hw).mono fun e w' ⟨i,h1,h2⟩=>by subst h1;exact hK _ _ ((k i).go _ _ (ha.put d _ hd) h2)⟩
def oN {α : Type} (P : Program) : Sem α→Option (Obj × (Nat→Sem α))
  | .new o k=>some (o,k)
  | .program k=>oN P (k P)
  | .mark _ k=>oN P k
  | _=>none
theorem kP {α : Type} {vf : Nat→α} {ob : Obj} {kk : Nat→Sem α} : ∀ {s : Sem α} {w : World},oN P s=some (ob,kk)→(∀ r,vB P (kk r)=some (vf r))→s.run P w=.ok (vf w.heap.size) { w with heap:=w.heap.push ob }
  | .new o k,w,h,h2=>by
    simp only [oN,Option.some.injEq,Prod.mk.injEq] at h
    obtain ⟨rfl,rfl⟩:=h
    exact iO (h2 _)
  | .program k,w,h,h2=>by simp only [oN] at h;exact kP (s:=k P) h h2
  | .mark _ k,w,h,h2=>by simp only [oN] at h;exact kP (s:=k) h h2
  | .load ..,_,h,_ | .store ..,_,h,_ | .pure ..,_,h,_ | .shape ..,_,h,_ | .freeze ..,_,h,_ | .frozen ..,_,h,_ | .getObj ..,_,h,_ | .setObj ..,_,h,_ | .choose ..,_,h,_ | .sys ..,_,h,_ | .halt ..,_,h,_=>by simp [oN] at h
theorem vF {o : Oper} {a : Act} (hs : oJ o.op=true) (hk : known E o.op=true) (ha : bf n E a) : execOp a.eval o=execOp (Ay E) o:=by
  refine execOp_congr _ (fun cs b hh=>?_) fun x hx=>?_
  · rw [hh] at hs;simp [oJ] at hs
  · simp only [known,List.all_eq_true] at hk
    obtain ⟨u,hu⟩:=Option.isSome_iff_exists.1 (hk x (by simpa using hx))
    rw [ha.eval hu,Ay,hu];rfl
theorem JL.new (A : Obj→Prop) (vf : Nat→Value) {ob : Obj} {kk : Nat→Sem Next} (hs : oJ op=true) (hk : known E op=true) (h1 : oN P (execOp (Ay E) ⟨some d,op,ty,pos,aft,none⟩)=some (ob,kk))
    (h2 : ∀ r,vB P (kk r)=some (.value (vf r))) (hA : A ob) (hd : Nat.blt d n=true)
    (k : ∀ b,w0.heap.size≤b→JL P n w0 S ops Q l ((d,vf b)::E) (⟨b,A,true⟩::M)) : JL P n w0 S ops Q (⟨some d,op,ty,pos,aft,none⟩::l) E M:=
  ⟨fun a w ha hw=>wpList_plain rfl fun K hK=>by
    unfold Oper.wp
    rw [vF hs hk ha,kP (vf:=fun r=>Next.value (vf r)) h1 h2]
    exact hK _ _ ((k w.heap.size hw.aS.size).go _ _ (ha.put d _ hd) (hw.push ob hA rfl rfl rfl rfl))⟩
@[reducible] def Pt (b j : Nat) : Value:=.pointer (some ⟨b,j,none⟩)
def zc (P : Program) (t : TypeId) : Option (List Value):=((P.info? t).bind (·.zero)).map (·.cells.toList)
theorem JL.alloc {r : List Value} (hz : zc P t=some r) (hd : Nat.blt d n=true)
    (k : ∀ b,w0.heap.size≤b→JL P n w0 S ops Q l ((d,Pt b 0)::E) (⟨b,Row t r,true⟩::M)) : JL P n w0 S ops Q (⟨some d,.alloc t,ty,pos,aft,none⟩::l) E M:=
  ⟨fun a w ha hw=>wpList_plain rfl fun K hK=>by
    have hr : (Instr.alloc t true (.tuple #[])).run P w=.ok (Pt w.heap.size 0) { w with heap:=w.heap.push (.cells r.toArray t (0,0)) }:=by
      unfold zc at hz
      cases hq : P.info? t with
      | none=>simp [hq] at hz
      | some i=>
        cases hi : i.zero with
        | none=>simp [hq,hi] at hz
        | some z=>
          simp only [hq,hi,Option.bind_some,Option.map_some,Option.some.injEq] at hz
          have h1 : z.cells=r.toArray:=by rw [← hz]
          simp [Instr.alloc,zeroValue,typeInfo,Sem.run_bind,hq,hi,newVar,newRow,newObj,h1,Sem.run]
    unfold Oper.wp
    simp only [execOp,Sem.run_bind,hr,Result.andThen_ok]
    exact hK _ _ ((k w.heap.size hw.aS.size).go _ _ (ha.put d _ hd) (hw.push (.cells r.toArray t (0,0)) rfl rfl rfl rfl rfl))⟩
theorem JL.box {r : List Value} (hx : ev E x=some v) (hr : v.cells=r.toArray) (hd : Nat.blt d n=true)
    (k : ∀ b,w0.heap.size≤b→JL P n w0 S ops Q l ((d,Pt b 0)::E) (⟨b,Row t r,true⟩::M)) : JL P n w0 S ops Q (⟨some d,.box t x,ty,pos,aft,none⟩::l) E M:=
  ⟨fun a w ha hw=>wpList_plain rfl fun K hK=>by
    have h1 : (Instr.box t v).run P w=.ok (Pt w.heap.size 0) { w with heap:=w.heap.push (.cells r.toArray t (0,0)) }:=by
      simp [Instr.box,newVar,newRow,newObj,hr,Sem.run]
    unfold Oper.wp
    simp only [execOp,ha.eval hx,Sem.run_bind,h1,Result.andThen_ok]
    exact hK _ _ ((k w.heap.size hw.aS.size).go _ _ (ha.put d _ hd) (hw.push (.cells r.toArray t (0,0)) rfl rfl rfl rfl rfl))⟩
theorem cw {α : Type} (f : α→Value) (d : α) {r : List α} {j : Nat} (h : j<r.length) : (r.map f)[j]?=some (f (r.getD j d)):=by
  simp [h]
theorem fS {w : World} {c : Array Value} {e : TypeId} {fr : Nat × Nat} (ho : w.heap[b]?=some (.cells c e fr)) :
    (w.setCell ⟨b,j,none⟩ v).heap[b]?=some (.cells (c.setIfInBounds j v) e fr):=by
  simp [World.setCell,Array.getElem?_modify,ho]
theorem fB {w : World} {k : Nat} (h : k≠b) : (w.setCell ⟨b,j,none⟩ v).heap[k]?=w.heap[k]?:=by
  simp [World.setCell,Array.getElem?_modify,Ne.symm h]
theorem fT {w : World} : (w.setCell ⟨b,j,none⟩ v).heap.size=w.heap.size:=by simp [World.setCell]
theorem mw {w : World} {c : Array Value} {e : TypeId} (hv : v.oneCell'=true) (ho : w.heap[b]?=some (.cells c e (0,0))) (hj : j<c.size) :
    (Go.store ⟨b,j,none⟩ v).run P w=.ok () (w.setCell ⟨b,j,none⟩ v):=by
  have hc : w.cell? ⟨b,j,none⟩=some c[j]:=by simp [World.cell?,ho,hj]
  have hf : w.frozen? ⟨b,j,none⟩=false:=by simp [World.frozen?,ho]
  cases v <;> simp_all [Go.store,Sem.run,Value.oneCell']
theorem gF {e : TypeId} : ∀ (vs : List Value) (i : Nat) (w : World) (c : List Value),(∀ v ∈ vs,v.oneCell'=true)→w.heap[b]?=some (.cells c.toArray e (0,0))→j+i+vs.length≤c.length→
    ∃ w',(storeCells ⟨b,j,none⟩ vs i).run P w=.ok () w'∧w'.heap[b]?=some (.cells (c.take (j+i)++vs++c.drop (j+i+vs.length)).toArray e (0,0))∧w'.heap.size=w.heap.size∧
      (∀ k,k≠b→w'.heap[k]?=w.heap[k]?)∧w'.os=w.os∧w'.tape=w.tape∧w'.output=w.output
  | [],i,w,c,_,ho,_=>⟨w,rfl,by simpa using ho,rfl,fun _ _=>rfl,rfl,rfl,rfl⟩
  | v::vs,i,w,c,h1,ho,hl=>by
    simp only [List.length_cons] at hl
    obtain ⟨w',r1,r2,r3,r4,r5,r6,r7⟩:=gF (e:=e) vs (i+1) (w.setCell ⟨b,j+i,none⟩ v) (c.set (j+i) v) (fun u hu=>h1 u (by simp [hu])) (by
      rw [fS ho];simp) (by simp;omega)
    refine ⟨w',?_,?_,r3.trans fT,fun k hk=>(r4 k hk).trans (fB hk),r5,r6,r7⟩
    · simp only [storeCells,Sem.run_bind,bX]
      rw [mw (h1 v (by simp)) ho (by simp;omega)]
      exact r1
    · rw [r2]
      congr 3
      rw [List.take_set,List.drop_set,if_pos (by omega)]
      rw [show j+(i+1)=j+i+1 by omega,List.take_add_one]
      simp only [List.getElem?_eq_getElem (show j+i<c.length by omega),Option.toList_some,List.length_cons]
      rw [List.set_append_right _ _ (by rw [List.length_take];omega)]
      simp [List.length_take,Nat.min_eq_left (show j+i≤c.length by omega),Nat.add_assoc,Nat.add_comm,Nat.add_left_comm]
theorem JL.BX {hb : Option Tmp} (h : ∀ a w,bf n E a→aa w0 S M w→∃ w',(execOp a.eval ⟨hb,op,ty,pos,aft,none⟩).run P w=.ok .skip w'∧wpList P ops Q l (a.put hb undef) w') : JL P n w0 S ops Q (⟨hb,op,ty,pos,aft,none⟩::l) E M:=
  ⟨fun a w ha hw=>wpList_plain rfl fun K hK=>by
    obtain ⟨w',h1,h2⟩:=h a w ha hw
    unfold Oper.wp
    rw [h1]
    exact hK _ _ h2⟩
theorem JL.store (hx : ev E x=some (.pointer (some ⟨b,j,none⟩))) (hy : ev E y=some v) (hz : gv P t=some 1) (hv : v.oneCell'=true) (hcl : v.cells=#[v]) (hu : nr M b A A' M')
    (hA : ∀ o,A o→∃ c e,o=.cells c e (0,0)∧j<c.size∧A' (.cells (c.setIfInBounds j v) e (0,0)))
    (k : JL P n w0 S ops Q l E M') : JL P n w0 S ops Q (⟨none,.store t x y,ty,pos,aft,none⟩::l) E M:=
  JL.BX fun a w ha hw=>by
    obtain ⟨o,ho,hAo⟩:=hw.get hu.has
    obtain ⟨c,e,rfl,hj,hA'⟩:=hA o hAo
    refine ⟨w.setCell ⟨b,j,none⟩ v,?_,k.go _ _ (ha.oI _) (hw.write hu hA' (fS ho) fT (fun _ h=>fB h) rfl rfl rfl)⟩
    have hs : (storeCells ⟨b,j,none⟩ [v] 0).run P w=.ok () (w.setCell ⟨b,j,none⟩ v):=by
      simp only [storeCells,Sem.run_bind,bX,Nat.add_zero]
      rw [mw hv ho hj];rfl
    simp [execOp,ha.eval hx,ha.eval hy,Instr.storeAt,Instr.sureAddr,Sem.run_bind,storeVar,bF hz,hcl,hs]
theorem JL.cm {r r' : List Value} {e : TypeId} (hz : gv P t=some 1) (hx : ev E x=some (.pointer (some ⟨b,j,none⟩))) (hy : ev E y=some v) (hv : v.oneCell'=true) (hcl : v.cells=#[v]) (hu : nr M b (Row e r) (Row e r') M') (hj : j<r.length) (he : r.set j v=r')
    (k : JL P n w0 S ops Q l E M') : JL P n w0 S ops Q (⟨none,.store t x y,ty,pos,aft,none⟩::l) E M:=
  JL.store hx hy hz hv hcl hu (fun o ho=>⟨_,_,ho,by simpa using hj,by simp [Row,he]⟩) k
theorem JL.tH {k : Nat} (hz' : gv P t=some k) (hx : ev E x=some (.pointer (some ⟨b,j,none⟩))) (hy : ev E y=some (.agg cs.toArray)) (hl : cs.length=k) (hv : cs.all Value.oneCell'=true) (hu : nr M b A A' M')
    (hA : ∀ o,A o→∃ r e,o=.cells (List.toArray r) e (0,0)∧j+cs.length≤r.length∧A' (.cells (r.take j++cs++r.drop (j+cs.length)).toArray e (0,0)))
    (k : JL P n w0 S ops Q l E M') : JL P n w0 S ops Q (⟨none,.store t x y,ty,pos,aft,none⟩::l) E M:=
  JL.BX fun a w ha hw=>by
    have hz : gv P t=some cs.length:=hl ▸ hz'
    obtain ⟨o,ho,hAo⟩:=hw.get hu.has
    obtain ⟨r,e,rfl,hj,hA'⟩:=hA o hAo
    obtain ⟨w',r1,r2,r3,r4,r5,r6,r7⟩:=gF (P:=P) (j:=j) cs 0 w r (fun v hv'=>List.all_eq_true.1 hv v hv') ho (by omega)
    refine ⟨w',?_,k.go _ _ (ha.oI _) (hw.write hu hA' (by simpa using r2) r3 r4 r5 r6 r7)⟩
    simp [execOp,ha.eval hx,ha.eval hy,Instr.storeAt,Instr.sureAddr,Sem.run_bind,storeVar,bF hz,Value.cells,r1]
theorem JL.gP {r : List Value} {e : TypeId} {m : Nat} (hz : gv P t=some m) (hx : ev E x=some (.pointer (some ⟨b,0,none⟩))) (hy : ev E y=some (.agg cs.toArray)) (hc : cs.length=m) (hv : cs.all Value.oneCell'=true) (hu : nr M b (Row e r) (Row e cs) M')
    (hr : r.length=m) (k : JL P n w0 S ops Q l E M') : JL P n w0 S ops Q (⟨none,.store t x y,ty,pos,aft,none⟩::l) E M:=
  JL.tH hz hx hy hc hv hu (fun o ho=>⟨r,e,ho,by omega,by simp [Row,hc,← hr]⟩) k
def enum : Nat→List Value→Env
  | _,[]=>[]
  | i,v::vs=>(i,v)::enum (i+1) vs
theorem sg : ∀ (vs : List Value) (i t : Nat) (v : Value),lk (enum i vs) t=some v→i≤t∧vs[t - i]?=some v
  | [],_,_,_,h=>by simp [enum,lk] at h
  | u::vs,i,t,v,h=>by
    simp only [enum,lk] at h
    by_cases e : i=t
    · subst e
      simp at h
      simp [h]
    · have : Nat.beq i t=false:=Bool.eq_false_iff.2 fun h=>e (Nat.eq_of_beq_eq_true h)
      rw [this] at h
      obtain ⟨h1,h2⟩:=sg vs (i+1) t v h
      refine ⟨by omega,?_⟩
      rw [show t - i=(t - (i+1))+1 by omega]
      simpa using h2
theorem bf.enter (vs : List Value) (hl : vs.length≤n) : bf n (enum 0 vs) ⟨vs.toArray++Array.replicate (n - vs.toArray.size) undef,[]⟩:=by
  refine ⟨by simp;omega,rfl,fun t v h=>?_⟩
  obtain ⟨_,h2⟩:=sg vs 0 t v h
  have ht : t<vs.length:=(List.getElem?_eq_some_iff.1 h2).1
  simp only [Nat.sub_zero] at h2
  have h3:=(List.getElem?_eq_some_iff.1 h2).2
  simp [Array.getD_eq_getD_getElem?,Array.getElem?_append,ht,h3]
theorem enter {f : FuncId} {fn : Func} {c : Code} {vs : List Value} {w : World} {R : Ending→World→Prop} (hf : P.funcs[f]?=some fn) (hb : fn.body=some c) (hn : fn.ntmps=n) (hl : Nat.ble vs.length n=true)
    (hM : aa w S M w) (h : JC P n w S (bodyPost P fn R) c (enum 0 vs) M) : Calls P f vs.toArray w R:=by
  refine calls_of_wp hf hb (h.go _ _ ?_ hM)
  rw [hn]
  exact bf.enter vs (by simpa using hl)
def si (tmps : Array Value) : ResultVar→Sem Value
  | .tmp t=>pure (tmps.getD t undef)
  | .cell p ty=>do loadVar ty (← asAddr (tmps.getD p undef))
theorem iC (fn : Func) (tmps : Array Value) : results fn tmps=(do let vs ← fn.results.mapM (si tmps);pure (if h : vs.size=1 then vs[0] else .tuple vs)):=by
  unfold results
  congr 2
def RV (P : Program) (n : Nat) (w0 : World) (S : List Nat) (E : Env) (M : List aN) (r : ResultVar) (v : Value) : Prop:=
  ∀ a w,bf n E a→aa w0 S M w→(si a.tmps r).run P w=.ok v w
theorem RV.tmp {t : Tmp} (h : lk E t=some v) : RV P n w0 S E M (.tmp t) v:=fun a w ha _=>by
  simp only [si,ha.all t v h];rfl
theorem RV.cell {p : Tmp} (h : lk E p=some (.pointer (some ⟨b,0,none⟩))) (ha : fG P t=true) (hM : Has M b A wr) (hA : ∀ o,A o→cellAt o 0=some v) : RV P n w0 S E M (.cell p t) v:=fun a w hk hw=>by
  obtain ⟨o,ho,hAo⟩:=hw.get hM
  have:=eE (P:=P) ha (cell_of ho (hA o hAo))
  simp [si,hk.all p _ h,asAddr,this]
variable {fn : Func} {R : Ending→World→Prop} {r1 r2 r3 : ResultVar} {v1 v2 v3 : Value}
theorem JE.x9 (hr : fn.results=#[]) (hR : ∀ w,aa w0 S M w→R (.returned (.tuple #[])) w) : JE n w0 S (bodyPost P fn R) .normal E M:=⟨fun a w ha hw=>
  ⟨ha.defers,.tuple #[],by simp [results,hr],hR w hw⟩⟩
theorem JE.aC (hr : fn.results=#[r1]) (h1 : RV P n w0 S E M r1 v1) (hR : ∀ w,aa w0 S M w→R (.returned v1) w) : JE n w0 S (bodyPost P fn R) .ret E M:=by
  refine ⟨fun a w ha hw=>?_⟩
  refine ⟨ha.defers,v1,?_,hR w hw⟩
  have e1:=h1 a w ha hw
  rw [iC,hr]
  simp [e1]
theorem JE.bI (hr : fn.results=#[r1,r2]) (h1 : RV P n w0 S E M r1 v1) (h2 : RV P n w0 S E M r2 v2) (hR : ∀ w,aa w0 S M w→R (.returned (.tuple #[v1,v2])) w) : JE n w0 S (bodyPost P fn R) .ret E M:=by
  refine ⟨fun a w ha hw=>?_⟩
  refine ⟨ha.defers,.tuple #[v1,v2],?_,hR w hw⟩
  have e1:=h1 a w ha hw
  have e2:=h2 a w ha hw
  rw [iC,hr]
  simp [Sem.run_bind,e1,e2]
end
end Sl
end
section
namespace Sl
@[reducible] def N (a : Nat) : Value:=.int .i64 a
@[reducible] def U8 (a : BitVec 8) : Value:=.int .u8 a.toNat
section
variable {P : Program} {n : Nat} {E : Env} {C : World→Prop} {dst : Option Tmp} {ty t t' : TypeId} {pos : String} {aft : Array Edge} {g : Option (Nat × Bool)} {x y : Operand} {u v r : Value} {o : BinOp}
def AG : BinOp→Bool
  | .eql | .neq=>false
  | _=>true
theorem OQ.bin (hx : ev E x=some u) (hy : ev E y=some v) (ho : AG o=true) (h : ∀ w,(binOp o t u v).run P w=.ok r w) : OQ P n E C ⟨dst,.binOp o t x y t',ty,pos,aft,g⟩ r:=
  OQ.run fun a ha w _=>by
    have h1:=ha.eval hx
    have h2:=ha.eval hy
    have hg : ∀ w,(eqGuard o t x y u v).run P w=.ok () w:=fun w=>by
      cases o <;> first | rfl | cases ho
    simp [execOp,h1,h2,Sem.run_bind,hg,h w]
theorem OQ.AH {k : IntKind} {a b : Int} (hx : ev E x=some (.int k a)) (hy : ev E y=some (.int k b)) : OQ P n E C ⟨dst,.binOp .eql t x y t',ty,pos,aft,g⟩ (.bool (decide (a=b))):=
  OQ.run fun c ha w _=>by
    have h1:=ha.eval hx
    have h2:=ha.eval hy
    simp [execOp,h1,h2,eqGuard,binOp,Op.intCmp]
    rfl
theorem OQ.AI {k : IntKind} {a b : Int} (hx : ev E x=some (.int k a)) (hy : ev E y=some (.int k b)) : OQ P n E C ⟨dst,.binOp .neq t x y t',ty,pos,aft,g⟩ (.bool (!decide (a=b))):=
  OQ.run fun c ha w _=>by
    have h1:=ha.eval hx
    have h2:=ha.eval hy
    simp [execOp,h1,h2,eqGuard,binOp,Op.intCmp]
    rfl
theorem oO {w : World} {k : IntKind} {i j : Int} (e : i=j) : (Result.ok (Value.int k i) w : Result Value)=.ok (.int k j) w:=by rw [e]
theorem iD {w : World} {i j : Bool} (e : i=j) : (Result.ok (Value.bool i) w : Result Value)=.ok (.bool j) w:=by rw [e]
theorem sj {a : Int} (h0 : -9223372036854775808≤a) (h : a<9223372036854775808) : IntKind.i64.wrap a=a:=by
  simp [IntKind.wrap,IntKind.bits,IntKind.signed];omega
theorem OQ.aT {a b : Nat} (hx : ev E x=some (N a)) (hy : ev E y=some (N b)) (h : a+b<9223372036854775808) : OQ P n E C ⟨dst,.binOp .add t x y t',ty,pos,aft,g⟩ (N (a+b)):=
  OQ.bin hx hy rfl fun _=>oO (k:=.i64) (show IntKind.i64.wrap ((a : Int)+b)=((a+b : Nat) : Int) from (sj (by omega) (by omega)).trans (by simp))
theorem OQ.eu {a b : Nat} (hx : ev E x=some (N a)) (hy : ev E y=some (N b)) (h : b≤a) (h2 : a<9223372036854775808) : OQ P n E C ⟨dst,.binOp .sub t x y t',ty,pos,aft,g⟩ (N (a - b)):=
  OQ.bin hx hy rfl fun _=>oO (k:=.i64) (show IntKind.i64.wrap ((a : Int) - b)=((a - b : Nat) : Int) from (sj (by omega) (by omega)).trans (by omega))
theorem OQ.dz {a b : Nat} (hx : ev E x=some (N a)) (hy : ev E y=some (N b)) : OQ P n E C ⟨dst,.binOp .lss t x y t',ty,pos,aft,g⟩ (.bool (decide (a<b))):=
  OQ.bin hx hy rfl fun _=>iD (decide_eq_decide.2 Int.ofNat_lt)
theorem OQ.nt {a b : Nat} (hx : ev E x=some (N a)) (hy : ev E y=some (N b)) : OQ P n E C ⟨dst,.binOp .gtr t x y t',ty,pos,aft,g⟩ (.bool (decide (b<a))):=
  OQ.bin hx hy rfl fun _=>iD (decide_eq_decide.2 Int.ofNat_lt)
theorem OQ.AJ {a b : Nat} (hx : ev E x=some (N a)) (hy : ev E y=some (N b)) : OQ P n E C ⟨dst,.binOp .geq t x y t',ty,pos,aft,g⟩ (.bool (decide (b≤a))):=
  OQ.bin hx hy rfl fun _=>iD (decide_eq_decide.2 Int.ofNat_le)
theorem OQ.B7 {a b : Nat} (hx : ev E x=some (N a)) (hy : ev E y=some (N b)) : OQ P n E C ⟨dst,.binOp .eql t x y t',ty,pos,aft,g⟩ (.bool (decide (a=b))):=
  (decide_eq_decide.2 Int.ofNat_inj : decide ((a : Int)=b)=decide (a=b)) ▸ OQ.AH hx hy
theorem OQ.B8 {a b : Nat} (hx : ev E x=some (N a)) (hy : ev E y=some (N b)) : OQ P n E C ⟨dst,.binOp .neq t x y t',ty,pos,aft,g⟩ (.bool (!decide (a=b))):=
  (decide_eq_decide.2 Int.ofNat_inj : decide ((a : Int)=b)=decide (a=b)) ▸ OQ.AI hx hy
theorem y9 (a : Nat) : IntKind.u8.wrap (a : Int)=((a % 2 ^ 8 : Nat) : Int):=by simp [IntKind.wrap,IntKind.bits,IntKind.signed]
end
end Sl
end
section
namespace Sl
section
variable {P : Program} {n : Nat} {E : Env} {C : World→Prop} {dst : Option Tmp} {ty t t' e : TypeId} {pos : String} {aft : Array Edge} {g : Option (Nat × Bool)} {x y : Operand} {u v r : Value}
theorem OQ.conv {k k' : IntKind} {d : TypeDesc} {i : Int} (hs : P.underlying t=some d) (hd : P.underlying t'=some (.int k)) (hx : ev E x=some (.int k' i)) (hv : v=.int k (k.wrap i)) : OQ P n E C ⟨dst,.convert t t' x,ty,pos,aft,g⟩ v:=by
  subst hv
  refine OQ.run fun a ha w _=>?_
  have h1:=ha.eval hx
  have h2 : (underlying t).run P w=.ok d w:=run_underlying hs w
  have h3 : (underlying t').run P w=.ok (.int k) w:=run_underlying hd w
  cases d <;> simp [execOp,h1,convert,Sem.run_bind,h2,h3,Conv.intToInt]
theorem OQ.AK {len cap b j i sz : Nat} (hu : P.underlying t=some (.slice e)) (hz : gv P e=some sz) (hx : ev E x=some (.slice (some ⟨b,j,none⟩) len cap)) (hy : ev E y=some (N i)) (hi : i<len) :
    OQ P n E C ⟨dst,.indexAddr t x y,ty,pos,aft,g⟩ (.pointer (some ⟨b,j+i * sz,none⟩)):=
  OQ.run fun a ha w _=>by
    have h1:=ha.eval hx
    have h2:=ha.eval hy
    have h3 : (underlying t).run P w=.ok (.slice e) w:=run_underlying hu w
    simp [execOp,h1,h2,Instr.indexAt,asIntOf,Sem.run_bind,h3,hi,bF hz,bX]
theorem OQ.za {len cap b i : Nat} (hu : P.underlying t=some (.slice e)) (hz : gv P e=some 1) (hx : ev E x=some (.slice (some ⟨b,0,none⟩) len cap)) (hy : ev E y=some (N i)) (hi : i<len) :
    OQ P n E C ⟨dst,.indexAddr t x y,ty,pos,aft,g⟩ (.pointer (some ⟨b,i,none⟩)):=by
  have:=OQ.AK (P:=P) (n:=n) (C:=C) (dst:=dst) (ty:=ty) (pos:=pos) (aft:=aft) (g:=g) hu hz hx hy hi
  rwa [Nat.mul_one,Nat.zero_add] at this
theorem OQ.aJ {len cap b j i : Nat} (hu : P.underlying t=some (.slice e)) (hz : gv P e=some 1) (hx : ev E x=some (.slice (some ⟨b,j,none⟩) len cap)) (hy : ev E y=some (N i)) (hi : i<len) :
    OQ P n E C ⟨dst,.indexAddr t x y,ty,pos,aft,g⟩ (.pointer (some ⟨b,j+i,none⟩)):=by
  have:=OQ.AK (P:=P) (n:=n) (C:=C) (dst:=dst) (ty:=ty) (pos:=pos) (aft:=aft) (g:=g) hu hz hx hy hi
  rwa [Nat.mul_one] at this
theorem OQ.index {len i : Nat} {cs : List Value} (hu : P.underlying t=some (.array len e)) (hz : gv P e=some 1) (hs : fG P e=true) (hx : ev E x=some (.agg cs.toArray)) (hy : ev E y=some (N i)) (hi : i<len) (hv : cs[i]?=some v) :
    OQ P n E C ⟨dst,.index t x y,ty,pos,aft,g⟩ v:=
  OQ.run fun a ha w _=>by
    have h1:=ha.eval hx
    have h2:=ha.eval hy
    have h3 : (underlying t).run P w=.ok (.array len e) w:=run_underlying hu w
    simp [execOp,h1,h2,Instr.index,asIntOf,Sem.run_bind,h3,hi,bF hz,part,kO hs,hv]
theorem OQ.bG {s f : Nat} {fs : Array Field} {fd : Field} {b j sz : Nat} (hu : P.underlying s=some (.struct fs)) (hf : fs[f]?=some fd) (hz : gv P fd.type=some sz) (h0 : sz≠0) (hx : ev E x=some (.pointer (some ⟨b,j,none⟩))) :
    OQ P n E C ⟨dst,.fieldAddr s x f,ty,pos,aft,g⟩ (.pointer (some ⟨b,j+fd.offset,none⟩)):=
  OQ.run fun a ha w _=>by
    have h1:=ha.eval hx
    have h3 : (underlying s).run P w=.ok (.struct fs) w:=run_underlying hu w
    simp [execOp,h1,Instr.fieldAt,Sem.run_bind,h3,hf,Instr.sureAddr,fieldPlace,bF hz,h0,bX]
theorem OQ.zI {len cap lo sz : Nat} {ad : Option Addr} (hu : P.underlying t=some (.slice e)) (hz : gv P e=some sz) (hx : ev E x=some (.slice ad len cap)) (hl : ev E y=some (N lo)) (h : lo≤len) :
    OQ P n E C ⟨dst,.slice t x (some y) none none,ty,pos,aft,g⟩ (.slice (if cap=lo then ad else ad.map (·.add (lo * sz))) (len - lo) (cap - lo)):=
  OQ.run fun a ha w _=>by
    have h1:=ha.eval hx
    have h2:=ha.eval hl
    have h3 : (underlying t).run P w=.ok (.slice e) w:=run_underlying hu w
    simp [execOp,h1,h2,Instr.sliceAt,Sem.run_bind,h3,Instr.slice,Instr.sliceBounds,Instr.sliceBound,asIntOf,h,bF hz]
theorem OQ.qJ {len cap hi sz : Nat} {ad : Option Addr} (hu : P.underlying t=some (.slice e)) (hz : gv P e=some sz) (hx : ev E x=some (.slice ad len cap)) (hh : ev E y=some (N hi)) (h : hi≤cap) :
    OQ P n E C ⟨dst,.slice t x none (some y) none,ty,pos,aft,g⟩ (.slice (if cap=0 then ad else ad.map (·.add 0)) hi cap):=
  OQ.run fun a ha w _=>by
    have h1:=ha.eval hx
    have h2:=ha.eval hh
    have h3 : (underlying t).run P w=.ok (.slice e) w:=run_underlying hu w
    simp [execOp,h1,h2,Instr.sliceAt,Sem.run_bind,h3,Instr.slice,Instr.sliceBounds,Instr.sliceBound,asIntOf,h,bF hz]
end
end Sl
end
section
namespace Sl
def Reads (w : World) (ad : Option Addr) (cs : List Value) : Prop:=∀ i v,cs[i]?=some v→∃ b j,ad=some ⟨b,j,none⟩∧w.cell? ⟨b,j+i,none⟩=some v
theorem Reads.nil (w : World) (ad : Option Addr) : Reads w ad []:=by intro i v h;simp at h
theorem Reads.at {w : World} {ad : Option Addr} {cs : List Value} (h : Reads w ad cs) (h0 : 0<cs.length) : ∃ b j,ad=some ⟨b,j,none⟩∧∀ i v,cs[i]?=some v→w.cell? ⟨b,j+i,none⟩=some v:=by
  obtain ⟨b,j,h1,_⟩:=h 0 cs[0] (by simp [h0])
  refine ⟨b,j,h1,fun i v hv=>?_⟩
  obtain ⟨b',j',h2,h3⟩:=h i v hv
  rw [h1] at h2
  cases h2
  exact h3
theorem Reads.of {w : World} {b j : Nat} {cs : List Value} (h : ∀ i v,cs[i]?=some v→w.cell? ⟨b,j+i,none⟩=some v) : Reads w (some ⟨b,j,none⟩) cs:=fun i v hv=>⟨b,j,rfl,h i v hv⟩
theorem Reads.block {w : World} {b j : Nat} {cs : List Value} {o : Obj} (ho : w.heap[b]?=some o) (h : b6 o j cs) : Reads w (some ⟨b,j,none⟩) cs:=.of (oM ho h)
theorem Reads.take {w : World} {ad : Option Addr} {cs : List Value} (h : Reads w ad cs) (k : Nat) : Reads w ad (cs.take k):=fun i v hv=>h i v (by
  rw [List.getElem?_take] at hv
  split at hv
  · exact hv
  · cases hv)
theorem Reads.drop {w : World} {ad : Option Addr} {cs : List Value} {len cap lo : Nat} (h : Reads w ad cs) (hl : cs.length=len) (hc : len≤cap) (hlo : lo≤len) : Reads w (if cap=lo then ad else ad.map (·.add (lo * 1))) (cs.drop lo):=by
  by_cases e : cap=lo
  · rw [if_pos e,List.drop_of_length_le (by omega)]
    exact .nil _ _
  · rw [if_neg e]
    intro i v hv
    rw [List.getElem?_drop] at hv
    obtain ⟨b,j,h1,h2⟩:=h _ v hv
    refine ⟨b,j+lo,by simp [h1,bX],by rw [Nat.add_assoc];exact h2⟩
section
variable {P : Program} {w : World} {cs : List Value} {ad : Option Addr} {m c sz : Nat}
end
def EI (P : Program) (e : TypeId) (z : Value) (sz bytes : Nat) : Prop:=(P.info? e).map (fun i=>(i.zero,i.size,i.bytes))=some (some z,sz,bytes)
theorem EI.get {P : Program} {e : TypeId} {z : Value} {sz bytes : Nat} (h : EI P e z sz bytes) : ∃ i,P.info? e=some i∧i.zero=some z∧i.size=sz∧i.bytes=bytes:=by
  unfold EI at h
  cases hq : P.info? e with
  | none=>simp [hq] at h
  | some i=>simp only [hq,Option.map_some,Option.some.injEq,Prod.mk.injEq] at h;exact ⟨i,rfl,h⟩
theorem EI.sz {P : Program} {e : TypeId} {z : Value} {sz bytes : Nat} (h : EI P e z sz bytes) : gv P e=some sz:=by
  obtain ⟨i,h1,_,h2,_⟩:=h.get
  simp [gv,h1,h2]
def aG (e : TypeId) (sz n cap : Nat) (xs : List Value) : Obj→Prop:=fun o=>∃ sp : List Value,o=.cells (xs++sp).toArray e (0,0)∧(xs++sp).length=cap * sz∧xs.length=n * sz∧n≤cap
theorem Sl.aG.cells {e : TypeId} {sz n cap : Nat} {xs : List Value} : ∀ o,Sl.aG e sz n cap xs o→b6 o 0 xs:=by
  rintro o ⟨sp,rfl,_⟩
  exact ⟨_,_,_,rfl,fun i hi=>by simp [List.getElem?_append_left hi]⟩
theorem Sl.aG.cell {e : TypeId} {sz n cap j : Nat} {v : Value} {xs : List Value} (h : xs[j]?=some v) : ∀ o,Sl.aG e sz n cap xs o→cellAt o j=some v:=by
  rintro o ⟨sp,rfl,_⟩
  have hj : j<xs.length:=(List.getElem?_eq_some_iff.1 h).1
  simpa [cellAt,List.getElem?_append_left hj] using h
inductive az : List aN→Nat→(Obj→Prop)→Nat→(Obj→Prop)→List aN→Prop where
  | here {b A b' A' M} : az (⟨b,A,true⟩::M) b A b' A' (⟨b',A',true⟩::M)
  | there {e M b A b' A' M'} : az M b A b' A' M'→az (e::M) b A b' A' (e::M')
section
variable {w0 : World} {S : List Nat} {M M' : List aN} {w w' : World} {b b' : Nat} {A A' : Obj→Prop}
theorem az.has (h : az M b A b' A' M') : Has M b A true:=by
  induction h with
  | here=>exact .here
  | there _ ih=>exact .there ih
theorem az.Bx (h : az M b A b A' M') : nr M b A A' M':=by
  generalize hb : b=b1 at h
  have : b=b1:=hb
  clear hb
  suffices ∀ {M M' : List aN} {b b1 : Nat} {A A' : Obj→Prop},az M b A b1 A' M'→b=b1→nr M b A A' M' by exact this (by rw [← ‹b=b1›] at h ⊢;exact h) rfl
  intro M M' b b1 A A' h e
  induction h with
  | here=>subst e;exact .here
  | there _ ih=>exact .there (ih e)
theorem az.mem (h : az M b A b' A' M') : ∀ e ∈ M',e=⟨b',A',true⟩∨e ∈ M:=by
  induction h with
  | here=>
    intro e he
    simp only [List.mem_cons] at he
    rcases he with rfl | he
    · exact .inl rfl
    · exact .inr (by simp [he])
  | there _ ih=>
    intro e he
    simp only [List.mem_cons] at he
    rcases he with rfl | he
    · exact .inr (by simp)
    · rcases ih e he with h | h
      · exact .inl h
      · exact .inr (by simp [h])
theorem az.nodup (h : az M b A b' A' M') (hn : (M.map aN.b).Nodup) (hb : b' ∉ M.map aN.b) : (M'.map aN.b).Nodup:=by
  induction h with
  | here=>
    simp only [List.map_cons,List.nodup_cons,List.mem_cons,not_or] at hn hb ⊢
    exact ⟨hb.2,hn.2⟩
  | @there e M b A b' A' M' hr ih=>
    simp only [List.map_cons,List.nodup_cons,List.mem_cons,not_or] at hn hb ⊢
    refine ⟨fun hm=>?_,ih hn.2 hb.2⟩
    obtain ⟨x,hx,hxe⟩:=List.mem_map.1 hm
    rcases hr.mem x hx with rfl | hx
    · exact hb.1 hxe
    · exact hn.1 (hxe ▸ List.mem_map_of_mem hx)
theorem aa.renew (h : aa w0 S M w) (o : Obj) (hr : az M b A w.heap.size A' M') (hA : A' o) (hw : w'.heap=w.heap.push o) (h1 : w'.os=w.os) (h2 : w'.tape=w.tape) (h3 : w'.output=w.output) : aa w0 S M' w':=by
  have hp:=h.push o hA hw h1 h2 h3
  refine ⟨hp.aS,hr.nodup h.nodup ?_,fun e he=>?_⟩
  · intro hm
    obtain ⟨e,he,hb⟩:=List.mem_map.1 hm
    have:=h.lt he
    omega
  · rcases hr.mem e he with rfl | he
    · exact hp.all _ (by simp)
    · exact hp.all e (by simp [he])
theorem aa.fresh (h : aa w0 S M w) (hx : Ext w w') (hb : w.heap.size≤b) {o : Obj} (ho : w'.heap[b]?=some o) (hA : A o) : aa w0 S (⟨b,A,true⟩::M) w':=by
  have h':=h.ext hx
  refine ⟨h'.aS,?_,fun e he=>?_⟩
  · simp only [List.map_cons,List.nodup_cons,h.nodup,and_true]
    intro hm
    obtain ⟨e,he,hbe⟩:=List.mem_map.1 hm
    have:=h.lt he
    omega
  · simp only [List.mem_cons] at he
    rcases he with rfl | he
    · exact ⟨⟨o,ho,hA⟩,fun _=>.inr (Nat.le_trans h.aS.size hb)⟩
    · exact h'.all e he
theorem aa.one {o : Obj} (ho : w.heap[b]?=some o) (hA : A o) : aa w [b] [⟨b,A,true⟩] w:=⟨kM.refl _ _,by simp,by simp [ho,hA]⟩
theorem aa.reads (h : aa w0 S M w) {ad : Option Addr} {cs : List Value} (hr : Reads w0 ad cs) (hS : cs≠[]→∀ a,ad=some a→a.block ∉ S) : Reads w ad cs:=by
  intro i v hv
  have hcs : cs≠[]:=by rintro rfl;simp at hv
  obtain ⟨b,j,h1,h2⟩:=hr i v hv
  have hb : b<w0.heap.size:=block_lt_of_cell h2
  exact ⟨b,j,h1,by simpa [World.cell?,h.old hb (hS hcs _ h1)] using h2⟩
end
section
variable {P : Program} {n : Nat} {w0 : World} {S : List Nat} {ops : Array Oper} {Q : Exit→Act→World→Prop} {l : List Oper} {E : Env} {M : List aN} {C : World→Prop}
variable {dst : Option Tmp} {d b j : Nat} {t ty e : TypeId} {pos : String} {aft : Array Edge} {g : Option (Nat × Bool)} {v : Value} {x y : Operand} {A A' : Obj→Prop} {cs : List Value}
theorem OQ.aV {a : Addr} (hx : ev E x=some (.pointer (some a))) : OQ P n E C ⟨dst,.nilCheck x,ty,pos,aft,g⟩ (.pointer (some a)):=
  OQ.run fun c hk w _=>by
    have h1:=hk.eval hx
    simp [execOp,h1]
theorem OQ.len {ad : Option Addr} {k cap : Nat} (hu : P.underlying t=some (.slice e)) (hx : ev E x=some (.slice ad k cap)) : OQ P n E C ⟨dst,.call ⟨.builtin .len,#[x],#[t]⟩,ty,pos,aft,g⟩ (N k):=
  OQ.run fun a hk w _=>by
    have h1:=hk.eval hx
    have h3 : (underlying t).run P w=.ok (.slice e) w:=run_underlying hu w
    simp [execOp,h1,resolve,invoke,builtin,Builtin.len_,Sem.run_bind,h3,goInt]
theorem gG {_t' : TypeId} {w : World} {base ad : Option Addr} {nl cap sc : Nat} {i : TypeInfo} (hu : P.underlying t=some (.slice e)) (hi : P.info? e=some i) (hc : nl≤cap) :
    (Builtin.append_ #[t,t] ty #[.slice base nl cap,.slice ad 0 sc]).run P w=.ok (.slice base nl cap) w:=by
  have h3 : (underlying t).run P w=.ok (.slice e) w:=run_underlying hu w
  cases base <;> cases ad <;> simp [Builtin.append_,run_underlying hu,sizeOf,typeInfo,hi,Builtin.lenOf,Builtin.firstCells,loadCells,loadCellsFrom,hc,storeCells]
theorem JL.append {z : Value} {ad : Option Addr} {sz by' k m cap sc : Nat} {xs : List Value} (M' : Nat→Nat→List aN) (hu : P.underlying t=some (.slice e)) (hi : EI P e z sz by') (hx : ev E x=some (.slice (some ⟨b,0,none⟩) k cap)) (hy : ev E y=some (.slice ad m sc))
    (hup : ∀ b' cap',az M b (Sl.aG e sz k cap xs) b' (Sl.aG e sz (k+m) cap' (xs++cs)) (M' b' cap')) (hl : cs.length=m * sz) (hr : ∀ w,aa w0 S M w→Reads w ad cs) (h1 : ∀ v ∈ cs,v.oneCell'=true)
    (hzz : z.cells.size=sz) (h0 : 0<sz) (hsm : (k+m) * by'≤140737488355328) (hsm2 : k+m<9223372036854775808) (hd : Nat.blt d n=true)
    (kk : ∀ b' cap',JL P n w0 S ops Q l ((d,.slice (some ⟨b',0,none⟩) (k+m) cap')::E) (M' b' cap')) : JL P n w0 S ops Q (⟨some d,.call ⟨.builtin .append,#[x,y],#[t,t]⟩,ty,pos,aft,none⟩::l) E M:=
  ⟨fun a w ha hw=>wpList_plain rfl fun K hK=>by
    obtain ⟨i,hi1,hi2,hi3,hi4⟩:=hi.get
    obtain ⟨o,ho,sp,rfl,hc1,hc2,hc3⟩:=hw.get (hup 0 0).has
    have hru:=hr w hw
    unfold Oper.wp
    simp only [execOp,resolve,invoke,builtin,Sem.run_bind,Sem.run_pure,Result.andThen_ok,List.map_toArray,List.map_cons,List.map_nil,ha.eval hx,ha.eval hy]
    by_cases hm : m=0
    · subst hm
      have hcs : cs=[]:=List.eq_nil_of_length_eq_zero (by simpa using hl)
      subst hcs
      rw [gG (_t':=t) hu hi1 hc3]
      refine hK _ _ ((kk b cap).go _ _ (ha.put d _ hd) (hw.write (hup b cap).Bx (o':=.cells (xs++sp).toArray e (0,0)) ?_ ho rfl (fun _ _=>rfl) rfl rfl rfl))
      exact ⟨sp,by simp,by simpa using hc1,by simpa using hc2,by omega⟩
    · have hpos : 0<cs.length:=by rw [hl];exact Nat.mul_pos (Nat.pos_of_ne_zero hm) h0
      obtain ⟨b2,j2,rfl,hcell⟩:=hru.at hpos
      by_cases hroom : k+m≤cap
      · have hfit : k * i.size+cs.length≤(xs++sp).toArray.size:=by
          rw [hl,hi3,List.size_toArray,hc1,← Nat.add_mul];exact Nat.mul_le_mul_right _ hroom
        rw [run_append_room (P:=P) w t ty e i hu hi1 b k cap (xs++sp).toArray ho ⟨b2,j2,none⟩ m sc cs (by rw [hl,hi3]) (fun u v hv=>by rw [bX];exact hcell u v hv) h1 hroom hfit]
        refine hK _ _ ((kk b cap).go _ _ (ha.put d _ hd) (hw.write (hup b cap).Bx (o':=.cells ((xs++sp).take (k * i.size)++cs++(xs++sp).drop (k * i.size+cs.length)).toArray e (0,0)) ?_ (setRow_heap w b _ _ e _ ho) (by simp) (fun q hq=>setRow_other w b q _ hq) rfl rfl rfl))
        rw [hi3,← hc2,List.take_left]
        refine ⟨(xs++sp).drop (xs.length+cs.length),rfl,?_,by rw [List.length_append,hc2,hl,Nat.add_mul],hroom⟩
        have h7 : xs.length+cs.length≤(xs++sp).length:=by rw [hc1,hc2,hl,← Nat.add_mul];exact Nat.mul_le_mul_right _ hroom
        simp only [List.length_append,List.length_drop] at h7 hc1 ⊢
        omega
      · have hold : ∀ u v,xs[u]?=some v→w.cell? ((⟨b,0,none⟩ : Addr).add u)=some v:=fun u v hv=>by
          rw [bX]
          have hu' : u<xs.length:=(List.getElem?_eq_some_iff.1 hv).1
          exact cell_of ho (by simpa [cellAt,List.getElem?_append_left hu'] using hv)
        have hfit:=growslice_fits (need:=k+m) (old:=cap) (by omega) hsm
        rw [run_append_grow (P:=P) w t ty e i z hu hi1 hi2 ⟨b,0,none⟩ k cap xs (by rw [hc2,hi3]) hold ⟨b2,j2,none⟩ m sc cs (by rw [hl,hi3]) (fun u v hv=>by rw [bX];exact hcell u v hv) (by omega) (by omega) (by rw [hi4];exact hfit)]
        have hge:=grownCap_ge w (k+m) cap e
        generalize grownCap w (k+m) cap e=nc at hge
        refine hK _ _ ((kk w.heap.size nc).go _ _ (ha.put d _ hd) (hw.renew (.cells (xs.toArray++cs.toArray++Builtin.zeroCells z.cells (nc - (k+m))) e) (hup _ _) ?_ rfl rfl rfl rfl))
        refine ⟨(Builtin.zeroCells z.cells (nc - (k+m))).toList,by simp,?_,by rw [List.length_append,hc2,hl,Nat.add_mul],hge⟩
        have h8 : (Builtin.zeroCells z.cells (nc - (k+m))).size=(nc - (k+m)) * sz:=by simp [Builtin.zeroCells,hzz]
        simp only [List.length_append,Array.length_toList,h8,hc2,hl,← Nat.add_mul]
        congr 1
        omega⟩
theorem JL.append_nil {z : Value} {ad : Option Addr} {sz by' m sc : Nat} (hu : P.underlying t=some (.slice e)) (hi : EI P e z sz by') (hx : ev E x=some (.slice none 0 0)) (hy : ev E y=some (.slice ad m sc))
    (hl : cs.length=m * sz) (hr : ∀ w,aa w0 S M w→Reads w ad cs) (hm : 0<m)
    (hzz : z.cells.size=sz) (h0 : 0<sz) (hsm : m * by'≤140737488355328) (hsm2 : m<9223372036854775808) (hd : Nat.blt d n=true)
    (kk : ∀ b' cap',w0.heap.size≤b'→JL P n w0 S ops Q l ((d,.slice (some ⟨b',0,none⟩) m cap')::E) (⟨b',Sl.aG e sz m cap' cs,true⟩::M)) : JL P n w0 S ops Q (⟨some d,.call ⟨.builtin .append,#[x,y],#[t,t]⟩,ty,pos,aft,none⟩::l) E M:=
  ⟨fun a w ha hw=>wpList_plain rfl fun K hK=>by
    obtain ⟨i,hi1,hi2,hi3,hi4⟩:=hi.get
    have hru:=hr w hw
    unfold Oper.wp
    simp only [execOp,resolve,invoke,builtin,Sem.run_bind,Sem.run_pure,Result.andThen_ok,List.map_toArray,List.map_cons,List.map_nil,ha.eval hx,ha.eval hy]
    have hpos : 0<cs.length:=by rw [hl];exact Nat.mul_pos hm h0
    obtain ⟨b2,j2,rfl,hcell⟩:=hru.at hpos
    rw [run_append_nil (P:=P) w t ty e i z hu hi1 hi2 ⟨b2,j2,none⟩ m sc cs (by rw [hl,hi3]) (fun u v hv=>by rw [bX];exact hcell u v hv) hm (by omega) (by rw [hi4];omega)]
    have hge:=grownCap_ge w m 0 e
    generalize grownCap w m 0 e=nc at hge
    refine hK _ _ ((kk w.heap.size nc hw.aS.size).go _ _ (ha.put d _ hd) (hw.push (.cells (cs.toArray++Builtin.zeroCells z.cells (nc - m)) e) ?_ rfl rfl rfl rfl))
    refine ⟨(Builtin.zeroCells z.cells (nc - m)).toList,by simp,?_,hl,hge⟩
    have h8 : (Builtin.zeroCells z.cells (nc - m)).size=(nc - m) * sz:=by simp [Builtin.zeroCells,hzz]
    simp only [List.length_append,Array.length_toList,h8,hl,← Nat.add_mul]
    congr 1
    omega⟩
structure JA (P : Program) (n : Nat) (w0 : World) (S : List Nat) (ops : Array Oper) (Q : Exit→Act→World→Prop) (f : Nat) (done : Array Bool) (E : Env) (M : List aN) : Prop where
  go : ∀ a w,bf n E a→aa w0 S M w→wpAny P .any ops Q f done a w
theorem fU {Q : Exit→Act→World→Prop} {K : Act→World→Prop} {i : Nat} {o : Oper} {a : Act} {w : World} (ho : ops[i]?=some o) (h : wpList P ops (Exit.then K Q) [o] a w) : wpOp P ops Q i K a w:=by
  unfold wpOp
  simp only [ho]
  unfold wpList at h
  split
  · rename_i hw
    rw [if_pos hw] at h
    rcases h with h | h
    · left
      unfold Oper.wp Oper.upon at h ⊢
      generalize (execOp a.eval o).run P w=r at h ⊢
      cases r with
      | ok nx w'=>cases nx <;> first | exact h|(refine Calls.mono h ?_;rintro (v | c | _) w'' hh <;> exact hh)
      | halt x w'=>cases x <;> exact h
    · exact .inr h
  · rename_i hw
    rw [if_neg hw] at h
    exact h
theorem JC.any {id : Nat} {l : List Oper} (hm : P.follows .mixedOrders=true) (h : JA P n w0 S l.toArray Q l.toArray.size (Array.replicate l.toArray.size false) E M) : JC P n w0 S Q (.region id l.toArray true) E M:=
  ⟨fun a _ ha hw=>wp_region_any hm (h.go a _ ha (hw.drawn _))⟩
theorem JA.step {f : Nat} {done : Array Bool} {L : List Nat} (hr : Region.ready .any ops done=L) (hne : L.isEmpty=false) (h : ∀ i ∈ L,∃ o,ops[i]?=some o∧JL P n w0 S ops (Exit.then (fun a' w'=>wpAny P .any ops Q f (done.setIfInBounds i true) a' w') Q) [o] E M) :
    JA P n w0 S ops Q (f+1) done E M:=
  ⟨fun a w ha hw=>⟨fun h0=>(by rw [hr] at h0;subst h0;cases hne),fun i hi=>by
    obtain ⟨o,ho,hj⟩:=h i (hr ▸ hi)
    exact fU ho (hj.go a w ha hw)⟩⟩
theorem JA.done {done : Array Bool} (hr : Region.ready .any ops done=[]) (h : JE n w0 S Q .normal E M) : JA P n w0 S ops Q 0 done E M:=⟨fun a w ha hw=>⟨hr,h.go a w ha hw⟩⟩
theorem JE.any {f : Nat} {done : Array Bool} (h : JA P n w0 S ops Q f done E M) : JE n w0 S (Exit.then (fun a' w'=>wpAny P .any ops Q f done a' w') Q) .normal E M:=⟨h.go⟩
theorem JC.mid {ι : Type} (Ei : ι→Env) (Mi : ι→List aN) (I : ι→Prop) {p q : Code} (h : JC P n w0 S (Exit.then (fun a' w'=>∃ i,I i∧bf n (Ei i) a'∧aa w0 S (Mi i) w') Q) p E M)
    (k : ∀ i,I i→JC P n w0 S Q q (Ei i) (Mi i)) : JC P n w0 S Q (.seq p q) E M:=
  ⟨fun a w ha hw=>wp_seq (wp_mono (h.go a w ha hw) fun e a' w' he=>by
    cases e with
    | normal=>obtain ⟨i,hi,h1,h2⟩:=he;exact (k i hi).go a' w' h1 h2
    | exit _=>exact he
    | goto _=>exact he
    | ret=>exact he
    | panic _=>exact he
    | outgrown=>exact he)⟩
theorem JC.join {ι : Type} (Ei : ι→Env) (Mi : ι→List aN) (I : ι→Prop) {p q : Code} {Q' : Exit→Act→World→Prop} (h : JC P n w0 S (Exit.then (fun a' w'=>∃ i,I i∧bf n (Ei i) a'∧aa w0 S (Mi i) w') Q) p E M)
    (k : ∀ i,I i→JC P n w0 S Q' q (Ei i) (Mi i)) : JC P n w0 S (Exit.then (q.wp P Q') Q) p E M:=
  ⟨fun a w ha hw=>wp_mono (h.go a w ha hw) fun e a' w' he=>by
    cases e with
    | normal=>obtain ⟨i,hi,h1,h2⟩:=he;exact (k i hi).go a' w' h1 h2
    | exit _=>exact he
    | goto _=>exact he
    | ret=>exact he
    | panic _=>exact he
    | outgrown=>exact he⟩
theorem JE.mid {ι : Type} {Ei : ι→Env} {Mi : ι→List aN} {I : ι→Prop} (i : ι) (hi : I i) (hE : af E (Ei i)) (hM : aq (Mi i) M) :
    JE n w0 S (Exit.then (fun a' w'=>∃ i,I i∧bf n (Ei i) a'∧aa w0 S (Mi i) w') Q) .normal E M:=
  ⟨fun _ _ ha hw=>⟨i,hi,ha.sub hE,hw.weak hM⟩⟩
end
end Sl
end
section
namespace Sl
section
variable {P : Program} {n : Nat} {w0 : World} {S : List Nat} {ops : Array Oper} {Q : Exit→Act→World→Prop} {l : List Oper} {E : Env} {M M' : List aN}
variable {d b : Nat} {ty : TypeId} {pos : String} {aft : Array Edge} {v : Value} {A A' : Obj→Prop} {f : FuncId} {xs : List Operand} {ats : Array TypeId} {vs : List Value}
variable {t e : TypeId} {x : Operand} {z : Value} {by' : Nat}
theorem zJ : Array.range 0=#[]:=by decide
theorem zK : Array.range 1=#[0]:=by decide
theorem qK {w : World} (hu : P.underlying t=some (.slice e)) (hi : EI P e z 1 by') : (Instr.buildSlice t 0 #[]).run P w=.ok (.slice (some ⟨w.heap.size,0,none⟩) 0 0) { w with heap:=w.heap.push (.cells ([] : List Value).toArray e (0,0)) }:=by
  have h3 : (underlying t).run P w=.ok (.slice e) w:=run_underlying hu w
  simp [Instr.buildSlice,Sem.run_bind,h3,bF hi.sz,Instr.fill,newRow,newObj,Sem.run,zJ]
theorem qL {w : World} (hu : P.underlying t=some (.slice e)) (hi : EI P e z 1 by') (_hz : z.cells.size=1) (hv : v.cells=#[v]) : (Instr.buildSlice t 1 #[(0,v)]).run P w=.ok (.slice (some ⟨w.heap.size,0,none⟩) 1 1) { w with heap:=w.heap.push (.cells [v].toArray e (0,0)) }:=by
  have h3 : (underlying t).run P w=.ok (.slice e) w:=run_underlying hu w
  obtain ⟨i,h4,h5,_⟩:=hi.get
  simp [Instr.buildSlice,Sem.run_bind,h3,bF hi.sz,zeroValue,typeInfo,h4,h5,Instr.fill,hv,newRow,newObj,Sem.run,zK]
theorem JL.lU (hu : P.underlying t=some (.slice e)) (hi : EI P e z 1 by') (hd : Nat.blt d n=true)
    (k : ∀ b,w0.heap.size≤b→JL P n w0 S ops Q l ((d,.slice (some ⟨b,0,none⟩) 0 0)::E) (⟨b,Row e [],true⟩::M)) : JL P n w0 S ops Q (⟨some d,.buildSlice t 0 #[],ty,pos,aft,none⟩::l) E M:=
  ⟨fun a w ha hw=>wpList_plain rfl fun K hK=>by
    unfold Oper.wp
    have hm : (#[] : Array (Nat × Operand)).map (fun (i,x)=>(i,a.eval x))=#[]:=by simp
    simp only [execOp,hm,Sem.run_bind,qK hu hi,Result.andThen_ok]
    exact hK _ _ ((k w.heap.size hw.aS.size).go _ _ (ha.put d _ hd) (hw.push _ rfl rfl rfl rfl rfl))⟩
theorem JL.lV (hu : P.underlying t=some (.slice e)) (hi : EI P e z 1 by') (hz : z.cells.size=1) (hx : ev E x=some v) (hv : v.cells=#[v]) (hd : Nat.blt d n=true)
    (k : ∀ b,w0.heap.size≤b→JL P n w0 S ops Q l ((d,.slice (some ⟨b,0,none⟩) 1 1)::E) (⟨b,Row e [v],true⟩::M)) : JL P n w0 S ops Q (⟨some d,.buildSlice t 1 #[(0,x)],ty,pos,aft,none⟩::l) E M:=
  ⟨fun a w ha hw=>wpList_plain rfl fun K hK=>by
    unfold Oper.wp
    have hm : (#[(0,x)] : Array (Nat × Operand)).map (fun (i,x)=>(i,a.eval x))=#[(0,v)]:=by simp [ha.eval hx]
    simp only [execOp,hm,Sem.run_bind,qL hu hi hz hv,Result.andThen_ok]
    exact hK _ _ ((k w.heap.size hw.aS.size).go _ _ (ha.put d _ hd) (hw.push _ rfl rfl rfl rfl rfl))⟩
theorem JL.weak {E' : Env} (h : JL P n w0 S ops Q l E' M') (hE : af E E') (hM : aq M' M) : JL P n w0 S ops Q l E M:=⟨fun a w ha hw=>h.go a w (ha.sub hE) (hw.weak hM)⟩
variable {C : World→Prop} {dst : Option Tmp} {g : Option (Nat × Bool)} {y : Operand} {t' : TypeId}
theorem OQ.tI {a b : Int} (hx : ev E x=some (.int .i64 a)) (hy : ev E y=some (.int .i64 b)) (h1 : -9223372036854775808≤a - b) (h2 : a - b<9223372036854775808) : OQ P n E C ⟨dst,.binOp .sub t x y t',ty,pos,aft,g⟩ (.int .i64 (a - b)):=
  OQ.bin hx hy rfl fun _=>oO (k:=.i64) (show IntKind.i64.wrap (a - b)=a - b from sj h1 h2)
end
end Sl
end
section
namespace Sl
open Extern.Stop (cell)
section
variable {P : Program} {n : Nat} {w0 : World} {S : List Nat} {ops : Array Oper} {Q : Exit→Act→World→Prop} {l : List Oper} {E : Env} {M M' : List aN} {C : World→Prop}
variable {dst : Option Tmp} {d b j : Nat} {op : Op} {t t' ty e : TypeId} {pos : String} {aft : Array Edge} {g : Option (Nat × Bool)} {v u : Value} {x y z : Operand} {want : Bool}
theorem kQ {o : Oper} {j : Nat} {want b : Bool} (ho : o.guard=some (j,want)) (h : fj ops E j=some b) (hf : dG ops n j=true) {a : Act} (ha : bf n E a) : Region.wanted o (yielded ops a.tmps)=(b == want):=by
  simp only [Region.wanted,ho,kN h ha (gE hf)]
  cases b <;> cases want <;> rfl
theorem JL.aU {dst : Option Nat} (hg : fj ops E j=some want) (hf : dG ops n j=true) (h : JL P n w0 S ops Q (⟨dst,op,ty,pos,aft,none⟩::l) E M) : JL P n w0 S ops Q (⟨dst,op,ty,pos,aft,some (j,want)⟩::l) E M:=
  ⟨fun a w ha hw=>by
    have h1:=h.go a w ha hw
    unfold wpList at h1 ⊢
    rw [kQ rfl hg hf ha]
    simp only [beq_self_eq_true,if_true]
    rw [show Region.wanted ⟨dst,op,ty,pos,aft,none⟩ (yielded ops a.tmps)=true from rfl,if_pos rfl] at h1
    exact h1⟩
theorem JQ.aU {Φ : Act→Prop} {dst : Option Nat} (hg : fj ops E j=some want) (hf : dG ops n j=true) (h : JQ P n w0 S ops M Φ (⟨dst,op,ty,pos,aft,none⟩::l) E) : JQ P n w0 S ops M Φ (⟨dst,op,ty,pos,aft,some (j,want)⟩::l) E:=
  ⟨fun a ha=>by
    have h1:=h.go a ha
    unfold wpQuiet at h1 ⊢
    rw [kQ rfl hg hf ha]
    simp only [beq_self_eq_true,if_true]
    rw [show Region.wanted ⟨dst,op,ty,pos,aft,none⟩ (yielded ops a.tmps)=true from rfl,if_pos rfl] at h1
    exact h1⟩
theorem OQ.ay (hc : ev E z=some (.bool true)) (hx : ev E x=some v) : OQ P n E C ⟨dst,.pick z x y,ty,pos,aft,g⟩ v:=
  OQ.run fun a ha w _=>by
    have h1:=ha.eval hc
    have h2:=ha.eval hx
    simp [execOp,h1,h2,asBool]
theorem OQ.au (hc : ev E z=some (.bool false)) (hy : ev E y=some v) : OQ P n E C ⟨dst,.pick z x y,ty,pos,aft,g⟩ v:=
  OQ.run fun a ha w _=>by
    have h1:=ha.eval hc
    have h2:=ha.eval hy
    simp [execOp,h1,h2,asBool]
theorem OQ.not {c : Bool} (hx : ev E x=some (.bool c)) : OQ P n E C ⟨dst,.unOp .not t x,ty,pos,aft,g⟩ (.bool (!c)):=
  OQ.run fun a ha w _=>by
    have h1:=ha.eval hx
    simp [execOp,h1,Op.unary]
theorem OQ.dH {k : IntKind} {a b : Int} (hx : ev E x=some (.int k a)) (hy : ev E y=some (.int k b)) (h : a=b) : OQ P n E C ⟨dst,.binOp .eql t x y t',ty,pos,aft,g⟩ (.bool true):=
  (decide_eq_true h : decide (a=b)=true) ▸ OQ.AH hx hy
theorem OQ.cV {k : IntKind} {a b : Int} (hx : ev E x=some (.int k a)) (hy : ev E y=some (.int k b)) (h : ¬ a=b) : OQ P n E C ⟨dst,.binOp .eql t x y t',ty,pos,aft,g⟩ (.bool false):=
  (decide_eq_false h : decide (a=b)=false) ▸ OQ.AH hx hy
theorem OQ.oP {k : IntKind} {a b : Int} (hx : ev E x=some (.int k a)) (hy : ev E y=some (.int k b)) (h : a=b) : OQ P n E C ⟨dst,.binOp .neq t x y t',ty,pos,aft,g⟩ (.bool false):=by
  have:=OQ.AI (P:=P) (n:=n) (C:=C) (dst:=dst) (ty:=ty) (t:=t) (t':=t') (pos:=pos) (aft:=aft) (g:=g) hx hy
  rwa [decide_eq_true h] at this
theorem OQ.dA {a b : Nat} (hx : ev E x=some (N a)) (hy : ev E y=some (N b)) (h : b<a) : OQ P n E C ⟨dst,.binOp .gtr t x y t',ty,pos,aft,g⟩ (.bool true):=
  (decide_eq_true h : decide (b<a)=true) ▸ OQ.nt hx hy
theorem OQ.js {a b : Nat} (hx : ev E x=some (N a)) (hy : ev E y=some (N b)) (h : ¬ b<a) : OQ P n E C ⟨dst,.binOp .gtr t x y t',ty,pos,aft,g⟩ (.bool false):=
  (decide_eq_false h : decide (b<a)=false) ▸ OQ.nt hx hy
theorem OQ.nu {a b : Nat} (hx : ev E x=some (N a)) (hy : ev E y=some (N b)) (h : a<b) : OQ P n E C ⟨dst,.binOp .lss t x y t',ty,pos,aft,g⟩ (.bool true):=
  (decide_eq_true h : decide (a<b)=true) ▸ OQ.dz hx hy
theorem OQ.kR {a b : Nat} (hx : ev E x=some (N a)) (hy : ev E y=some (N b)) (h : ¬ a<b) : OQ P n E C ⟨dst,.binOp .lss t x y t',ty,pos,aft,g⟩ (.bool false):=
  (decide_eq_false h : decide (a<b)=false) ▸ OQ.dz hx hy
theorem ya (r q : List (BitVec 8)) : (r.map UInt8.ofBitVec == q.map UInt8.ofBitVec)=decide (r=q):=by
  rw [Bool.eq_iff_iff]
  simp only [beq_iff_eq,decide_eq_true_eq]
  constructor
  · intro h
    have:=congrArg (List.map UInt8.toBitVec) h
    rw [List.map_map,List.map_map] at this
    have hid : (UInt8.toBitVec ∘ UInt8.ofBitVec)=(id : BitVec 8→BitVec 8):=rfl
    rwa [hid,List.map_id,List.map_id] at this
  · rintro rfl;rfl
def ou (e : TypeId) (r : List Value) : Obj→Prop:=fun o=>∃ fr,o=.cells r.toArray e fr
theorem ou.all {r : List Value} : ∀ o,ou e r o→b6 o 0 r:=by
  rintro o ⟨fr,rfl⟩
  exact ⟨_,_,_,rfl,fun i _=>by simp⟩
theorem JL.mark {r : List Value} {te : TypeId} {len cap : Nat} (hu : P.underlying t=some (.slice e)) (he : P.underlying e=some (.int .u8)) (hx : ev E x=some (.slice (some ⟨b,0,none⟩) len cap)) (hup : nr M b (Row te r) (ou te r) M') (hd : Nat.blt d n=true)
    (k : JL P n w0 S ops Q l ((d,.slice (some ⟨b,0,none⟩) len cap)::E) M') : JL P n w0 S ops Q (⟨some d,.convert t t x,ty,pos,aft,none⟩::l) E M:=
  ⟨fun a w ha hw=>wpList_plain rfl fun K hK=>by
    obtain ⟨o,ho,hA⟩:=hw.get hup.has
    subst hA
    have h1:=ha.eval hx
    have h3 : ∀ w,(underlying t).run P w=.ok (.slice e) w:=run_underlying hu
    have h4 : ∀ w,(underlying e).run P w=.ok (.int .u8) w:=run_underlying he
    have hsh : w.shape? b=some (te,r.length):=by simp [World.shape?,ho]
    have hrun : (convert t t (.slice (some ⟨b,0,none⟩) len cap)).run P w=.ok (.slice (some ⟨b,0,none⟩) len cap) (w.freeze { block:=b,off:=r.length } 1):=by
      simp [convert,Sem.run_bind,h3,h4,markStringish,shape,freeze,Sem.run,hsh]
    unfold Oper.wp
    simp only [execOp,h1,Sem.run_bind,hrun,Result.andThen_ok]
    refine hK _ _ (k.go _ _ (ha.put d _ hd) (hw.write hup (o':=.cells r.toArray te (r.length,r.length+1)) ⟨_,rfl⟩ ?_ (by simp [World.freeze]) (fun q hq=>?_) rfl rfl rfl))
    · simp [World.freeze,Array.getElem?_modify,ho]
    · simp [World.freeze,Array.getElem?_modify,Ne.symm hq]⟩
end
end Sl
end
section
namespace Sl
abbrev X:=Nat × Nat
theorem vG {f : Nat→Value} {E : Env} (h : ∀ p ∈ E,f p.1=p.2) {p : Nat × Value} (hp : p ∈ E) : lk E p.1=some p.2:=by
  induction E with
  | nil=>cases hp
  | cons q E ih=>
    simp only [lk]
    by_cases e : q.1=p.1
    · have h1:=h q (by simp)
      have h2:=h p hp
      rw [e] at h1
      simp [e,← h1,← h2]
    · have : Nat.beq q.1 p.1=false:=Bool.eq_false_iff.2 fun h=>e (Nat.eq_of_beq_eq_true h)
      rw [this]
      refine ih (fun q hq=>h q (by simp [hq])) ?_
      simp only [List.mem_cons] at hp
      rcases hp with rfl | hp
      · exact absurd rfl e
      · exact hp
theorem zL {E : Env} {t : Nat} {v : Value} (h : lk E t=some v) : (t,v) ∈ E:=by
  induction E with
  | nil=>simp [lk] at h
  | cons q E ih=>
    simp only [lk] at h
    by_cases e : q.1=t
    · subst e
      simp at h
      subst h
      simp
    · have : Nat.beq q.1 t=false:=Bool.eq_false_iff.2 fun h=>e (Nat.eq_of_beq_eq_true h)
      rw [this] at h
      simp [ih h]
theorem bf.of {n : Nat} {E : Env} {a : Act} (h1 : a.tmps.size=n) (h2 : a.defers=[]) (h : ∀ p ∈ E,a.tmps.getD p.1 undef=p.2) : bf n E a:=⟨h1,h2,fun _ _ hl=>h _ (zL hl)⟩
theorem bf.mem {n : Nat} {E : Env} {a : Act} {f : Nat→Value} (h : bf n E a) (hf : ∀ p ∈ E,f p.1=p.2) {p : Nat × Value} (hp : p ∈ E) : a.tmps.getD p.1 undef=p.2:=h.all _ _ (vG hf hp)
structure fC (w0 : World) (S : List Nat) (L : Nat→Prop) (f : Nat→List aN) (w : World) : Prop where
  aS : kM S w0 w
  all : ∀ j,L j→∀ e ∈ f j,(∃ o,w.heap[e.b]?=some o∧e.A o)∧(e.wr=true→e.b ∈ S∨w0.heap.size≤e.b)
  nodup : ∀ j,L j→((f j).map aN.b).Nodup
  apart : ∀ j k,j≠k→L j→L k→∀ e ∈ f j,∀ e' ∈ f k,e.b≠e'.b
section
variable {w0 w : World} {S : List Nat} {L : Nat→Prop} {f : Nat→List aN}
theorem fC.to (h : fC w0 S L f w) (Js : List Nat) (hn : Js.Nodup) (hL : ∀ j ∈ Js,L j) : aa w0 S (Js.flatMap f) w:=by
  refine ⟨h.aS,?_,fun e he=>?_⟩
  · induction Js with
    | nil=>simp
    | cons j Js ih=>
      rw [List.flatMap_cons,List.map_append,List.nodup_append]
      refine ⟨h.nodup j (hL j (by simp)),ih (List.nodup_cons.1 hn).2 (fun k hk=>hL k (by simp [hk])),fun b hb b' hb'=>?_⟩
      simp only [List.mem_map,List.mem_flatMap] at hb hb'
      obtain ⟨e,he,rfl⟩:=hb
      obtain ⟨e',⟨k,hk,he'⟩,rfl⟩:=hb'
      have hjk : j≠k:=fun e=>(List.nodup_cons.1 hn).1 (e ▸ hk)
      exact h.apart j k hjk (hL j (by simp)) (hL k (by simp [hk])) e he e' he'
  · obtain ⟨j,hj,he⟩:=List.mem_flatMap.1 he
    exact h.all j (hL j hj) e he
theorem qM {Js : List Nat} (h : ((Js.flatMap f).map aN.b).Nodup) : (∀ j ∈ Js,((f j).map aN.b).Nodup)∧∀ j k,j≠k→j ∈ Js→k ∈ Js→∀ e ∈ f j,∀ e' ∈ f k,e.b≠e'.b:=by
  induction Js with
  | nil=>simp
  | cons i Js ih=>
    rw [List.flatMap_cons,List.map_append,List.nodup_append] at h
    obtain ⟨h1,h2,h3⟩:=h
    obtain ⟨i1,i2⟩:=ih h2
    have h4 : ∀ k ∈ Js,∀ e ∈ f i,∀ e' ∈ f k,e.b≠e'.b:=fun k hk e he e' he'=>
      h3 e.b (List.mem_map.2 ⟨e,he,rfl⟩) e'.b (List.mem_map.2 ⟨e',List.mem_flatMap.2 ⟨k,hk,he'⟩,rfl⟩)
    refine ⟨fun j hj=>?_,fun j k hjk hj hk e he e' he'=>?_⟩
    · simp only [List.mem_cons] at hj
      rcases hj with rfl | hj
      · exact h1
      · exact i1 j hj
    · simp only [List.mem_cons] at hj hk
      rcases hj with rfl | hj
      · rcases hk with rfl | hk
        · exact absurd rfl hjk
        · exact h4 k hk e he e' he'
      · rcases hk with rfl | hk
        · exact (h4 j hj e' he' e he).symm
        · exact i2 j k hjk hj hk e he e' he'
theorem fC.of {Js : List Nat} (h : aa w0 S (Js.flatMap f) w) (hL : ∀ j,L j→j ∈ Js) : fC w0 S L f w:=by
  obtain ⟨h1,h2⟩:=qM h.nodup
  exact ⟨h.aS,fun j hj e he=>h.all e (List.mem_flatMap.2 ⟨j,hL j hj,he⟩),fun j hj=>h1 j (hL j hj),fun j k hjk hj hk=>h2 j k hjk (hL j hj) (hL k hk)⟩
end
theorem oQ {l : List Nat} {p q : Nat→Bool} (h : ∀ j ∈ l,q j=p j) : l.countP q=l.countP p:=by
  induction l with
  | nil=>rfl
  | cons a l ih=>simp only [List.countP_cons,h a (by simp),ih fun j hj=>h j (by simp [hj])]
theorem kS {l : List Nat} {p q : Nat→Bool} {i : Nat} (hn : l.Nodup) (hi : i ∈ l) (h1 : p i=true) (h2 : q i=false) (h3 : ∀ j,j≠i→q j=p j) : l.countP q+1=l.countP p:=by
  induction l with
  | nil=>cases hi
  | cons a l ih=>
    simp only [List.countP_cons]
    by_cases e : a=i
    · subst e
      have:=oQ (l:=l) (p:=p) (q:=q) fun j hj=>h3 j fun e=>(List.nodup_cons.1 hn).1 (e ▸ hj)
      simp [h1,h2,this]
    · have hi' : i ∈ l:=by
        simp only [List.mem_cons] at hi
        rcases hi with rfl | hi
        · exact absurd rfl e
        · exact hi
      have:=ih (List.nodup_cons.1 hn).2 hi'
      rw [h3 a e]
      omega
variable {Y : Type}
structure bK (Y : Type) where
  E0 : Env
  N : Nat
  v : Nat→Y→Value
  M : Nat→Y→List aN
  need : Nat→List (Nat × Nat)
  iP : Nat→List Nat
  nv : Nat→List Nat
  src : Nat→Option Nat
  E1 : Nat→Env
def behind (o : Oper) (j : Nat) : Bool:=o.after.toList.any fun e=>e.on == j && Region.binds .any e
def c6 (l : List Oper) (j : Nat) : Option Nat:=match l[j]? with | some q=>q.dst | none=>none
def cr (l : List Oper) (j i : Nat) : Bool:=match l[j]? with | some q=>behind q i | none=>false
def iQ : List Nat→Bool
  | []=>true
  | a::l=>!l.contains a && iQ l
theorem fV {l : List Nat} (h : iQ l=true) : l.Nodup:=by
  induction l with
  | nil=>simp
  | cons a l ih=>
    simp only [iQ,Bool.and_eq_true,Bool.not_eq_true',List.contains_eq_mem,decide_eq_false_iff_not] at h
    exact List.nodup_cons.2 ⟨h.1,ih h.2⟩
def jt (l : List Oper) (E0 : Env) (i : Nat) : Option Nat→Bool
  | some d=>(List.range l.length).all (fun k=>k == i || c6 l k != some d) && E0.all fun p=>p.1 != d
  | none=>true
def zb (o : Oper) : Option Nat→Bool
  | some k=>behind o k
  | none=>true
def bK.zM (g : bK Y) (l : List Oper) (i : Nat) : Bool:=
  (g.E1 i).all fun p=>(List.range l.length).all fun k=>c6 l k != some p.1 || (k != i && cr l k i)
def bK.ju (g : bK Y) (l : List Oper) (i : Nat) (o : Oper) : Bool:=
  (((g.need i).all (fun p=>behind o p.1 && c6 l p.1 == some p.2) && zb o (g.src i)) && g.zM l i) &&
  ((g.iP i).all (fun j=>decide (j<g.N) && (decide (l.length≤j) || behind o j)) &&
  ((g.nv i).all (fun j=>(g.iP i).contains j) &&
  ((List.range l.length).all (fun k=>k == i || (g.nv k).all fun j=>!(g.iP i).contains j || cr l k i) &&
  (iQ (g.iP i) && (o.after.toList.all (fun e=>!Region.binds .any e || decide (e.on<i)) && jt l g.E0 i o.dst)))))
def bK.eg (g : bK Y) (l : List Oper) : Nat→List Oper→Bool
  | _,[]=>true
  | i,o::r=>g.ju l i o && g.eg l (i+1) r
theorem bK.cz {g : bK Y} {l : List Oper} : ∀ {r : List Oper} {i : Nat},g.eg l i r=true→∀ {j o},r[j]?=some o→g.ju l (i+j) o=true
  | [],_,_,j,o,h=>by simp at h
  | q::r,i,hk,j,o,h=>by
    simp only [bK.eg,Bool.and_eq_true] at hk
    cases j with
    | zero=>
      simp only [List.getElem?_cons_zero,Option.some.injEq] at h
      subst h
      exact hk.1
    | succ j=>
      have:=bK.cz hk.2 (j:=j) (o:=o) (by simpa using h)
      rwa [show i+1+j=i+(j+1) by omega] at this
def slot (d : Option Nat) (v : Value) : Env:=match d with | some d=>[(d,v)] | none=>[]
def bK.AL (g : bK Y) (P : Program) (n : Nat) (w0 : World) (S : List Nat) (l : List Oper) (i : Nat) (o : Oper) : Prop:=
  ∀ (x : Nat→Y) (EF : Env) (MF : List aN) (Q : Exit→Act→World→Prop),
    (∀ xi : Y,(∀ k,g.src i=some k→xi=x k)→JE n w0 S Q .normal (slot o.dst (g.v i xi)++((g.need i).map (fun p=>(p.2,g.v p.1 (x p.1)))++(g.E0++(g.E1 i++EF)))) (g.M i xi++(((g.iP i).filter fun j=>!(g.nv i).contains j).flatMap (fun j=>g.M j (x j))++MF)))→
    JL P n w0 S l.toArray Q [o] ((g.need i).map (fun p=>(p.2,g.v p.1 (x p.1)))++(g.E0++(g.E1 i++EF))) ((g.iP i).flatMap (fun j=>g.M j (x j))++MF)
def bK.kT (g : bK Y) (P : Program) (n : Nat) (w0 : World) (S : List Nat) (l : List Oper) : Nat→List Oper→Prop
  | _,[]=>True
  | i,o::r=>g.AL P n w0 S l i o∧g.kT P n w0 S l (i+1) r
theorem bK.iR {g : bK Y} {P : Program} {n : Nat} {w0 : World} {S : List Nat} {l : List Oper} : ∀ {r : List Oper} {i : Nat},g.kT P n w0 S l i r→∀ {j o},r[j]?=some o→g.AL P n w0 S l (i+j) o
  | [],_,_,j,o,h=>by simp at h
  | q::r,i,hk,j,o,h=>by
    cases j with
    | zero=>
      simp only [List.getElem?_cons_zero,Option.some.injEq] at h
      subst h
      exact hk.1
    | succ j=>
      have:=bK.iR hk.2 (j:=j) (o:=o) (by simpa using h)
      rwa [show i+1+j=i+(j+1) by omega] at this
def bK.live (g : bK Y) (m : Nat) (done : Array Bool) (j : Nat) : Prop:=j<g.N∧(m≤j∨done.getD j false=true)∧∀ k,done.getD k false=true→j ∉ g.nv k
structure bK.Inv (g : bK Y) (n : Nat) (w0 : World) (S : List Nat) (l : List Oper) (done : Array Bool) (x : Nat→Y) (a : Act) (w : World) : Prop where
  size : a.tmps.size=n
  defers : a.defers=[]
  kU : done.size=l.length
  base : ∀ p ∈ g.E0,a.tmps.getD p.1 undef=p.2
  first : ∀ j,j<l.length→done.getD j false=false→∀ p ∈ g.E1 j,a.tmps.getD p.1 undef=p.2
  vals : ∀ j d,done.getD j false=true→c6 l j=some d→a.tmps.getD d undef=g.v j (x j)
  rel : ∀ j k,done.getD j false=true→g.src j=some k→x j=x k
  down : ∀ j i,done.getD j false=true→cr l j i=true→done.getD i false=true
  mem : fC w0 S (g.live l.length done) (fun j=>g.M j (x j)) w
section
variable {P : Program} {n : Nat} {w0 : World} {S : List Nat} {Q : Exit→Act→World→Prop} {E : Env} {M : List aN} {g : bK Y} {l : List Oper}
theorem oR {done : Array Bool} {i j : Nat} (hi : i<done.size) : (done.setIfInBounds i true).getD j false=(decide (j=i) || done.getD j false):=by
  by_cases e : j=i
  · subst e
    simp [hi]
  · simp [e,Ne.symm e]
theorem bK.run (hok : g.eg l 0 l=true) (hj : g.kT P n w0 S l 0 l)
    (hend : ∀ done x a w,g.Inv n w0 S l done x a w→(∀ j,j<l.length→done.getD j false=true)→Q .normal a w) :
    ∀ (f : Nat) (done : Array Bool) (x : Nat→Y) (a : Act) (w : World),f=(List.range l.length).countP (fun j=>!done.getD j false)→g.Inv n w0 S l done x a w→wpAny P .any l.toArray Q f done a w:=by
  have hrdy : ∀ done : Array Bool,done.size=l.length→Region.ready .any l.toArray done=[]→∀ j,j<l.length→done.getD j false=true:=by
    intro done hds hr j
    induction j using Nat.strongRecOn with
    | _ j ih=>
      intro hjl
      cases hd : done.getD j false with
      | true=>rfl
      | false=>
        obtain ⟨o,ho⟩ : ∃ o,l[j]?=some o:=⟨_,List.getElem?_eq_getElem hjl⟩
        have hk:=bK.cz hok ho
        simp only [bK.ju,Bool.and_eq_true,Nat.zero_add] at hk
        have hkk:=hk.2.2.2.2.2.1
        have : j ∈ Region.ready .any l.toArray done:=by
          rw [mem_ready]
          refine ⟨?_,o,by simpa using ho,fun e he hb=>?_⟩
          · rw [Array.getD_eq_getD_getElem?,Array.getElem?_eq_getElem (by omega)] at hd ⊢
            simpa using hd
          · have:=List.all_eq_true.1 hkk e (by simpa using he)
            simp only [hb,Bool.not_true,Bool.false_or,decide_eq_true_eq] at this
            exact ih e.on this (by omega)
        rw [hr] at this
        cases this
  intro f
  induction f with
  | zero=>
    intro done x a w hf hI
    have hall : ∀ j,j<l.length→done.getD j false=true:=fun j hjl=>by
      have:=List.countP_eq_zero.1 hf.symm j (List.mem_range.2 hjl)
      simpa using this
    refine ⟨?_,hend done x a w hI hall⟩
    refine List.eq_nil_iff_forall_not_mem.2 fun i hi=>?_
    obtain ⟨hu,o,ho,_⟩:=mem_ready.1 hi
    have hil : i<l.length:=by
      have:=(Array.getElem?_eq_some_iff.1 ho).1
      simpa using this
    have:=hall i hil
    rw [Array.getD_eq_getD_getElem?,Array.getElem?_eq_getElem (by have:=hI.kU;omega)] at hu this
    simp only [Option.getD_some] at hu this
    rw [hu] at this
    cases this
  | succ f ih=>
    intro done x a w hf hI
    have hds:=hI.kU
    refine ⟨fun h0=>hend done x a w hI (hrdy done hds h0),fun i hi=>?_⟩
    obtain ⟨hu,o,ho,hbe⟩:=mem_ready.1 hi
    have hil : i<l.length:=by
      have:=(Array.getElem?_eq_some_iff.1 ho).1
      simpa using this
    have ho' : l[i]?=some o:=by simpa using ho
    have hu' : done.getD i false=false:=by
      rw [Array.getD_eq_getD_getElem?,Array.getElem?_eq_getElem (by omega)] at hu ⊢
      simpa using hu
    have hk:=bK.cz hok ho'
    simp only [bK.ju,Bool.and_eq_true,Nat.zero_add] at hk
    obtain ⟨⟨⟨k1,k8⟩,k9⟩,k2,k3,k4,k5,_,k7⟩:=hk
    have hbeh : ∀ j,behind o j=true→done.getD j false=true:=fun j hj=>by
      simp only [behind,List.any_eq_true,Bool.and_eq_true,beq_iff_eq] at hj
      obtain ⟨e,he,rfl,hb⟩:=hj
      exact hbe e (by simpa using he) hb
    have hbi : ∀ k,cr l k i=true→done.getD k false=false:=fun k hk=>by
      cases h : done.getD k false with
      | false=>rfl
      | true=>have:=hI.down k i h hk;rw [hu'] at this;cases this
    have hinp : ∀ j ∈ g.iP i,g.live l.length done j:=by
      intro j hj
      have h2:=List.all_eq_true.1 k2 j hj
      simp only [Bool.and_eq_true,Bool.or_eq_true,decide_eq_true_eq] at h2
      refine ⟨h2.1,h2.2.imp id (hbeh j),fun k hkd hjk=>?_⟩
      have hkl : k<l.length:=by
        by_cases h : k<l.length
        · exact h
        · rw [Array.getD_eq_getD_getElem?,Array.getElem?_eq_none (by omega)] at hkd
          cases hkd
      have h4:=List.all_eq_true.1 k4 k (List.mem_range.2 hkl)
      have hki : k≠i:=fun e=>by rw [e,hu'] at hkd;cases hkd
      simp only [Bool.or_eq_true,beq_iff_eq,hki,false_or] at h4
      have h5:=List.all_eq_true.1 h4 j hjk
      simp only [Bool.or_eq_true,Bool.not_eq_true',List.contains_eq_mem,decide_eq_false_iff_not,hj,not_true,false_or] at h5
      rw [hbi k h5] at hkd
      cases hkd
    have hdone_ne : ∀ j,done.getD j false=true→j≠i:=fun j hj e=>by rw [e,hu'] at hj;cases hj
    have hlen : ∀ k,done.getD k false=true→k<l.length:=fun k hkd=>by
      by_cases h : k<l.length
      · exact h
      · rw [Array.getD_eq_getD_getElem?,Array.getElem?_eq_none (by omega)] at hkd
        cases hkd
    have hdi : c6 l i=o.dst:=by simp [c6,ho']
    have hne : ∀ j d,done.getD j false=true→c6 l j=some d→o.dst≠some d:=by
      intro j d hjd hd he
      rw [he] at k7
      simp only [jt,Bool.and_eq_true] at k7
      have:=List.all_eq_true.1 k7.1 j (List.mem_range.2 (hlen j hjd))
      simp [hdone_ne j hjd,hd] at this
    have hne0 : ∀ p ∈ g.E0,o.dst≠some p.1:=by
      intro p hp he
      rw [he] at k7
      simp only [jt,Bool.and_eq_true] at k7
      have:=List.all_eq_true.1 k7.2 p hp
      simp at this
    let rest : List Nat:=(List.range g.N).filter fun j=>@decide (g.live l.length done j) (Classical.propDecidable _) && !(g.iP i).contains j
    have hrest : ∀ j,j ∈ rest↔g.live l.length done j∧j ∉ g.iP i:=by
      intro j
      simp only [rest,List.mem_filter,List.mem_range,Bool.and_eq_true,Bool.not_eq_true',List.contains_eq_mem,decide_eq_false_iff_not]
      refine ⟨fun ⟨_,h2,h3⟩=>⟨@of_decide_eq_true _ (Classical.propDecidable _) h2,h3⟩,fun ⟨h2,h3⟩=>⟨h2.1,@decide_eq_true _ (Classical.propDecidable _) h2,h3⟩⟩
    have hnd : (g.iP i++rest).Nodup:=by
      rw [List.nodup_append]
      refine ⟨fV k5,List.nodup_range.filter _,fun a ha b hb e=>?_⟩
      exact ((hrest b).1 hb).2 (e ▸ ha)
    have H1:=hI.mem.to (g.iP i++rest) hnd (fun j hj=>by
      rcases List.mem_append.1 hj with h | h
      · exact hinp j h
      · exact ((hrest j).1 h).1)
    rw [List.flatMap_append] at H1
    let EF0 : Env:=(List.range l.length).filterMap fun j=>if done.getD j false=true then (c6 l j).map (fun d=>(d,g.v j (x j))) else none
    let EF1 : Env:=(List.range l.length).flatMap fun j=>if done.getD j false=true then [] else g.E1 j
    let EF : Env:=EF0++EF1
    have hEF : ∀ p,p ∈ EF0↔∃ j d,done.getD j false=true∧c6 l j=some d∧p=(d,g.v j (x j)):=by
      intro p
      simp only [EF0,List.mem_filterMap,List.mem_range]
      constructor
      · rintro ⟨j,_,hp⟩
        split at hp
        · rename_i hjd
          obtain ⟨d,hd,rfl⟩:=Option.map_eq_some_iff.1 hp
          exact ⟨j,d,hjd,hd,rfl⟩
        · cases hp
      · rintro ⟨j,d,hjd,hd,rfl⟩
        exact ⟨j,hlen j hjd,by rw [if_pos hjd,hd];rfl⟩
    have hEF1 : ∀ j,j<l.length→done.getD j false=false→∀ p ∈ g.E1 j,p ∈ EF1:=by
      intro j hjl hjd p hp
      simp only [EF1,List.mem_flatMap,List.mem_range]
      exact ⟨j,hjl,by rw [if_neg (by rw [hjd];decide)];exact hp⟩
    have hne1 : ∀ j,j<l.length→done.getD j false=false→∀ p ∈ g.E1 j,o.dst≠some p.1:=by
      intro j hjl hjd p hp he
      have hjo : l[j]?=some (l[j]'hjl):=List.getElem?_eq_getElem hjl
      have hkj:=bK.cz hok hjo
      simp only [bK.ju,Bool.and_eq_true,Nat.zero_add] at hkj
      have h9:=List.all_eq_true.1 hkj.1.2 p hp
      have h10:=List.all_eq_true.1 h9 i (List.mem_range.2 hil)
      simp only [hdi,he,bne_self_eq_false,Bool.false_or,Bool.and_eq_true] at h10
      have h11 : behind o j=true:=by simpa [cr,ho'] using h10.2
      rw [hbeh j h11] at hjd
      cases hjd
    have hneed : ∀ p ∈ g.need i,done.getD p.1 false=true∧c6 l p.1=some p.2:=by
      intro p hp
      have h1:=List.all_eq_true.1 k1 p hp
      simp only [Bool.and_eq_true,beq_iff_eq] at h1
      exact ⟨hbeh _ h1.1,h1.2⟩
    have hK : ∀ p ∈ ((g.need i).map (fun p=>(p.2,g.v p.1 (x p.1)))++(g.E0++(g.E1 i++EF))),a.tmps.getD p.1 undef=p.2∧o.dst≠some p.1:=by
      intro p hp
      rcases List.mem_append.1 hp with h | h
      · obtain ⟨q,hq,rfl⟩:=List.mem_map.1 h
        obtain ⟨h1,h2⟩:=hneed q hq
        exact ⟨hI.vals _ _ h1 h2,hne _ _ h1 h2⟩
      · rcases List.mem_append.1 h with h | h
        · exact ⟨hI.base p h,hne0 p h⟩
        · rcases List.mem_append.1 h with h | h
          · exact ⟨hI.first i hil hu' p h,hne1 i hil hu' p h⟩
          · rcases List.mem_append.1 h with h | h
            · obtain ⟨j,d,h1,h2,rfl⟩:=(hEF p).1 h
              exact ⟨hI.vals _ _ h1 h2,hne _ _ h1 h2⟩
            · simp only [EF1,List.mem_flatMap,List.mem_range] at h
              obtain ⟨j,hjl,h⟩:=h
              cases hjd : done.getD j false with
              | true=>rw [hjd] at h;simp at h
              | false=>
                rw [hjd] at h
                simp only [Bool.false_eq_true,if_false] at h
                exact ⟨hI.first j hjl hjd p h,hne1 j hjl hjd p h⟩
    have job:=bK.iR hj ho'
    rw [Nat.zero_add] at job
    refine fU ho ((job x EF (rest.flatMap fun j=>g.M j (x j)) _ fun xi hxi=>⟨fun a' w' hK' hH'=>?_⟩).go a w (bf.of hI.size hI.defers fun p hp=>(hK p hp).1) H1)
    have hd' : ∀ j,(done.setIfInBounds i true).getD j false=(decide (j=i) || done.getD j false):=fun j=>oR (by omega)
    refine ih _ (fun j=>if j=i then xi else x j) a' w' ?_ ?_
    · have:=kS (l:=List.range l.length) (p:=fun j=>!done.getD j false) (q:=fun j=>!(done.setIfInBounds i true).getD j false) (i:=i) List.nodup_range (List.mem_range.2 hil) (by simp only [hu'];rfl) (by simp only [hd'];simp) (fun j hj=>by simp only [hd'];simp [hj])
      omega
    · have hmem : ∀ p ∈ (slot o.dst (g.v i xi)++((g.need i).map (fun p=>(p.2,g.v p.1 (x p.1)))++(g.E0++(g.E1 i++EF)))),a'.tmps.getD p.1 undef=p.2:=by
        intro p hp
        refine hK'.mem (f:=fun t=>if o.dst=some t then g.v i xi else a.tmps.getD t undef) (fun q hq=>?_) hp
        rcases List.mem_append.1 hq with h | h
        · cases hod : o.dst with
          | none=>rw [hod] at h;cases h
          | some d=>
            rw [hod] at h
            simp only [slot,List.mem_singleton] at h
            subst h
            simp
        · have:=hK q h
          simp only [this.2,if_false]
          exact this.1
      refine ⟨hK'.size,hK'.defers,by simp [hds],fun p hp=>hmem p (by simp [hp]),fun j hjl hjd p hp=>?_,?_,?_,?_,?_⟩
      · rw [hd'] at hjd
        simp only [Bool.or_eq_false_iff] at hjd
        exact hmem p (List.mem_append_right _ (List.mem_append_right _ (List.mem_append_right _ (List.mem_append_right _ (List.mem_append_right _ (hEF1 j hjl hjd.2 p hp))))))
      · intro j d hjd hd
        by_cases e : j=i
        · subst e
          rw [hdi] at hd
          have:=hmem (d,g.v j xi) (by simp [hd,slot])
          simpa using this
        · rw [hd'] at hjd
          simp only [e,decide_false,Bool.false_or] at hjd
          have:=hmem (d,g.v j (x j)) (List.mem_append_right _ (List.mem_append_right _ (List.mem_append_right _ (List.mem_append_right _ (List.mem_append_left _ ((hEF _).2 ⟨j,d,hjd,hd,rfl⟩))))))
          simpa [e] using this
      · intro j k hjd hs
        rw [hd'] at hjd
        by_cases e : j=i
        · subst e
          rw [hs] at k8
          simp only [if_true,hdone_ne k (hbeh k k8),if_false]
          exact hxi k hs
        · simp only [e,decide_false,Bool.false_or] at hjd
          have hjo : l[j]?=some (l[j]'(hlen j hjd)):=List.getElem?_eq_getElem (hlen j hjd)
          have hkj:=bK.cz hok hjo
          simp only [bK.ju,Bool.and_eq_true,Nat.zero_add] at hkj
          have h8:=hkj.1.1.2
          rw [hs] at h8
          have hkd:=hI.down j k hjd (by simpa [cr,hjo,zb] using h8)
          simp only [e,hdone_ne k hkd,if_false]
          exact hI.rel j k hjd hs
      · intro j i' hjd hb
        rw [hd'] at hjd ⊢
        by_cases e : j=i
        · subst e
          have : behind o i'=true:=by simpa [cr,ho'] using hb
          simp [hbeh i' this]
        · simp only [e,decide_false,Bool.false_or] at hjd
          simp [hI.down j i' hjd hb]
      · have hnl : ¬ g.live l.length done i:=fun h=>by
          rcases h.2.1 with h | h
          · omega
          · rw [hu'] at h;cases h
        have hcg : ∀ L : List Nat,(∀ j ∈ L,g.live l.length done j)→L.flatMap (fun j=>g.M j (if j=i then xi else x j))=L.flatMap fun j=>g.M j (x j):=by
          intro L
          induction L with
          | nil=>simp
          | cons j L ih=>
            intro h
            have hji : j≠i:=fun e=>hnl (e ▸ h j (by simp))
            simp only [List.flatMap_cons,hji,if_false,ih fun k hk=>h k (by simp [hk])]
        refine fC.of (Js:=i::(((g.iP i).filter fun j=>!(g.nv i).contains j)++rest)) ?_ ?_
        · rw [List.flatMap_cons,List.flatMap_append,hcg _ (fun j hj=>hinp j (List.mem_filter.1 hj).1),hcg rest (fun j hj=>((hrest j).1 hj).1)]
          simpa using hH'
        · intro j hj
          by_cases e : j=i
          · simp [e]
          · have hl : g.live l.length done j:=by
              refine ⟨hj.1,hj.2.1.imp id (fun h=>?_),fun k hk=>hj.2.2 k (by rw [hd'];simp [hk])⟩
              rw [hd'] at h
              simpa [e] using h
            have hne : j ∉ g.nv i:=hj.2.2 i (by rw [hd'];simp)
            by_cases hji : j ∈ g.iP i
            · simp [e,hji,hne]
            · have:=(hrest j).2 ⟨hl,hji⟩
              simp [e,this]
theorem JC.sn [Inhabited Y] (g : bK Y) (outs : List (Nat × Nat)) (ends : List Nat) {id : Nat} (hm : P.follows .mixedOrders=true) (hE : af E g.E0) (hE1 : ∀ i,i<l.length→af E (g.E1 i)) (hM : aq (((List.range g.N).filter fun j=>decide (l.length≤j)).flatMap fun j=>g.M j default) M)
    (hok : g.eg l 0 l=true) (ho : (outs.all fun p=>decide (p.1<l.length) && c6 l p.1 == some p.2)=true)
    (he : (iQ ends && ends.all fun j=>decide (j<g.N) && (List.range l.length).all fun k=>!(g.nv k).contains j)=true)
    (hj : g.kT P n w0 S l 0 l)
    (k : ∀ x : Nat→Y,(∀ j k,j<l.length→g.src j=some k→x j=x k)→JE n w0 S Q .normal (outs.map (fun p=>(p.2,g.v p.1 (x p.1)))++g.E0) (ends.flatMap fun j=>g.M j (x j))) : JC P n w0 S Q (.region id l.toArray true) E M:=
  ⟨fun a w ha hw=>by
    refine wp_region_any hm ?_
    have hw':=(hw.drawn (w.drawn+1)).weak hM
    simp only [Bool.and_eq_true] at he
    refine bK.run hok hj (fun done x a w hI hall=>?_) _ _ (fun _=>default) a _ ?_ ?_
    · refine (k x fun j k hj hs=>hI.rel j k (hall j hj) hs).go a w (bf.of hI.size hI.defers fun p hp=>?_) (hI.mem.to ends (fV he.1) fun j hj=>?_)
      · rcases List.mem_append.1 hp with h | h
        · obtain ⟨q,hq,rfl⟩:=List.mem_map.1 h
          have:=List.all_eq_true.1 ho q hq
          simp only [Bool.and_eq_true,decide_eq_true_eq,beq_iff_eq] at this
          exact hI.vals _ _ (hall _ this.1) this.2
        · exact hI.base p h
      · have:=List.all_eq_true.1 he.2 j hj
        simp only [Bool.and_eq_true,decide_eq_true_eq] at this
        refine ⟨this.1,?_,fun k hk hjk=>?_⟩
        · by_cases h : l.length≤j
          · exact .inl h
          · exact .inr (hall j (by omega))
        · have hkl : k<l.length:=by
            by_cases h : k<l.length
            · exact h
            · have:=hI.kU
              rw [Array.getD_eq_getD_getElem?,Array.getElem?_eq_none (by omega)] at hk
              cases hk
          have:=List.all_eq_true.1 this.2 k (List.mem_range.2 hkl)
          simp [hjk] at this
    · have : ∀ j,(Array.replicate l.toArray.size false).getD j false=false:=fun j=>by
        simp only [Array.getD_eq_getD_getElem?,Array.getElem?_replicate]
        split <;> rfl
      rw [List.countP_eq_length.2 (fun j _=>by simp only [this];rfl)]
      simp
    · have hf : ∀ j,(Array.replicate l.toArray.size false).getD j false=false:=fun j=>by
        simp only [Array.getD_eq_getD_getElem?,Array.getElem?_replicate]
        split <;> rfl
      refine ⟨ha.size,ha.defers,by simp,fun p hp=>ha.all _ _ (hE.all p hp),fun j hj _ p hp=>ha.all _ _ ((hE1 j hj).all p hp),fun j d h=>?_,fun j k h=>?_,fun j i h=>?_,?_⟩
      · rw [hf] at h;cases h
      · rw [hf] at h;cases h
      · rw [hf] at h;cases h
      · refine fC.of hw' fun j hj=>?_
        rw [List.mem_filter]
        refine ⟨List.mem_range.2 hj.1,?_⟩
        rcases hj.2.1 with h | h
        · simpa using h
        · rw [hf] at h;cases h⟩
structure zN (Y : Type) where
  E0 : Env
  N : Nat
  v : Nat→Y→Value
  M : Nat→Y→List aN
  need : Nat→List (Nat × Nat)
  iP : Nat→List Nat
  nv : Nat→List Nat
  src : Nat→Option Nat
def zN.o (g : zN Y) : bK Y:=⟨g.E0,g.N,g.v,g.M,g.need,g.iP,g.nv,g.src,fun _=>[]⟩
theorem JC.grow [Inhabited Y] (g : zN Y) (outs : List (Nat × Nat)) (ends : List Nat) {id : Nat} (hm : P.follows .mixedOrders=true) (hE : af E g.E0) (hM : aq (((List.range g.N).filter fun j=>decide (l.length≤j)).flatMap fun j=>g.M j default) M)
    (hok : g.o.eg l 0 l=true) (ho : (outs.all fun p=>decide (p.1<l.length) && c6 l p.1 == some p.2)=true)
    (he : (iQ ends && ends.all fun j=>decide (j<g.N) && (List.range l.length).all fun k=>!(g.nv k).contains j)=true)
    (hj : g.o.kT P n w0 S l 0 l)
    (k : ∀ x : Nat→Y,(∀ j k,j<l.length→g.src j=some k→x j=x k)→JE n w0 S Q .normal (outs.map (fun p=>(p.2,g.v p.1 (x p.1)))++g.E0) (ends.flatMap fun j=>g.M j (x j))) : JC P n w0 S Q (.region id l.toArray true) E M:=
  JC.sn g.o outs ends hm hE (fun _ _=>.nil) hM hok ho he hj k
end
end Sl
end
section
namespace Sl
section
variable {P : Program} {t tx e : TypeId}
theorem nw (n : Nat) : Builtin.zeroCells #[.int .u8 0] n=(List.replicate n (Value.int .u8 0)).toArray:=by
  apply Array.ext'
  simp only [Builtin.zeroCells,List.size_toArray,List.length_cons,List.length_nil,Array.toList_map,Array.toList_range]
  apply List.ext_getElem?
  intro i
  by_cases h : i<n
  · simp [h,Nat.mod_one]
  · simp [h]
variable {n : Nat} {w0 : World} {S : List Nat} {ops : Array Oper} {Q : Exit→Act→World→Prop} {l : List Oper} {E : Env} {M : List aN} {d b : Nat} {ty : TypeId} {pos : String} {aft : Array Edge} {x y : Operand}
end
end Sl
end
section
set_option maxRecDepth 10000
open Sl
abbrev Bt:=BitVec 8
structure aB where
  ad : Option Addr
  cap : Nat
  l : List Bt
def aB.v (s : aB) : Value:=.slice s.ad s.l.length s.cap
structure aB.ok (w : World) (s : aB) : Prop where
  len : s.l.length≤s.cap
  reads : Reads w s.ad (s.l.map U8)
theorem aB.ok.lt {w : World} {s : aB} (h : s.ok w) (h0 : s.l≠[]) : ∀ a,s.ad=some a→a.block<w.heap.size:=by
  obtain ⟨b,j,h1,h2⟩:=h.reads.at (by simpa using List.length_pos_iff.2 h0)
  intro a ha
  rw [h1] at ha
  cases ha
  exact block_lt_of_cell (h2 0 _ (cw U8 0 (List.length_pos_iff.2 h0)))
theorem aB.ok.holds {w0 w : World} {S : List Nat} {M : List aN} {s : aB} (h : s.ok w0) (hw : aa w0 S M w) (hS : S=[]) : s.ok w:=⟨h.len,hw.reads h.reads (fun _ a _=>by rw [hS];simp)⟩
theorem aB.ok.ext {w w' : World} {s : aB} (h : s.ok w) (hx : Ext w w') : s.ok w':=h.holds (⟨hx,by simp,by simp⟩ : aa w [] [] w') rfl
theorem vH {e : TypeId} {a c b : List Value} {j : Nat} (h : a.length=j) : ∀ o,Row e (a++c++b) o→b6 o j c:=by
  rintro o rfl
  refine ⟨_,_,_,rfl,fun i hi=>?_⟩
  subst h
  simp [List.getElem?_append,hi]
def tJ : aB:=⟨none,0,[]⟩
theorem j8 (w : World) : tJ.ok w:=⟨by simp [tJ],Reads.nil _ _⟩
theorem ew (A M : List aN) : aq A (A++M):=by
  induction A with
  | nil=>exact .nil _
  | cons e A ih=>exact .keep _ _ _ _ _ _ (fun _ h=>h) ih
theorem OQ.BF {P : Program} {n : Nat} {E : Env} {C : World→Prop} {dst : Option Tmp} {t ty : TypeId} {pos : String} {aft : Array Edge} {g : Option (Nat × Bool)} {x : Operand} {s : ByteArray} (hu : P.underlying t=some .string) (hx : ev E x=some (.string s)) : OQ P n E C ⟨dst,.call ⟨.builtin .len,#[x],#[t]⟩,ty,pos,aft,g⟩ (N s.size):=
  OQ.run fun a ha w _=>by
    have h1:=ha.eval hx
    have h3 : (underlying t).run P w=.ok .string w:=run_underlying hu w
    simp [execOp,h1,resolve,invoke,builtin,Builtin.len_,Sem.run_bind,h3,goInt]
theorem vI {o : Obj} {j k t : Nat} {cs : List Value} (h : b6 o j cs) (hk : k+t≤cs.length) : b6 o (j+k) ((cs.drop k).take t):=by
  obtain ⟨c,e,fr,rfl,h⟩:=h
  refine ⟨c,e,fr,rfl,fun i hi=>?_⟩
  have hi : i<t:=by simp at hi;omega
  rw [Nat.add_assoc,h (k+i) (by omega),List.getElem?_take,if_pos hi,List.getElem?_drop]
theorem Sl.aa.swap {w0 w : World} {S : List Nat} {e1 e2 : aN} {M : List aN} (h : aa w0 S (e1::e2::M) w) : aa w0 S (e2::e1::M) w:=by
  refine ⟨h.aS,?_,fun e he=>h.all e ?_⟩
  · have:=h.nodup
    simp only [List.map_cons,List.nodup_cons,List.mem_cons,not_or] at this ⊢
    exact ⟨⟨Ne.symm this.1.1,this.2.1⟩,this.1.2,this.2.2⟩
  · simp only [List.mem_cons] at he ⊢
    rcases he with h | h | h
    · exact .inr (.inl h)
    · exact .inl h
    · exact .inr (.inr h)
theorem JE.swap {n : Nat} {w0 : World} {S : List Nat} {Q : Exit→Act→World→Prop} {e : Exit} {E : Env} {e1 e2 : aN} {M : List aN} (h : JE n w0 S Q e E (e2::e1::M)) : JE n w0 S Q e E (e1::e2::M):=⟨fun a w ha hw=>h.go a w ha hw.swap⟩
theorem JE.less {n : Nat} {w0 : World} {S : List Nat} {Q : Exit→Act→World→Prop} {e : Exit} {E : Env} {M M' : List aN} (hM : aq M' M) (h : JE n w0 S Q e E M') : JE n w0 S Q e E M:=⟨fun a w ha hw=>h.go a w ha (hw.weak hM)⟩
theorem Sl.aG.has {e : TypeId} {k cap m : Nat} {r : List Bt} : ∀ o,Sl.aG e 1 k cap (r.map U8) o→b6 o 0 ((r.take m).map U8)∧k≤cap:=by
  rintro o ⟨sp,rfl,h1,h2,h3⟩
  refine ⟨⟨_,_,_,rfl,fun i hi=>?_⟩,h3⟩
  have hi' : i<m∧i<r.length:=by simp at hi;omega
  simp [List.getElem?_append_left,hi'.1,hi'.2]
def aB.iS (s : aB) : List aN:=match s.ad with
  | some a=>[⟨a.block,fun o=>b6 o a.off (s.l.map U8)∧s.l.length≤s.cap∧a.spot=none,true⟩]
  | none=>[]
theorem aB.ny {s : aB} {w0 w : World} {S : List Nat} {M : List aN} (h : aa w0 S (s.iS++M) w) (h0 : s.ad=none→s.l=[]) : s.ok w:=by
  obtain ⟨ad,cap,l⟩:=s
  cases ad with
  | none=>
    have : l=[]:=h0 rfl
    subst this
    exact ⟨by simp,Reads.nil _ _⟩
  | some a=>
    obtain ⟨o,ho,h1,h2,h3⟩:=h.get (b:=a.block) (A:=fun o=>b6 o a.off (l.map U8)∧l.length≤cap∧a.spot=none) (wr:=true) .here
    obtain ⟨b,j,sp⟩:=a
    simp only at h3
    subst h3
    exact ⟨h2,Reads.block ho h1⟩
structure B9 (s : aB) (l : List Bt) (cap : Nat) : Prop where
  val : s.l=l
  cap : s.cap=cap
  none : s.ad=.none→s.l=[]
section
variable {P : Program} {n : Nat} {w0 w w' : World} {S : List Nat} {ops : Array Oper} {Q : Exit→Act→World→Prop} {l : List Oper} {E : Env} {M Ms : List aN} {d : Nat} {t t' e ty : TypeId} {pos : String} {aft : Array Edge} {x : Operand}
theorem Sl.aa.both (h : aa w0 S M w) (h2 : aa w [] Ms w') (hw : ∀ e ∈ Ms,e.wr=true) : aa w0 S (Ms++M) w':=by
  have hx : Ext w w':=h2.aS
  have h1:=h.ext hx
  have hfr : ∀ e ∈ Ms,w.heap.size≤e.b:=fun e he=>by
    rcases (h2.all e he).2 (hw e he) with h | h
    · cases h
    · exact h
  refine ⟨h1.aS,?_,fun e he=>?_⟩
  · rw [List.map_append,List.nodup_append]
    refine ⟨h2.nodup,h1.nodup,fun a ha b hb e=>?_⟩
    simp only [List.mem_map] at ha hb
    obtain ⟨e1,he1,rfl⟩:=ha
    obtain ⟨e2,he2,rfl⟩:=hb
    have:=hfr e1 he1
    obtain ⟨⟨o,ho,_⟩,_⟩:=h.all e2 he2
    have:=(Array.getElem?_eq_some_iff.1 ho).1
    omega
  · rcases List.mem_append.1 he with he | he
    · refine ⟨(h2.all e he).1,fun _=>.inr (Nat.le_trans h.aS.size (hfr e he))⟩
    · exact h1.all e he
theorem aB.yb (s : aB) : ∀ e ∈ s.iS,e.wr=true:=by
  intro e he
  unfold aB.iS at he
  split at he
  · simp only [List.mem_singleton] at he
    subst he
    rfl
  · cases he
theorem JL.cE {ι : Type} (vf : ι→Value) (Mf : ι→List aN) {f : FuncId} {xs : List Operand} {ats : Array TypeId} {vs : List Value} (hg : aO P f) (hx : fQ E xs=some vs) (hd : Nat.blt d n=true) (hwr : ∀ i,∀ e ∈ Mf i,e.wr=true)
    (hc : ∀ w,aa w0 S M w→Calls P f vs.toArray w fun e w'=>∃ i,e=.returned (vf i)∧aa w [] (Mf i) w')
    (k : ∀ i,JL P n w0 S ops Q l ((d,vf i)::E) (Mf i++M)) : JL P n w0 S ops Q (⟨some d,.call ⟨.value (.func f),xs.toArray,ats⟩,ty,pos,aft,none⟩::l) E M:=
  JL.call (ι:=ι) vf (fun i=>Mf i++M) hg hx hd (fun w hw=>(hc w hw).mono fun _ _ ⟨i,h1,h2⟩=>⟨i,h1,hw.both h2 (hwr i)⟩) k
end
section
variable {P : Program} {n : Nat} {w0 w w' : World} {S : List Nat} {ops : Array Oper} {Q : Exit→Act→World→Prop} {l : List Oper} {E : Env} {M Ms : List aN} {d : Nat} {t t' e ty : TypeId} {pos : String} {aft : Array Edge} {x : Operand}
def bytesOf (s : ByteArray) : List Bt:=s.data.toList.map UInt8.toBitVec
theorem bytesOf_length (s : ByteArray) : (bytesOf s).length=s.size:=by simp [bytesOf]
end
section
variable {P : Program} {n : Nat} {E : Env} {C : World→Prop} {dst : Option Tmp} {t t' ty : TypeId} {pos : String} {aft : Array Edge} {g : Option (Nat × Bool)} {x y : Operand}
theorem OQ.BY {a b : Bt} (hx : ev E x=some (U8 a)) (hy : ev E y=some (U8 b)) : OQ P n E C ⟨dst,.binOp .neq t x y t',ty,pos,aft,g⟩ (.bool (!decide (a=b))):=by
  have:=OQ.AI (P:=P) (n:=n) (C:=C) (dst:=dst) (ty:=ty) (t:=t) (t':=t') (pos:=pos) (aft:=aft) (g:=g) hx hy
  have h : decide ((a.toNat : Int)=b.toNat)=decide (a=b):=decide_eq_decide.2 ⟨fun h=>BitVec.eq_of_toNat_eq (by omega),fun h=>by rw [h]⟩
  rwa [h] at this
end
theorem nA {w0 w : World} {S : List Nat} {M : List aN} {b j cap : Nat} {e : TypeId} {l : List Bt} {wr : Bool} (hw : aa w0 S M w) (hM : Has M b (Row e (l.map U8)) wr) (hj : j=0) (hc : l.length≤cap) : aB.ok w ⟨some ⟨b,j,none⟩,cap,l⟩:=by
  subst hj
  obtain ⟨o,ho,hA⟩:=hw.get hM
  exact ⟨hc,Reads.block ho (Row.all _ hA)⟩
theorem b8 {w0 w : World} {S : List Nat} {M : List aN} {b k cap : Nat} {e : TypeId} {l : List Bt} {wr : Bool} (hw : aa w0 S M w) (hM : Has M b (Sl.aG e 1 k cap (l.map U8)) wr) : aB.ok w ⟨some ⟨b,0,none⟩,cap,l⟩:=by
  obtain ⟨o,ho,hA⟩:=hw.get hM
  have hh:=Sl.aG.cells _ hA
  obtain ⟨sp,rfl,h2,h3,h4⟩:=hA
  simp only [List.length_map,Nat.mul_one] at h3
  exact ⟨by show l.length≤cap;omega,Reads.block ho hh⟩
theorem OQ.to {P : Program} {n : Nat} {E : Env} {C : World→Prop} {o : Oper} {v v' : Value} (h : OQ P n E C o v) (e : v=v') : OQ P n E C o v':=e ▸ h
def aB.fst (s : aB) (m : Nat) : aB:=⟨if s.cap=0 then s.ad else s.ad.map (·.add 0),s.cap,s.l.take m⟩
def aB.snd (s : aB) (m : Nat) : aB:=⟨if s.cap=m then s.ad else s.ad.map (·.add (m * 1)),s.cap - m,s.l.drop m⟩
theorem aB.ok.fst {s : aB} {w : World} (h : s.ok w) (m : Nat) : (s.fst m).ok w:=by
  refine ⟨by show (s.l.take m).length≤s.cap;have:=h.len;rw [List.length_take];omega,?_⟩
  show Reads w _ ((s.l.take m).map U8)
  by_cases h0 : s.l=[]
  · rw [h0];simpa using Reads.nil _ _
  · obtain ⟨b,j,hae,_⟩:=h.reads.at (by simpa using List.length_pos_iff.2 h0)
    have h1:=h.reads.take m
    rw [← List.map_take] at h1
    have h2 : (s.fst m).ad=s.ad:=by
      show (if s.cap=0 then s.ad else s.ad.map (·.add 0))=s.ad
      rw [hae]
      split <;> simp [Addr.add]
    rw [h2]
    exact h1
theorem aB.ok.snd {s : aB} {w : World} (h : s.ok w) (m : Nat) (hm : m≤s.l.length) : (s.snd m).ok w:=by
  refine ⟨by show (s.l.drop m).length≤s.cap - m;have:=h.len;rw [List.length_drop];omega,?_⟩
  have:=h.reads.drop (len:=s.l.length) (cap:=s.cap) (lo:=m) (by simp) h.len hm
  rwa [← List.map_drop] at this
theorem aB.AM (s : aB) (m : Nat) (hm : m≤s.l.length) : .slice (if s.cap=0 then s.ad else s.ad.map (·.add 0)) m s.cap=(s.fst m).v:=by simp [aB.v,aB.fst,Nat.min_eq_left hm]
theorem aB.AN (s : aB) (m : Nat) : .slice (if s.cap=m then s.ad else s.ad.map (·.add (m * 1))) (s.l.length - m) (s.cap - m)=(s.snd m).v:=by simp [aB.v,aB.snd]
theorem dw {e : TypeId} {xs : List Value} {n : Nat} (h : xs.length=n) : ∀ o,Row e xs o→Sl.aG e 1 n n xs o:=by
  rintro o rfl
  exact ⟨[],by simp,by simp [h],by simp [h],Nat.le_refl _⟩
theorem OQ.fst {P : Program} {n : Nat} {E : Env} {C : World→Prop} {dst : Option Tmp} {t ty e : TypeId} {pos : String} {aft : Array Edge} {g : Option (Nat × Bool)} {x y : Operand} {s : aB} {m : Nat} (hu : P.underlying t=some (.slice e)) (hz : gv P e=some 1) (hx : ev E x=some s.v) (hh : ev E y=some (N m)) (h : m≤s.l.length) (hc : s.l.length≤s.cap) :
    OQ P n E C ⟨dst,.slice t x none (some y) none,ty,pos,aft,g⟩ (s.fst m).v:=
  OQ.to (OQ.qJ (ad:=s.ad) (len:=s.l.length) (cap:=s.cap) hu hz hx hh (Nat.le_trans h hc)) (aB.AM s m h)
theorem OQ.snd {P : Program} {n : Nat} {E : Env} {C : World→Prop} {dst : Option Tmp} {t ty e : TypeId} {pos : String} {aft : Array Edge} {g : Option (Nat × Bool)} {x y : Operand} {s : aB} {m : Nat} (hu : P.underlying t=some (.slice e)) (hz : gv P e=some 1) (hx : ev E x=some s.v) (hl : ev E y=some (N m)) (h : m≤s.l.length) :
    OQ P n E C ⟨dst,.slice t x (some y) none none,ty,pos,aft,g⟩ (s.snd m).v:=
  OQ.to (OQ.zI (ad:=s.ad) (len:=s.l.length) (cap:=s.cap) hu hz hx hl h) (aB.AN s m)
theorem JL.so {P : Program} {n : Nat} {w0 : World} {S : List Nat} {ops : Array Oper} {Q : Exit→Act→World→Prop} {E : Env} {M : List aN} {l : List Oper} {d : Tmp} {t ty e : TypeId} {pos : String} {aft : Array Edge} {z : Value} {by' : Nat} (hu : P.underlying t=some (.slice e)) (hi : EI P e z 1 by') (hd : Nat.blt d n=true)
    (k : ∀ b,w0.heap.size≤b→JL P n w0 S ops Q l ((d,.slice (some ⟨b,0,none⟩) 0 0)::E) (⟨b,Sl.aG e 1 0 0 [],true⟩::M)) : JL P n w0 S ops Q (⟨some d,.buildSlice t 0 #[],ty,pos,aft,none⟩::l) E M:=
  JL.lU hu hi hd fun b hb=>⟨fun a w ha hw=>(k b hb).go a w ha (hw.weak (.keep _ _ _ _ _ _ (dw rfl) (aq.refl _)))⟩
structure Az where
  ad : Option Addr
  cap : Nat
  l : List Int
def Az.v (s : Az) : Value:=.slice s.ad s.l.length s.cap
structure Az.ok (w : World) (s : Az) : Prop where
  len : s.l.length≤s.cap
  reads : Reads w s.ad (s.l.map fun i=>.int .i64 i)
theorem Az.ok.holds {w0 w : World} {S : List Nat} {M : List aN} {s : Az} (h : s.ok w0) (hw : aa w0 S M w) (hS : S=[]) : s.ok w:=⟨h.len,hw.reads h.reads (fun _ a _=>by rw [hS];simp)⟩
theorem JL.dQ {P : Program} {n : Nat} {w0 : World} {S : List Nat} {ops : Array Oper} {Q : Exit→Act→World→Prop} {l : List Oper} {E : Env} {M : List aN} {t e ty ty' : TypeId} {x y : Operand} {z v : Value} {by' k cap b d1 d2 : Nat} {pos pos' : String} {aft aft' : Array Edge} {xs : List Value}
    (M' : Nat→Nat→List aN) (hu : P.underlying t=some (.slice e)) (hi : EI P e z 1 by') (hz : z.cells.size=1) (hx : ev E x=some v) (hv : v.cells=#[v]) (h1 : v.oneCell'=true)
    (ha : ∀ bl,ev ((d1,.slice (some ⟨bl,0,none⟩) 1 1)::E) y=some (.slice (some ⟨b,0,none⟩) k cap)) (hup : ∀ b' cap',az M b (Sl.aG e 1 k cap xs) b' (Sl.aG e 1 (k+1) cap' (xs++[v])) (M' b' cap'))
    (hsm : (k+1) * by'≤140737488355328) (hsm2 : k+1<9223372036854775808) (hd1 : Nat.blt d1 n=true) (hd2 : Nat.blt d2 n=true)
    (kk : ∀ bl b' cap',JL P n w0 S ops Q l ((d2,.slice (some ⟨b',0,none⟩) (k+1) cap')::(d1,.slice (some ⟨bl,0,none⟩) 1 1)::E) (M' b' cap')) :
    JL P n w0 S ops Q (⟨some d1,.buildSlice t 1 #[(0,x)],ty,pos,aft,none⟩::⟨some d2,.call ⟨.builtin .append,#[y,.tmp d1],#[t,t]⟩,ty',pos',aft',none⟩::l) E M:=by
  refine JL.lV hu hi hz hx hv hd1 fun bl _=>?_
  refine JL.append (cs:=[v]) (m:=1) (ad:=some ⟨bl,0,none⟩) (sc:=1) (fun b' cap'=>⟨bl,Row e [v],true⟩::M' b' cap') hu hi (ha bl) (by simp [ev,lk]) (fun b' cap'=>.there (hup b' cap')) rfl (fun w hw=>?_) (by simpa using h1) hz (by decide) hsm hsm2 hd2 fun b' cap'=>?_
  · obtain ⟨o,ho,hA⟩:=hw.get (b:=bl) (A:=Row e [v]) (wr:=true) .here
    exact Reads.block ho (Row.all _ hA)
  · exact ⟨fun a w ha hw=>(kk bl b' cap').go a w ha (hw.weak (.drop _ _ _ (aq.refl _)))⟩
end
section
namespace Sl
section
variable {P : Program} {n : Nat} {w0 : World} {S : List Nat} {ops : Array Oper} {Q : Exit→Act→World→Prop} {l : List Oper} {E : Env} {M : List aN} {C : World→Prop}
variable {dst : Option Tmp} {d b : Nat} {t e ty : TypeId} {pos : String} {aft : Array Edge} {g : Option (Nat × Bool)} {v : Value} {x y z : Operand}
theorem OQ.extract {vs : Array Value} {i : Nat} (hx : ev E x=some (.tuple vs)) (hi : vs[i]?=some v) : OQ P n E C ⟨dst,.extract x i,ty,pos,aft,g⟩ v:=
  OQ.run fun a ha w _=>by
    have h1:=ha.eval hx
    simp [execOp,h1,Instr.extract,hi]
theorem sr {k : Nat} (zc : Array Value) (h : zc=(List.replicate k (Value.int .u8 0)).toArray) (h0 : 0<k) (m : Nat) : madeCells zc m=(List.replicate m (Value.int .u8 0)).toArray:=by
  subst h
  apply Array.ext'
  simp only [madeCells,List.size_toArray,List.length_replicate,Array.toList_map,Array.toList_range]
  apply List.ext_getElem?
  intro i
  by_cases h : i<m
  · simp [h,Nat.mod_lt _ h0]
  · simp [h]
theorem JL.make {zv : Value} {sz by' c : Nat} (hu : P.underlying t=some (.slice e)) (hi : EI P e zv sz by') (hz : zv.cells=(List.replicate sz (Value.int .u8 0)).toArray) (h0 : 0<sz) (hx : ev E x=some (N c)) (hy : ev E y=some (N c)) (hb : by' * c≤281474976710656) (hc : c<9223372036854775808) (hd : Nat.blt d n=true)
    (k : ∀ b,w0.heap.size≤b→JL P n w0 S ops Q l ((d,.slice (some ⟨b,0,none⟩) c c)::E) (⟨b,Row e (List.replicate (c * sz) (.int .u8 0)),true⟩::M)) : JL P n w0 S ops Q (⟨some d,.makeSlice t x y,ty,pos,aft,none⟩::l) E M:=
  ⟨fun a w ha hw=>wpList_plain rfl fun K hK=>by
    obtain ⟨i,hi1,hi2,hi3,hi4⟩:=hi.get
    have hbb : (i.bytes : Int) * (c : Int)≤281474976710656:=by
      rw [hi4,← Int.natCast_mul]
      exact Int.ofNat_le.2 hb
    have hrun:=run_make (P:=P) w t e i zv hu hi1 hi2 .i64 .i64 c c (by omega) (Int.le_refl _) hbb (by omega)
    simp only [Int.toNat_natCast,hi3] at hrun
    rw [sr _ hz h0] at hrun
    unfold Oper.wp
    simp only [execOp,ha.eval hx,ha.eval hy,Sem.run_bind,hrun,Result.andThen_ok]
    exact hK _ _ ((k w.heap.size hw.aS.size).go _ _ (ha.put d _ hd) (hw.push (.cells (List.replicate (c * sz) (Value.int .u8 0)).toArray e (0,0)) rfl rfl rfl rfl rfl))⟩
end
end Sl
end
section
namespace Sl
section
variable {P : Program} {n : Nat} {w0 : World} {S : List Nat} {ops : Array Oper} {Q : Exit→Act→World→Prop} {l : List Oper} {E : Env} {M : List aN}
variable {d : Nat} {t e ty : TypeId} {pos : String} {aft : Array Edge} {v z : Value} {x : Operand} {sz by' : Nat} {cs : List Value}
theorem qN {w : World} (hu : P.underlying t=some (.slice e)) (hi : EI P e z sz by') (_hz : z.cells.size=sz) (h0 : 0<sz) (hsm : sz≤16777216) (hl : cs.length=sz) :
    (Instr.buildSlice t 1 #[(0,.agg cs.toArray)]).run P w=.ok (.slice (some ⟨w.heap.size,0,none⟩) 1 1) { w with heap:=w.heap.push (.cells cs.toArray e (0,0)) }:=by
  have h3 : (underlying t).run P w=.ok (.slice e) w:=run_underlying hu w
  obtain ⟨i,h4,h5,_⟩:=hi.get
  obtain ⟨r,h6,h7,h8⟩:=Great.fill_dense h0 [.agg cs.toArray] 0 ((Array.range (1 * sz)).map (z.cells[· % z.cells.size]!)) (by simp [Value.cells,hl]) (by simp)
  have hr : r=cs.toArray:=by
    apply Array.ext_getElem?
    intro k
    rw [h8 k]
    by_cases hk : k<sz
    · rw [if_pos (by simp;omega)]
      simp [Nat.div_eq_of_lt hk,Nat.mod_eq_of_lt hk,Value.cells]
    · rw [if_neg (by simp;omega),Array.getElem?_eq_none (by simp;omega),Array.getElem?_eq_none (by simp;omega)]
  subst hr
  have h9 : ¬ (16777216<1 * sz):=by omega
  have h10 : ¬ (1 * sz=0):=by omega
  simp only [List.zipIdx_cons,List.zipIdx_nil,List.map_cons,List.map_nil] at h6
  have h11 : (zeroValue e).run P w=.ok z w:=by simp [zeroValue,typeInfo,h4,h5]
  have h12 : ¬ (16777216<sz):=by omega
  have h13 : ¬ (sz=0):=by omega
  rw [Nat.one_mul] at h6
  simp [Instr.buildSlice,Sem.run_bind,h3,bF hi.sz,h11,h12,h13,h6,newRow,newObj,Sem.run]
theorem JL.zO (hu : P.underlying t=some (.slice e)) (hi : EI P e z sz by') (hz : z.cells.size=sz) (h0 : 0<sz) (hsm : sz≤16777216) (hx : ev E x=some (.agg cs.toArray)) (hl : cs.length=sz) (hd : Nat.blt d n=true)
    (k : ∀ b,w0.heap.size≤b→JL P n w0 S ops Q l ((d,.slice (some ⟨b,0,none⟩) 1 1)::E) (⟨b,Row e cs,true⟩::M)) : JL P n w0 S ops Q (⟨some d,.buildSlice t 1 #[(0,x)],ty,pos,aft,none⟩::l) E M:=
  ⟨fun a w ha hw=>wpList_plain rfl fun K hK=>by
    unfold Oper.wp
    have hm : (#[(0,x)] : Array (Nat × Operand)).map (fun (i,x)=>(i,a.eval x))=#[(0,.agg cs.toArray)]:=by simp [ha.eval hx]
    simp only [execOp,hm,Sem.run_bind,qN hu hi hz h0 hsm hl,Result.andThen_ok]
    exact hK _ _ ((k w.heap.size hw.aS.size).go _ _ (ha.put d _ hd) (hw.push _ rfl rfl rfl rfl rfl))⟩
theorem qO {w : World} (hu : P.underlying t=some (.slice e)) (hi : EI P e z sz by') : (Instr.buildSlice t 0 #[]).run P w=.ok (.slice (some ⟨w.heap.size,0,none⟩) 0 0) { w with heap:=w.heap.push (.cells ([] : List Value).toArray e (0,0)) }:=by
  have h3 : (underlying t).run P w=.ok (.slice e) w:=run_underlying hu w
  have hr : Array.range 0=#[]:=by decide
  simp [Instr.buildSlice,Sem.run_bind,h3,bF hi.sz,Instr.fill,newRow,newObj,Sem.run,hr]
theorem JL.zP (hu : P.underlying t=some (.slice e)) (hi : EI P e z sz by') (hd : Nat.blt d n=true)
    (k : ∀ b,w0.heap.size≤b→JL P n w0 S ops Q l ((d,.slice (some ⟨b,0,none⟩) 0 0)::E) (⟨b,Sl.aG e sz 0 0 [],true⟩::M)) : JL P n w0 S ops Q (⟨some d,.buildSlice t 0 #[],ty,pos,aft,none⟩::l) E M:=
  ⟨fun a w ha hw=>wpList_plain rfl fun K hK=>by
    unfold Oper.wp
    have hm : (#[] : Array (Nat × Operand)).map (fun (i,x)=>(i,a.eval x))=#[]:=by simp
    simp only [execOp,hm,Sem.run_bind,qO hu hi,Result.andThen_ok]
    exact hK _ _ ((k w.heap.size hw.aS.size).go _ _ (ha.put d _ hd) (hw.push (.cells ([] : List Value).toArray e (0,0)) ⟨[],rfl,by simp,by simp,Nat.le_refl _⟩ rfl rfl rfl rfl))⟩
end
end Sl
end
section
namespace Sl
section
variable {P : Program} {n : Nat} {w0 : World} {S : List Nat} {ops : Array Oper} {Q : Exit→Act→World→Prop} {l : List Oper} {E : Env} {M : List aN} {C : World→Prop}
variable {dst : Option Tmp} {d b : Nat} {t t' e ty : TypeId} {pos : String} {aft : Array Edge} {g : Option (Nat × Bool)} {v zv : Value} {x y z : Operand} {by' : Nat}
theorem OQ.AO {a c : Nat} (hx : ev E x=some (N a)) (hy : ev E y=some (N c)) : OQ P n E C ⟨dst,.call ⟨.builtin .min,#[x,y],#[t,t']⟩,ty,pos,aft,g⟩ (N (min a c)):=
  OQ.run fun ac ha w _=>by
    have h1:=ha.eval hx
    have h2:=ha.eval hy
    have h3 : (if c<a then (c : Int) else (a : Int))=((min a c : Nat) : Int):=by split <;> omega
    simp [execOp,h1,h2,resolve,invoke,builtin,Builtin.min_,Builtin.min2,Sem.run_bind,N,h3]
theorem lW {j s : Nat} (h : (ops[j]?).bind (·.dst)=some s) (hl : lk E s=some undef) (hs : Nat.blt s n=true) {a : Act} (ha : bf n E a) : yielded ops a.tmps j=none:=by
  have hlt : s<n:=by simpa using hs
  have h1:=ha.all s undef hl
  have h2 : a.tmps[s]?=some undef:=by
    have : s<a.tmps.size:=by rw [ha.size];exact hlt
    rw [Array.getElem?_eq_getElem this]
    simpa [Array.getD,this] using h1
  simp [yielded,h,h2,undef]
theorem JL.eB {j s : Nat} {want : Bool} {op : Op} (h : (ops[j]?).bind (·.dst)=some s) (hl : lk E s=some undef) (hs : Nat.blt s n=true) (hd : Nat.blt d n=true) (k : JL P n w0 S ops Q l ((d,undef)::E) M) :
    JL P n w0 S ops Q (⟨some d,op,ty,pos,aft,some (j,want)⟩::l) E M:=
  ⟨fun a w ha hw=>wpList_skip (by simp [Region.wanted,lW h hl hs ha]) (k.go _ _ (ha.put d undef hd) hw)⟩
def pairs : Nat→List Operand→List (Nat × Operand)
  | _,[]=>[]
  | i,x::xs=>(i,x)::pairs (i+1) xs
theorem jv {a : Act} (hk : bf n E a) : ∀ {xs : List Operand} {vs : List Value} (i : Nat),fQ E xs=some vs→(pairs i xs).map (fun p=>(p.1,a.eval p.2))=(vs.zipIdx i).map fun x=>(x.2,x.1)
  | [],vs,i,h=>by
    simp only [fQ,Option.some.injEq] at h
    subst h
    rfl
  | x::xs,vs,i,h=>by
    simp only [fQ] at h
    cases h1 : ev E x with
    | none=>simp [h1] at h
    | some v=>
      cases h2 : fQ E xs with
      | none=>simp [h1,h2] at h
      | some us=>
        simp only [h1,h2,Option.some.injEq] at h
        subst h
        simp [pairs,hk.eval h1,jv hk (i+1) h2]
theorem qP {w : World} {vs : List Value} {m : Nat} (hu : P.underlying t=some (.slice e)) (hi : EI P e zv 1 by') (hz : zv.cells.size=1) (h1 : ∀ v ∈ vs,v.cells=#[v]) (hm : vs.length=m) (h0 : 0<m) (hsm : m≤16777216) :
    (Instr.buildSlice t m ((vs.zipIdx 0).map fun x=>(x.2,x.1)).toArray).run P w=.ok (.slice (some ⟨w.heap.size,0,none⟩) m m) { w with heap:=w.heap.push (.cells vs.toArray e (0,0)) }:=by
  have h3 : (underlying t).run P w=.ok (.slice e) w:=run_underlying hu w
  obtain ⟨i,h4,h5,_⟩:=hi.get
  have h6:=Great.fill_flat vs ((Array.range (m * 1)).map (zv.cells[· % zv.cells.size]!)) h1 (by simp [hm])
  have h9 : ¬ (16777216<m):=by omega
  have h10 : ¬ (m=0):=by omega
  have h11 : (zeroValue e).run P w=.ok zv w:=by simp [zeroValue,typeInfo,h4,h5]
  simp only [Nat.mul_one] at h6
  simp [Instr.buildSlice,Sem.run_bind,h3,bF hi.sz,h9,h10,h11,h6,newRow,newObj,Sem.run]
theorem JL.lX {xs : List Operand} {ps : Array (Nat × Operand)} {vs : List Value} {m : Nat} (hu : P.underlying t=some (.slice e)) (hi : EI P e zv 1 by') (hz : zv.cells.size=1) (hps : ps=(pairs 0 xs).toArray) (hx : fQ E xs=some vs) (h1 : vs.all (fun v=>v.oneCell')=true) (h2 : ∀ v ∈ vs,v.cells=#[v]) (hm : vs.length=m) (h0 : 0<m) (hsm : m≤16777216) (hd : Nat.blt d n=true)
    (k : ∀ b,w0.heap.size≤b→JL P n w0 S ops Q l ((d,.slice (some ⟨b,0,none⟩) m m)::E) (⟨b,Row e vs,true⟩::M)) : JL P n w0 S ops Q (⟨some d,.buildSlice t m ps,ty,pos,aft,none⟩::l) E M:=
  ⟨fun a w ha hw=>wpList_plain rfl fun K hK=>by
    unfold Oper.wp
    have hm' : ps.map (fun (i,x)=>(i,a.eval x))=((vs.zipIdx 0).map fun x=>(x.2,x.1)).toArray:=by
      rw [hps,List.map_toArray,← jv ha 0 hx]
    simp only [execOp,hm',Sem.run_bind,qP hu hi hz h2 hm h0 hsm,Result.andThen_ok]
    exact hK _ _ ((k w.heap.size hw.aS.size).go _ _ (ha.put d _ hd) (hw.push _ rfl rfl rfl rfl rfl))⟩
end
end Sl
end
section
namespace Sl
section
variable {P : Program} {n : Nat} {w0 : World} {S : List Nat} {ops : Array Oper} {Q : Exit→Act→World→Prop} {l : List Oper} {E : Env} {M : List aN} {C : World→Prop}
variable {dst : Option Tmp} {d b : Nat} {t t' e ty : TypeId} {pos : String} {aft : Array Edge} {g : Option (Nat × Bool)} {v zv : Value} {x y z : Operand} {by' : Nat}
theorem OQ.BG {a b : BitVec 8} (hx : ev E x=some (U8 a)) (hy : ev E y=some (U8 b)) : OQ P n E C ⟨dst,.binOp .eql t x y t',ty,pos,aft,g⟩ (.bool (decide (a=b))):=by
  have:=OQ.AH (P:=P) (n:=n) (C:=C) (dst:=dst) (ty:=ty) (t:=t) (t':=t') (pos:=pos) (aft:=aft) (g:=g) hx hy
  have h : decide ((a.toNat : Int)=b.toNat)=decide (a=b):=decide_eq_decide.2 ⟨fun h=>BitVec.eq_of_toNat_eq (by omega),fun h=>by rw [h]⟩
  rwa [h] at this
theorem JL.vJ {c : Nat} (hu : P.underlying t=some (.slice e)) (hi : EI P e (.int .u8 0) 1 1) (hx : ev E x=some (N 0)) (hy : ev E y=some (N c)) (hb : c≤281474976710656) (hd : Nat.blt d n=true)
    (k : ∀ b,w0.heap.size≤b→JL P n w0 S ops Q l ((d,.slice (some ⟨b,0,none⟩) 0 c)::E) (⟨b,Sl.aG e 1 0 c [],true⟩::M)) : JL P n w0 S ops Q (⟨some d,.makeSlice t x y,ty,pos,aft,none⟩::l) E M:=
  ⟨fun a w ha hw=>wpList_plain rfl fun K hK=>by
    obtain ⟨i,hi1,hi2,hi3,hi4⟩:=hi.get
    have hbb : (i.bytes : Int) * (c : Int)≤281474976710656:=by
      rw [hi4,← Int.natCast_mul,Nat.one_mul]
      exact Int.ofNat_le.2 hb
    have hrun:=run_make (P:=P) w t e i _ hu hi1 hi2 .i64 .i64 0 c (by omega) (by omega) hbb (by omega)
    have hz : (Value.int .u8 0).cells=(List.replicate 1 (Value.int .u8 0)).toArray:=rfl
    simp only [Int.toNat_natCast,hi3,Int.toNat_zero] at hrun
    rw [sr _ hz (by decide)] at hrun
    have h0 : (N 0 : Value)=.int .i64 0:=rfl
    unfold Oper.wp
    simp only [execOp,ha.eval hx,ha.eval hy,Sem.run_bind,h0,hrun,Result.andThen_ok]
    exact hK _ _ ((k w.heap.size hw.aS.size).go _ _ (ha.put d _ hd) (hw.push (.cells (List.replicate (c * 1) (Value.int .u8 0)).toArray e (0,0)) ⟨List.replicate (c * 1) (.int .u8 0),rfl,by simp,rfl,Nat.zero_le _⟩ rfl rfl rfl rfl))⟩
end
end Sl
end
section
namespace Sl
@[reducible] def I (a : Int) : Value:=.int .i64 a
section
variable {P : Program} {n : Nat} {E : Env} {C : World→Prop} {dst : Option Tmp} {ty t t' : TypeId} {pos : String} {aft : Array Edge} {g : Option (Nat × Bool)} {x y : Operand}
theorem OQ.AP {a b : BitVec 8} (hx : ev E x=some (U8 a)) (hy : ev E y=some (U8 b)) : OQ P n E C ⟨dst,.binOp .add t x y t',ty,pos,aft,g⟩ (U8 (a+b)):=
  OQ.bin hx hy rfl fun _=>oO (k:=.u8) (show IntKind.u8.wrap ((a.toNat : Int)+b.toNat)=_ by rw [← Int.natCast_add,y9,BitVec.toNat_add])
end
end Sl
end
section
namespace Sl
section
variable {P : Program} {n : Nat} {E : Env} {C : World→Prop} {dst : Option Tmp} {ty t t' : TypeId} {pos : String} {aft : Array Edge} {g : Option (Nat × Bool)} {x y z : Operand}
structure BZ (P : Program) (f : FuncId) : Prop where
  go : ∃ fn,P.funcs[f]?=some fn∧(fn.name == "runtime.NumGoroutine")=false∧fn.body.isNone=true∧Extern.findNext fn=none∧Extern.find fn=some add64Entry
end
end Sl
end
end Go.Proofs.YtjeeilmkjjbonaaGreatDoor
