/-
  Of no statement by itself: the texts TokS, TalP, TalA, Slcv, FieT, FieA, LsP, LsA, TokF, TokG, TokH, TokJ, TokK, TokC, TokW, TkA, TkB, LsC, TokX, TkC, Shpx, TalB in one.
  Conditions: each theorem's own.
-/
import Derived.Test.YtjeeilmkjjbonaaGreatDoorNa
import Derived.Laws.Cover3
import Derived.Lib.SlTrimSet
import Derived.Lib.IndexAny
import Derived.Laws.Externs
import Derived.Shelf.Strings.SlTrimAscii
import Derived.Shelf.Strings.OnBuilder
import Derived.Shelf.Strings.Split
set_option linter.unusedSimpArgs false
set_option linter.unusedVariables false
namespace Go.Proofs.YtjeeilmkjjbonaaGreatDoor
section
namespace Tok
open aq
def uc (c : By) (s : List By) : Bool:=s.any fun d=>d == c
def spec : List By:=[40,41,60,62,64,44,59,58,92,34,47,91,93,63,61,46]
def cq (c : By) : Bool:=decide (33≤c.toNat) && decide (c.toNat≤126) && !uc c spec
def cI (s : List By) : Bool:=s.all cq && decide (0<s.length)
def ax : List By→Nat→Bool→List By→List By × Nat
  | [],d,q,o=>if 0<d∨q=true then ([],3) else (o,0)
  | c::r,d,q,o=>
    if c=92∧(0<d∨q=true) then
      match r with
      | []=>([],3)
      | c2::r'=>ax r' d q (if q then o++[c,c2] else o)
    else if q then ax r d (!(c == 34)) (o++[c])
    else if c=40 then (if 9<d+1 then ([],5) else ax r (d+1) q o)
    else if c=41 then (if d=0 then ([],3) else ax r (d - 1) q (if d - 1=0 then o++[32] else o))
    else if d=0 then ax r d (c == 34) (o++[c])
    else ax r d q o
def dz (s : List By) : List By × Nat:=ax s 0 false []
def kq : List By→By→Bool
  | [],l=>!(l == 46)
  | c::r,l=>if (c=46∧l=46)∨(¬ c=46∧cq c=false) then false else kq r c
def bW (s : List By) : Bool:=kq s 46
def fst (c : By) (s : List By) : Nat:=(s.takeWhile fun d=>!(d == c)).length
def th (s : List By) : List By:=(s.reverse.takeWhile fun d=>!(d == 60)).reverse
def dA (s : List By) : List By × Nat:=
  if fst 64 s=s.length∨bW (s.take (fst 64 s))=false∨bW (s.drop (fst 64 s+1))=false then ([],3)
  else (s.take (fst 64 s+1)++(s.drop (fst 64 s+1)).map small,0)
def jg (s : List By) : List By × Nat:=
  if 0<s.length∧s.getD (s.length - 1) 0=62 then
    (if 60 ∈ s then dA (trim (th s.dropLast)) else ([],3))
  else dA s
def fE (s : List By) : List By × Nat:=if (dz s).2=0 then jg (trim (dz s).1) else ([],(dz s).2)
theorem bS (c : aq.By) (r : List aq.By) (d : Nat) (q : Bool) (o : List aq.By) (h : ¬ (c=92∧(0<d∨q=true))) : ax (c::r) d q o=if q then ax r d (!(c == 34)) (o++[c])
    else if c=40 then (if 9<d+1 then ([],5) else ax r (d+1) q o)
    else if c=41 then (if d=0 then ([],3) else ax r (d - 1) q (if d - 1=0 then o++[32] else o))
    else if d=0 then ax r d (c == 34) (o++[c])
    else ax r d q o:=by
  conv=>lhs;rw [ax.eq_def]
  dsimp only
  rw [if_neg h]
theorem jh (c2 : aq.By) (r : List aq.By) (d : Nat) (o : List aq.By) : ax (92::c2::r) d true o=ax r d true (o++[92]++[c2]):=by simp [ax]
theorem gH (d : Nat) (o : List aq.By) : ax [92] d true o=([],3):=by simp [ax]
theorem kr {c : aq.By} (h : ¬ c=92) (r : List aq.By) (d : Nat) (o : List aq.By) : ax (c::r) d true o=ax r d (!(c == 34)) (o++[c]):=by rw [bS _ _ _ _ _ (fun k=>h k.1),if_pos rfl]
theorem ji {d : Nat} (h : 0<d) (c2 : aq.By) (r : List aq.By) (o : List aq.By) : ax (92::c2::r) d false o=ax r d false o:=by simp [ax,h]
theorem gI {d : Nat} (h : 0<d) (o : List aq.By) : ax [92] d false o=([],3):=by simp [ax,h]
theorem e9 (r : List aq.By) (d : Nat) (o : List aq.By) : ax (40::r) d false o=if 9<d+1 then ([],5) else ax r (d+1) false o:=by
  rw [bS _ _ _ _ _ (by rintro ⟨h,_⟩;revert h;decide),if_neg (by decide),if_pos rfl]
theorem iq (r : List aq.By) (d : Nat) (o : List aq.By) : ax (41::r) d false o=if d=0 then ([],3) else ax r (d - 1) false (if d - 1=0 then o++[32] else o):=by
  rw [bS _ _ _ _ _ (by rintro ⟨h,_⟩;revert h;decide),if_neg (by decide),if_neg (by decide),if_pos rfl]
theorem ir {c : aq.By} (h1 : ¬ c=40) (h2 : ¬ c=41) (r : List aq.By) (o : List aq.By) : ax (c::r) 0 false o=ax r 0 (c == 34) (o++[c]):=by
  rw [bS _ _ _ _ _ (by rintro ⟨_,h | h⟩;exact absurd h (by decide);cases h),if_neg (by decide),if_neg h1,if_neg h2,if_pos rfl]
theorem rz {c : aq.By} {d : Nat} (h0 : ¬ c=92) (h1 : ¬ c=40) (h2 : ¬ c=41) (hd : ¬ d=0) (r : List aq.By) (o : List aq.By) : ax (c::r) d false o=ax r d false o:=by
  rw [bS _ _ _ _ _ (fun k=>h0 k.1),if_neg (by decide),if_neg h1,if_neg h2,if_neg hd]
theorem bX (d : Nat) (q : Bool) (o : List aq.By) : ax [] d q o=if (decide ((0 : Int)<(d : Int)) || q)=true then ([],3) else (o,0):=by
  rw [ax]
  congr 1
  rw [Bool.or_eq_true,decide_eq_true_eq]
  exact propext (or_congr (by omega) Iff.rfl)
theorem nP : ∀ (n : Nat) (r : List aq.By) (d : Nat) (q : Bool) (o : List aq.By),r.length≤n→(ax r d q o).1.length≤o.length+r.length:=by
  intro n
  induction n with
  | zero=>
    intro r d q o h
    obtain rfl : r=[]:=List.eq_nil_of_length_eq_zero (by omega)
    rw [bX]
    split <;> simp
  | succ n ih=>
    intro r d q o h
    match r,h with
    | [],_=>rw [bX];split <;> simp
    | c::r,h=>
      simp only [List.length_cons] at h ⊢
      by_cases h9 : c=92∧(0<d∨q=true)
      · obtain ⟨rfl,hq⟩:=h9
        match r,h with
        | [],_=>
          cases q
          · rw [gI (by simpa using hq)];simp
          · rw [gH];simp
        | c2::r,h=>
          simp only [List.length_cons] at h ⊢
          cases q
          · rw [ji (by simpa using hq)]
            have:=ih r d false o (by omega)
            omega
          · rw [jh]
            have:=ih r d true (o++[92]++[c2]) (by omega)
            simp only [List.length_append,List.length_cons,List.length_nil] at this
            omega
      · rw [bS c r d q o h9]
        have h0:=ih r d (!(c == 34)) (o++[c]) (by omega)
        have h1:=ih r (d+1) q o (by omega)
        have h2:=ih r (d - 1) q (if d - 1=0 then o++[32] else o) (by omega)
        have h3:=ih r d (c == 34) (o++[c]) (by omega)
        have h4:=ih r d q o (by omega)
        have h5 : (if d - 1=0 then o++[32] else o).length≤o.length+1:=by split <;> simp
        simp only [List.length_append,List.length_cons,List.length_nil] at h0 h3
        generalize (if d - 1=0 then o++[32] else o)=o2 at h2 h5 ⊢
        split
        · omega
        split
        · split
          · simp
          · omega
        split
        · split
          · simp
          · omega
        split
        · omega
        · omega
theorem lY (s : List aq.By) : (dz s).1.length≤s.length:=by
  have:=nP s.length s 0 false [] (Nat.le_refl _)
  simp only [List.length_nil,Nat.zero_add] at this
  exact this
end Tok
end
section
namespace de
abbrev By:=BitVec 8
def bM : List By:=[72,69,76,79]
def bQ : List By:=[77,65,73,76,32,70,82,79,77,58]
def bY : List By:=[82,67,80,84,32,84,79,58]
def cc : List By:=[68,65,84,65]
def gJ : List By:=[82,83,69,84]
def jj : List By:=[81,85,73,84]
def rA : List By:=[50,50,49,32,98,121,101]
def jk : List By:=[50,53,48,32,111,107]
def tO : List By:=[51,53,52,32,103,111]
def sy : List By:=[52,53,50,32,109,97,110,121]
def jl : List By:=[53,48,48,32,119,104,97,116]
def fF : List By:=[53,48,49,32,102,111,114,109]
def bZ : List By:=[53,48,51,32,111,114,100,101,114]
structure Ml where
  fr : List By
  to : List (List By)
  b : List By
structure Po where
  st : Nat
  fr : List By
  to : List (List By)
  ln : List By
  dt : List By
  ms : List Ml
def new : Po:=⟨0,[],[],[],[],[]⟩
def lq (a : List By) : Bool:=decide ((Tok.fE a).2=0) && decide ((Tok.fE a).1=a)
def dY (s : List By) : Option (List By):=if s.head?=some 60∧s.tail.getLast?=some 62∧lq s.tail.dropLast=true then some s.tail.dropLast else none
def au (w l : List By) : Bool:=decide (w.length≤l.length) && aq.dX (l.take w.length) w
def bH (S : Po) (st : Nat) : Po:=⟨st,[],[],S.ln,[],S.ms⟩
def cz (S : Po) (t : List By) : Po × List By:=if t.head?=some 32 then (bH S 1,jk) else (S,fF)
def bF (S : Po) (t : List By) : Po × List By:=match dY t with
  | none=>(S,fF)
  | some a=>if S.st=1 then (⟨2,a,S.to,S.ln,S.dt,S.ms⟩,jk) else (S,bZ)
def cX (S : Po) (t : List By) : Po × List By:=match dY t with
  | none=>(S,fF)
  | some a=>if S.st=2∨S.st=3 then (if S.to.length=10 then (S,sy) else (⟨3,S.fr,S.to++[a],S.ln,S.dt,S.ms⟩,jk)) else (S,bZ)
def cY (S : Po) (t : List By) : Po × List By:=if t=[] then (if S.st=3 then (⟨4,S.fr,S.to,S.ln,S.dt,S.ms⟩,tO) else (S,bZ)) else (S,fF)
def cZ (S : Po) (t : List By) : Po × List By:=if t=[] then (if S.st=0 then (S,jk) else (bH S 1,jk)) else (S,fF)
def eS (S : Po) (t : List By) : Po × List By:=if t=[] then (bH S 5,rA) else (S,fF)
def aO (S : Po) (l : List By) : Po × List By:=
  if 512<l.length then (S,jl)
  else if au bM l then cz S (l.drop 4)
  else if au bQ l then bF S (l.drop 10)
  else if au bY l then cX S (l.drop 8)
  else if au cc l then cY S (l.drop 4)
  else if au gJ l then cZ S (l.drop 4)
  else if au jj l then eS S (l.drop 4)
  else (S,jl)
def bB (d : List By) : List By:=((b6.fD (d++[46,13,10])).map Prod.fst).getD []
def dB (S : Po) : Po × List By:=(⟨1,[],[],S.ln,[],S.ms++[⟨S.fr,S.to,bB S.dt⟩]⟩,jk)
def aP (S : Po) (l : List By) : Po × List By:=
  if S.st=4 then (if l=[46] then ((dB S).1,(dB S).2++[13,10]) else (⟨S.st,S.fr,S.to,S.ln,S.dt++(l++[13,10]),S.ms⟩,[]))
  else ((aO S l).1,(aO S l).2++[13,10])
def ends (l : List By) : Bool:=decide (l.getLast?=some 10) && decide (l.dropLast.getLast?=some 13)
def aS (S : Po) (x : List By) : Po × List By:=
  if ends (S.ln++x) then aP ⟨S.st,S.fr,S.to,[],S.dt,S.ms⟩ (S.ln++x).dropLast.dropLast else (⟨S.st,S.fr,S.to,S.ln++x,S.dt,S.ms⟩,[])
def aW (P : Po × List By) (c : By) : Po × List By:=if P.1.st=5 then P else ((aS P.1 [c]).1,P.2++(aS P.1 [c]).2)
def ay (S : Po) (b : List By) : Po × List By:=b.foldl aW (S,[])
theorem eT (l : List By) : ends (l++[13,10])=true:=by
  have h1 : (l++[13,10]).getLast?=some (10 : By):=by simp
  have h2 : (l++[13,10]).dropLast.getLast?=some (13 : By):=by
    rw [show l++[(13 : By),10]=(l++[13])++[10] by simp,List.dropLast_concat];simp
  unfold ends
  rw [h1,h2]
  rfl
theorem iu {l : List By} (h : ends l=true) : l=l.dropLast.dropLast++[13,10]:=by
  unfold ends at h
  rw [Bool.and_eq_true,decide_eq_true_iff,decide_eq_true_iff] at h
  exact b6.ko h.1 h.2
theorem sA (l : List By) : (l++[(13 : By),10]).dropLast.dropLast=l:=by
  rw [show l++[(13 : By),10]=(l++[13])++[10] by simp,List.dropLast_concat,List.dropLast_concat]
theorem dZ {l : List By} (h : ends l=true) : l.dropLast.dropLast.length+2=l.length:=by
  have:=congrArg List.length (iu h)
  rw [List.length_append] at this
  exact this.symm
theorem p5 {l : List By} (c : By) (h : c≠10) : ends (l++[c])=false:=by
  unfold ends
  have : (l++[c]).getLast?≠some (10 : By):=by rw [List.getLast?_concat];exact fun e=>h (Option.some.inj e)
  rw [decide_eq_false this,Bool.false_and]
theorem dg : ∀ (b : List By) (S : Po) (o : List By),b.foldl aW (S,o)=((ay S b).1,o++(ay S b).2)
  | [],S,o=>by simp [ay]
  | c::b,S,o=>by
    have e : ∀ o',(c::b).foldl aW (S,o')=b.foldl aW (aW (S,o') c):=fun _=>rfl
    have h : ∀ o',aW (S,o') c=((aW (S,[]) c).1,o'++(aW (S,[]) c).2):=by
      intro o'
      unfold aW
      dsimp only
      split <;> simp
    unfold ay
    rw [e,e,h o,dg b (aW (S,[]) c).1 (o++(aW (S,[]) c).2),← Prod.eta (aW (S,[]) c),dg b (aW (S,[]) c).1 (aW (S,[]) c).2]
    dsimp only
    rw [List.append_assoc]
theorem eU (S : Po) (a b : List By) : ay S (a++b)=((ay (ay S a).1 b).1,(ay S a).2++(ay (ay S a).1 b).2):=by
  unfold ay
  rw [List.foldl_append,← Prod.eta (a.foldl aW (S,[]))]
  exact dg b _ _
theorem fG {S : Po} (h : S.st=5) : ∀ b : List By,ay S b=(S,[])
  | []=>rfl
  | c::b=>by
    have e : ay S (c::b)=b.foldl aW (aW (S,[]) c):=rfl
    rw [e]
    have : aW (S,[]) c=(S,[]):=by unfold aW;rw [if_pos h]
    rw [this]
    exact fG h b
theorem fH : ∀ (x : List By) (S : Po),S.st≠5→(∀ c ∈ x,c≠10)→ay S x=(⟨S.st,S.fr,S.to,S.ln++x,S.dt,S.ms⟩,[])
  | [],S,_,_=>by simp [ay]
  | c::x,S,h5,hx=>by
    have e : ay S (c::x)=x.foldl aW (aW (S,[]) c):=rfl
    have hc:=p5 (l:=S.ln) c (hx c List.mem_cons_self)
    have : aW (S,[]) c=(⟨S.st,S.fr,S.to,S.ln++[c],S.dt,S.ms⟩,[]):=by
      unfold aW aS
      rw [if_neg h5]
      dsimp only
      rw [hc]
      rfl
    rw [e,this]
    have:=fH x ⟨S.st,S.fr,S.to,S.ln++[c],S.dt,S.ms⟩ h5 (fun d hd=>hx d (List.mem_cons_of_mem _ hd))
    unfold ay at this
    rw [this]
    simp
theorem dH (x : List By) (S : Po) (h5 : S.st≠5) (h0 : x≠[]) (hx : ∀ c ∈ x.dropLast,c≠10) : ay S x=aS S x:=by
  obtain ⟨y,c,rfl⟩:=(List.eq_nil_or_concat x).resolve_left h0
  rw [List.concat_eq_append] at *
  rw [List.dropLast_concat] at hx
  rw [eU,fH y S h5 hx]
  dsimp only
  have e : ∀ T : Po,T.st≠5→ay T [c]=aS T [c]:=by
    intro T hT
    show aW (T,[]) c=_
    unfold aW
    rw [if_neg hT]
    dsimp only
    rw [List.nil_append]
  rw [e ⟨S.st,S.fr,S.to,S.ln++y,S.dt,S.ms⟩ h5]
  have : aS ⟨S.st,S.fr,S.to,S.ln++y,S.dt,S.ms⟩ [c]=aS S (y++[c]):=by
    unfold aS
    dsimp only
    rw [List.append_assoc]
  rw [this,List.nil_append]
def Po.sz (S : Po) : Nat:=S.ln.length+S.dt.length+S.ms.length
structure Po.fit (S : Po) (n : Nat) : Prop where
  sz : S.sz≤n
  to : S.to.length≤10
theorem lZ (S : Po) (t : List By) : (bF S t).1.to=S.to∧(bF S t).1.sz=S.sz∧(bF S t).1.ln=S.ln:=by
  unfold bF Po.sz
  repeat' split
  all_goals exact ⟨rfl,rfl,rfl⟩
theorem p6 (S : Po) (t : List By) (h : S.to.length≤10) : (cX S t).1.to.length≤10∧(cX S t).1.sz=S.sz∧(cX S t).1.ln=S.ln:=by
  unfold cX Po.sz
  repeat' split
  all_goals (refine ⟨?_,rfl,rfl⟩;first | exact h|(show (S.to++[_]).length≤10;rw [List.length_append,List.length_singleton];omega))
theorem iw (S : Po) (k : Nat) : (bH S k).to.length≤10∧(bH S k).sz≤S.sz∧(bH S k).ln=S.ln:=by
  refine ⟨by show 0≤10;omega,?_,rfl⟩
  unfold bH Po.sz
  simp only [List.length_nil]
  omega
theorem jm (S : Po) (l : List By) (h : S.to.length≤10) : (aO S l).1.to.length≤10∧(aO S l).1.sz≤S.sz∧(aO S l).1.ln=S.ln:=by
  have h0 : S.to.length≤10∧S.sz≤S.sz∧S.ln=S.ln:=⟨h,Nat.le_refl _,rfl⟩
  unfold aO
  split
  · exact h0
  split
  · unfold cz
    split
    · exact iw S 1
    · exact h0
  split
  · obtain ⟨a,b,c⟩:=lZ S (l.drop 10)
    exact ⟨a ▸ h,by omega,c⟩
  split
  · obtain ⟨a,b,c⟩:=p6 S (l.drop 8) h
    exact ⟨a,by omega,c⟩
  split
  · unfold cY
    repeat' split
    all_goals exact h0
  split
  · unfold cZ
    repeat' split
    all_goals first | exact h0 | exact iw S 1
  split
  · unfold eS
    split
    · exact iw S 5
    · exact h0
  · exact h0
theorem fI (S : Po) (l : List By) (n : Nat) (h : S.fit n) : (aP S l).1.fit (n+l.length+2)∧(aP S l).1.ln=S.ln:=by
  unfold aP
  split
  · split
    · refine ⟨⟨?_,by show 0≤10;omega⟩,rfl⟩
      have:=h.sz
      unfold dB Po.sz at *
      simp only [List.length_append,List.length_cons,List.length_nil]
      omega
    · refine ⟨⟨?_,h.to⟩,rfl⟩
      have:=h.sz
      unfold Po.sz at *
      simp only [List.length_append,List.length_cons,List.length_nil]
      omega
  · obtain ⟨a,b,c⟩:=jm S l h.to
    exact ⟨⟨by have:=h.sz;show (aO S l).1.sz≤_;omega,a⟩,c⟩
theorem gK (S : Po) (x : List By) (n : Nat) (h : S.fit n) : (aS S x).1.fit (n+x.length):=by
  unfold aS
  split
  · rename_i he
    have hl:=dZ he
    have h1:=h.sz
    unfold Po.sz at h1
    rw [List.length_append] at hl
    have h2:=(fI ⟨S.st,S.fr,S.to,[],S.dt,S.ms⟩ (S.ln++x).dropLast.dropLast (S.dt.length+S.ms.length) ⟨by unfold Po.sz;simp,h.to⟩).1
    exact ⟨by have:=h2.sz;omega,h2.to⟩
  · refine ⟨?_,h.to⟩
    have:=h.sz
    unfold Po.sz at *
    simp only [List.length_append]
    omega
theorem fJ : ∀ (b : List By) (S : Po) (n : Nat),S.fit n→(ay S b).1.fit (n+b.length)
  | [],S,n,h=>by simpa [ay] using h
  | c::b,S,n,h=>by
    have e : ay S (c::b)=b.foldl aW (aW (S,[]) c):=rfl
    have h1 : (aW (S,[]) c).1.fit (n+1):=by
      unfold aW
      dsimp only
      split
      · exact ⟨Nat.le_succ_of_le h.sz,h.to⟩
      · exact gK S [c] n h
    rw [e,← Prod.eta (aW (S,[]) c),dg]
    have:=fJ b (aW (S,[]) c).1 (n+1) h1
    rw [List.length_cons,Nat.add_comm b.length 1,← Nat.add_assoc]
    exact this
end de
end
section
set_option maxRecDepth 10000
open Sl
namespace de
structure Mz where
  qt : Acc
  qb : Acc
  m : Ml
  ht : qt=none→m.to=[]
  hb : qb=none→m.b=[]
def Mz.cs (z : Mz) : List Value:=[Z z.m.fr,af z.qt z.m.to.length,af z.qb z.m.b.length]
def Mz.E (z : Mz) : List az:=aA 9 z.qt (z.m.to.map Z)++aA 5 z.qb (z.m.b.map U8)
structure Pw where
  st : Nat
  fr : List Bt
  qt : Acc
  to : List (List Bt)
  ql : Acc
  ln : List Bt
  qd : Acc
  dt : List Bt
  qm : Acc
  zs : List Mz
structure Pw.ok (z : Pw) : Prop where
  t : z.qt=none→z.to=[]
  l : z.ql=none→z.ln=[]
  d : z.qd=none→z.dt=[]
  m : z.qm=none→z.zs=[]
def Pw.cs (z : Pw) : List Value:=[N z.st,Z z.fr,af z.qt z.to.length,af z.ql z.ln.length,af z.qd z.dt.length,af z.qm z.zs.length]
def Pw.T (z : Pw) : List az:=aA 9 z.qt (z.to.map Z)
def Pw.L (z : Pw) : List az:=aA 5 z.ql (z.ln.map U8)
def Pw.D (z : Pw) : List az:=aA 5 z.qd (z.dt.map U8)
def Pw.M (z : Pw) : List az:=dr 38 3 z.qm (z.zs.map Mz.cs)++z.zs.flatMap Mz.E
def Pw.R (z : Pw) : List az:=z.T++(z.L++(z.D++z.M))
def Pw.E (b : Nat) (z : Pw) : List az:=⟨b,Row 75 z.cs,true⟩::z.R
theorem sB (z : Mz) : ∀ e ∈ z.E,e.wr=true:=by
  intro e he
  rcases List.mem_append.1 he with h | h
  · exact b8 _ _ _ e h
  · exact b8 _ _ _ e h
theorem rB (zs : List Mz) : ∀ e ∈ zs.flatMap Mz.E,e.wr=true:=by
  intro e he
  obtain ⟨z,_,hz⟩:=List.mem_flatMap.1 he
  exact sB z e hz
theorem Pw.wr (b : Nat) (z : Pw) : ∀ e ∈ z.E b,e.wr=true:=by
  intro e he
  rcases List.mem_cons.1 he with rfl | he
  · rfl
  rcases List.mem_append.1 he with h | he
  · exact b8 _ _ _ e h
  rcases List.mem_append.1 he with h | he
  · exact b8 _ _ _ e h
  rcases List.mem_append.1 he with h | he
  · exact b8 _ _ _ e h
  rcases List.mem_append.1 he with h | he
  · exact lg _ _ _ _ e h
  · exact rB _ e he
def tr (l : List Bt) : List Bt:=if 515<l.length then l.take 513++l.drop (l.length - 2) else l
def ku (S : Po) : List Bt:=if S.st=4 then S.ln else tr S.ln
structure Pw.is (z : Pw) (S : Po) : Prop where
  st : z.st=S.st
  fr : z.fr=S.fr
  to : z.to=S.to
  ln : z.ln=ku S
  dt : z.dt=S.dt
  ms : z.zs.map Mz.m=S.ms
theorem rC : tr []=[]:=rfl
theorem ec {S : Po} (h : S.ln=[]) : ku S=[]:=by
  unfold ku
  rw [h,rC]
  split <;> rfl
theorem tj : lS Tryz.prog 38=true:=by kernel_rfl
theorem sW : EI Tryz.prog 38 (.agg #[Z [],.slice none 0 0,.slice none 0 0]) 3 64:=by unfold EI;kernel_rfl
theorem bN : dO Tryz.prog 3=true:=by kernel_rfl
theorem eV : dO Tryz.prog 9=true:=by kernel_rfl
theorem fK : dO Tryz.prog 30=true:=by kernel_rfl
theorem b5 : dO Tryz.prog 22=true:=by kernel_rfl
theorem qM : dO Tryz.prog 31=true:=by kernel_rfl
theorem sC : dM Tryz.prog 3=some 1:=by kernel_rfl
theorem jn : dM Tryz.prog 9=some 1:=by kernel_rfl
theorem sD : dM Tryz.prog 30=some 1:=by kernel_rfl
theorem lu : dM Tryz.prog 22=some 1:=by kernel_rfl
theorem sE : dM Tryz.prog 31=some 1:=by kernel_rfl
theorem ef (q : Acc) (k : Nat) : (af q k).oneCell'=true:=by cases q <;> rfl
theorem eC (q : Acc) (k : Nat) : (af q k).cells=#[af q k]:=by cases q <;> rfl
section
variable {n : Nat} {w0 : World} {S : List Nat} {ops : Array Oper} {Q : Exit→Act→World→Prop} {l : List Oper} {E : Env} {M : List az} {pos : String} {aft : Array Edge} {ty : TypeId} {x y : Operand} {b : Nat} {z : Pw} {rest : List az}
theorem JL.fL (k : Nat) (hx : ev E x=some (Pt b 0)) (hy : ev E y=some (N k)) (hk : JL Tryz.prog n w0 S ops Q l E (⟨b,Row 75 (Pw.cs { z with st:=k }),true⟩::rest)) : JL Tryz.prog n w0 S ops Q (⟨none,.store 3 x y,ty,pos,aft,none⟩::l) E (⟨b,Row 75 z.cs,true⟩::rest):=
  JL.bJ (b:=b) (r:=z.cs) sC hx hy rfl rfl .here (show 0<6 by decide) rfl hk
theorem JL.nQ (s : List Bt) (hx : ev E x=some (Pt b 1)) (hy : ev E y=some (Z s)) (hk : JL Tryz.prog n w0 S ops Q l E (⟨b,Row 75 (Pw.cs { z with fr:=s }),true⟩::rest)) : JL Tryz.prog n w0 S ops Q (⟨none,.store 9 x y,ty,pos,aft,none⟩::l) E (⟨b,Row 75 z.cs,true⟩::rest):=
  JL.bJ (b:=b) (r:=z.cs) jn hx hy rfl rfl .here (show 1<6 by decide) rfl hk
theorem JL.lz (q : Acc) (to : List (List Bt)) (hx : ev E x=some (Pt b 2)) (hy : ev E y=some (af q to.length)) (hk : JL Tryz.prog n w0 S ops Q l E (⟨b,Row 75 (Pw.cs { z with qt:=q,to:=to }),true⟩::rest)) : JL Tryz.prog n w0 S ops Q (⟨none,.store 30 x y,ty,pos,aft,none⟩::l) E (⟨b,Row 75 z.cs,true⟩::rest):=
  JL.bJ (b:=b) (r:=z.cs) sD hx hy (ef _ _) (eC _ _) .here (show 2<6 by decide) rfl hk
theorem JL.nR (q : Acc) (s : List Bt) (hx : ev E x=some (Pt b 3)) (hy : ev E y=some (af q s.length)) (hk : JL Tryz.prog n w0 S ops Q l E (⟨b,Row 75 (Pw.cs { z with ql:=q,ln:=s }),true⟩::rest)) : JL Tryz.prog n w0 S ops Q (⟨none,.store 22 x y,ty,pos,aft,none⟩::l) E (⟨b,Row 75 z.cs,true⟩::rest):=
  JL.bJ (b:=b) (r:=z.cs) lu hx hy (ef _ _) (eC _ _) .here (show 3<6 by decide) rfl hk
theorem JL.lA (q : Acc) (s : List Bt) (hx : ev E x=some (Pt b 4)) (hy : ev E y=some (af q s.length)) (hk : JL Tryz.prog n w0 S ops Q l E (⟨b,Row 75 (Pw.cs { z with qd:=q,dt:=s }),true⟩::rest)) : JL Tryz.prog n w0 S ops Q (⟨none,.store 22 x y,ty,pos,aft,none⟩::l) E (⟨b,Row 75 z.cs,true⟩::rest):=
  JL.bJ (b:=b) (r:=z.cs) lu hx hy (ef _ _) (eC _ _) .here (show 4<6 by decide) rfl hk
end
end de
end
section
set_option maxRecDepth 10000
open Sl
section
variable {P : Program} {n : Nat} {w0 : World} {S : List Nat} {ops : Array Oper} {Q : Exit→Act→World→Prop} {l : List Oper} {E : Env} {M : List az} {C : World→Prop}
variable {dst : Option Tmp} {d : Nat} {t t' e ty : TypeId} {pos : String} {aft : Array Edge} {g : Option (Nat × Bool)} {x y : Operand}
theorem JL.fM {ι : Type} {X M0 : List az} (vf : ι→Value) (Yf : ι→List az) {f : FuncId} {xs : List Operand} {ats : Array TypeId} {vs : List Value} (hg : aC P f) (hx : dw E xs=some vs) (hd : Nat.blt d n=true) (hX : ∀ e ∈ X,e.wr=true) (hY : ∀ i,∀ e ∈ Yf i,e.wr=true)
    (hc : ∀ w,aa w0 S (X++M0) w→aa w (keys X) X w→Calls P f vs.toArray w fun e w'=>∃ i,e=.returned (vf i)∧aa w (keys X) (Yf i) w')
    (k : ∀ i,JL P n w0 S ops Q l ((d,vf i)::E) (Yf i++M0)) : JL P n w0 S ops Q (⟨some d,.call ⟨.value (.func f),xs.toArray,ats⟩,ty,pos,aft,none⟩::l) E (X++M0):=
  JL.call (ι:=ι) vf (fun i=>Yf i++M0) hg hx hd (fun w hw=>(hc w hw (hw.own.weak (cO _ _))).mono fun _ _ ⟨i,h1,h2⟩=>⟨i,h1,hw.qL h2 hX (hY i)⟩) k
theorem OQ.nS {ad : Option Addr} {k cap : Nat} (hu : P.underlying t=some (.slice e)) (hx : ev E x=some (.slice ad k cap)) (hy : ev E y=some (.slice none 0 0)) :
    OQ P n E C ⟨dst,.binOp .eql t x y t',ty,pos,aft,g⟩ (.bool ad.isNone):=
  OQ.run fun c ha w _=>by
    have h1:=ha.eval hx
    have h2:=ha.eval hy
    have h4 : (binOp .eql t (.slice ad k cap) (.slice none 0 0)).run P w=.ok (.bool ad.isNone) w:=by
      show (do pure (.bool (← Op.equal t (.slice ad k cap) (.slice none 0 0))) : Sem Value).run P w=_
      simp [Sem.run_bind,run_equal_slice_nil w t e ad k cap hu]
    simp [execOp,h1,h2,eqGuard,h4]
theorem OQ.jo {k : IntKind} {len cap b j i sz : Nat} (hu : P.underlying t=some (.slice e)) (hz : dM P e=some sz) (hx : ev E x=some (.slice (some ⟨b,j,none⟩) len cap)) (hy : ev E y=some (.int k (i : Int))) (hi : i<len) :
    OQ P n E C ⟨dst,.indexAddr t x y,ty,pos,aft,g⟩ (.pointer (some ⟨b,j+i * sz,none⟩)):=
  OQ.run fun a ha w _=>by
    have h1:=ha.eval hx
    have h2:=ha.eval hy
    have h3 : (underlying t).run P w=.ok (.slice e) w:=run_underlying hu w
    simp [execOp,h1,h2,Instr.indexAt,asIntOf,Sem.run_bind,h3,hi,aL hz,bf]
end
theorem jq {w0 w : World} {S : List Nat} {X M : List az} {b : Nat} {A : Obj→Prop} {wr : Bool} (hw : aa w0 S (X++M) w) (hM : Has M b A wr) : b ∉ keys X:=by
  have hn:=hw.nodup
  rw [List.map_append,List.nodup_append] at hn
  intro hm
  exact hn.2.2 b hm b (List.mem_map_of_mem (f:=az.b) hM.mem) rfl
end
section
namespace aq
inductive Hd : List (List By × List By)→List By→Prop
  | nil : Hd [] []
  | cons (n v L e : List By) (fs : List (List By × List By)) (H : List By) : sw n=true→tf v=true→Fo (32::v) L→ua e→Hd fs H→Hd ((n,v)::fs) (n++58::L++e++H)
end aq
end
section
namespace aq
end aq
end
section
namespace aq
def bx (l : List By) : List UInt8:=l.map UInt8.ofBitVec
theorem bT (l : List By) : (aD l).data.toList=bx l:=rfl
theorem lB (l : List By) : (⟨(bx l).toArray⟩ : ByteArray)=aD l:=rfl
theorem jr (p : UInt8→Bool) : ∀ l : List By,(bx l).dropWhile p=bx (l.dropWhile fun c=>p (UInt8.ofBitVec c))
  | []=>rfl
  | c::l=>by
    show (UInt8.ofBitVec c::bx l).dropWhile p=_
    rw [List.dropWhile_cons,List.dropWhile_cons]
    cases h : p (UInt8.ofBitVec c) with
    | true=>exact jr p l
    | false=>rfl
theorem lC (l : List By) : (bx l).reverse=bx l.reverse:=by unfold bx;rw [List.map_reverse]
theorem nT (c : By) : (bx [32,9]).contains (UInt8.ofBitVec c)=bl c:=by
  have h : ∀ c : Fin 256,(bx [32,9]).contains (UInt8.ofBitVec (BitVec.ofNat 8 c.val))=bl (BitVec.ofNat 8 c.val):=by decide +kernel
  simpa using h ⟨c.toNat,c.isLt⟩
theorem js (l : List By) : Go.Lib.trimLeftS (bx l) (bx [32,9])=bx (bL l):=by
  unfold Go.Lib.trimLeftS
  rw [jr]
  congr 1
  unfold bL
  congr 1
  funext c
  exact nT c
def eW (v : List By) : List By:=(bL v.reverse).reverse
theorem fN (c : By) (r : List By) : eW (c::r)=if eW r=[]∧bl c=true then [] else c::eW r:=by
  unfold eW bL
  rw [List.reverse_cons,List.dropWhile_append]
  by_cases h : (r.reverse.dropWhile bl)=[]
  · rw [h]
    cases hc : bl c <;> simp [hc]
  · have h2 : (r.reverse.dropWhile bl).isEmpty=false:=by simpa using h
    rw [h2,if_neg (by decide),if_neg (by rintro ⟨k,_⟩;exact h (by simpa using k)),List.reverse_append]
    rfl
theorem gL : ∀ v : List By,bL (eW v)=eW (bL v)
  | []=>rfl
  | c::r=>by
    have ih:=gL r
    rw [fN]
    cases hc : bl c with
    | true=>
      have e : bL (c::r)=bL r:=by simp [bL,hc]
      rw [e,← ih]
      by_cases h : eW r=[]
      · rw [if_pos ⟨h,rfl⟩,h]
      · rw [if_neg (fun k=>h k.1)]
        simp [bL,hc]
    | false=>
      have e : bL (c::r)=c::r:=by simp [bL,hc]
      rw [if_neg (by rintro ⟨_,k⟩;cases k),e,fN,if_neg (by rintro ⟨_,k⟩;rw [hc] at k;cases k)]
      simp [bL,hc]
theorem p7 (l : List By) : Go.Lib.trimS (bx l) (bx [32,9])=bx (trim l):=by
  have h1 : Go.Lib.trimRightS (bx l) (bx [32,9])=bx (eW l):=by
    unfold Go.Lib.trimRightS
    rw [lC]
    have:=js l.reverse
    unfold Go.Lib.trimLeftS at this
    rw [this,lC]
    rfl
  unfold Go.Lib.trimS
  rw [h1,js,gL]
  rfl
def fi (c : By) (s : List By) : Nat:=(s.takeWhile (· != c)).length
theorem jt (c : By) (s : List By) : fi c s≤s.length:=(List.takeWhile_sublist _).length_le
theorem bR (c d : By) (r : List By) : fi c (d::r)=if d=c then 0 else fi c r+1:=by
  unfold fi
  rw [List.takeWhile_cons]
  by_cases h : d=c
  · simp [h]
  · simp [h]
theorem nU : ∀ (c : By) (s : List By),fi c s<s.length→s.getD (fi c s) 0=c
  | c,[],h=>by simp [fi] at h
  | c,d::r,h=>by
    rw [bR] at h ⊢
    by_cases hd : d=c
    · rw [if_pos hd];exact hd
    · rw [if_neg hd] at h ⊢
      exact nU c r (by simpa using h)
theorem dh : ∀ (c : By) (s : List By) {j : Nat},j<fi c s→¬ s.getD j 0=c
  | c,[],j,h=>by simp [fi] at h
  | c,d::r,j,h=>by
    rw [bR] at h
    by_cases hd : d=c
    · rw [if_pos hd] at h;omega
    · rw [if_neg hd] at h
      cases j with
      | zero=>exact hd
      | succ j=>exact dh c r (by omega)
theorem qN (c : By) (s : List By) : fi c s<s.length↔c ∈ s:=by
  induction s with
  | nil=>simp [fi]
  | cons d r ih=>
    rw [bR]
    by_cases h : d=c
    · simp [h]
    · have h' : ¬ c=d:=fun e=>h e.symm
      rw [if_neg h,List.length_cons,List.mem_cons]
      constructor
      · intro k;exact .inr (ih.1 (by omega))
      · rintro (k | k)
        · exact absurd k h'
        · have:=ih.2 k;omega
def ep (c : By) (s : List By) : Int:=if fi c s<s.length then (fi c s : Int) else -1
theorem p8 (s : List By) {i : Nat} (h : i<s.length) : (aD s)[i]! = UInt8.ofBitVec (s.getD i 0):=by
  have hs : i<(aD s).size:=by rw [aF];exact h
  rw [getElem!_pos (aD s) i hs]
  show (aD s).data[i]'_=_
  show ((bx s).toArray)[i]'_=_
  simp [bx,List.getD_eq_getElem?_getD,List.getElem?_eq_getElem h]
theorem nV (s : List By) (c : By) : firstIdx (aD s) ((c.toNat : Int)).toNat.toUInt8=ep c s:=by
  have hc : ((c.toNat : Int)).toNat.toUInt8=UInt8.ofBitVec c:=by
    rw [Int.toNat_natCast]
    apply UInt8.toBitVec_inj.1
    apply BitVec.eq_of_toNat_eq
    simp [Nat.toUInt8,UInt8.ofNat]
  rw [hc]
  unfold firstIdx
  rw [aF]
  have hp : ∀ i,i<s.length→((aD s)[i]! == UInt8.ofBitVec c)=decide (s.getD i 0=c):=by
    intro i hi
    rw [p8 s hi]
    by_cases h : s.getD i 0=c
    · rw [h];simp
    · rw [decide_eq_false h]
      refine beq_eq_false_iff_ne.2 fun k=>h ?_
      have:=congrArg UInt8.toBitVec k
      exact this
  unfold ep
  by_cases h : fi c s<s.length
  · rw [if_pos h]
    have hf : (List.range s.length).find? (fun i=>(aD s)[i]! == UInt8.ofBitVec c)=some (fi c s):=by
      rw [List.find?_range_eq_some]
      refine ⟨?_,by simpa using h,?_⟩
      · rw [hp _ h,decide_eq_true (nU c s h)]
      · intro j hj
        rw [hp j (by omega),decide_eq_false (dh c s hj)]
        rfl
    rw [hf]
  · rw [if_neg h]
    have hf : (List.range s.length).find? (fun i=>(aD s)[i]! == UInt8.ofBitVec c)=none:=by
      rw [List.find?_range_eq_none]
      intro j hj
      have:=jt c s
      rw [hp j hj,decide_eq_false (dh c s (by omega))]
      rfl
    rw [hf]
def la (c : By) (s : List By) : Nat:=(s.reverse.takeWhile fun d=>!(d == c)).length
def l5 (c : By) (s : List By) : Int:=(s.length : Int) - 1 - la c s
theorem p9 (c : By) (s : List By) (d : By) : la c (s++[d])=if d=c then 0 else la c s+1:=by
  unfold la
  rw [List.reverse_append,List.reverse_singleton,List.singleton_append,List.takeWhile_cons]
  by_cases h : d=c
  · simp [h]
  · simp [h]
theorem sF (c : By) (s : List By) : la c s≤s.length:=by
  unfold la
  have:=(List.takeWhile_sublist (fun d=>!(d == c)) (l:=s.reverse)).length_le
  simpa using this
theorem sG (c : By) (s : List By) : la c s<s.length↔c ∈ s:=by
  have h:=qN c s.reverse
  have e : fi c s.reverse=la c s:=by
    unfold fi la
    congr 1
  rw [e] at h
  simpa using h
end aq
end
section
set_option maxRecDepth 10000
open Sl aq Go.Shelf
theorem gM {w w' : World} (h : RowKit.Below w.heap.size w w') : Ext w w':=⟨h.os,h.tape,h.output,h.size,fun k hk _=>h.block k hk⟩
theorem nW : (Tryz.prog.info? 264).map (fun i=>(i.zero,i.size))=some (some (.agg (Array.replicate 256 (.bool false))),256):=by kernel_rfl
theorem kz : ∀ (j : Nat) b,(aD [32,9]).data.toList[j]?=some b→b.toNat<128:=ascii_of_all (by decide)
def ju : Ren:=⟨fun | 160=>177 | 232=>212 | 231=>211 | 227=>213 | 234=>215 | 233=>214 | 236=>217 | 235=>216 | 228=>243 | 271=>245 | 151=>244 | 197=>165 | 120=>266 | 152=>265 | 260=>196 | 137=>269 | 119=>278 | 224=>184 | 225=>198 | 217=>197 | 266=>232 | n=>n,
  fun | 9=>9 | 4=>4 | 3=>3 | 5=>5 | 117=>265 | 116=>264 | 0=>0 | 124=>268 | 21=>21 | 105=>225 | 46=>189 | 119=>280 | 139=>283 | 138=>282 | n=>n,
  fun | 3=>3 | 4=>4 | n=>n⟩
theorem nX : Lays.n160 Tryz.prog ju:={
  mixed:=by kernel_rfl
  f119:=Tryz.func278.trans (congrArg some (by kernel_rfl))
  f120:=Tryz.func266.trans (congrArg some (by kernel_rfl))
  f137:=Tryz.func269.trans (congrArg some (by kernel_rfl))
  f151:=Tryz.func244.trans (congrArg some (by kernel_rfl))
  f152:=Tryz.func265.trans (congrArg some (by kernel_rfl))
  f160:=Tryz.func177.trans (congrArg some (by kernel_rfl))
  f197:=Tryz.func165.trans (congrArg some (by kernel_rfl))
  f217:=Tryz.func197.trans (congrArg some (by kernel_rfl))
  f224:=Tryz.func184.trans (congrArg some (by kernel_rfl))
  f225:=Tryz.func198.trans (congrArg some (by kernel_rfl))
  f227:=Tryz.func213.trans (congrArg some (by kernel_rfl))
  f228:=Tryz.func243.trans (congrArg some (by kernel_rfl))
  f231:=Tryz.func211.trans (congrArg some (by kernel_rfl))
  f232:=Tryz.func212.trans (congrArg some (by kernel_rfl))
  f233:=Tryz.func214.trans (congrArg some (by kernel_rfl))
  f234:=Tryz.func215.trans (congrArg some (by kernel_rfl))
  f235:=Tryz.func216.trans (congrArg some (by kernel_rfl))
  f236:=Tryz.func217.trans (congrArg some (by kernel_rfl))
  f260:=Tryz.func196.trans (congrArg some (by kernel_rfl))
  f266:=Tryz.func232.trans (congrArg some (by kernel_rfl))
  f271:=Tryz.func245.trans (congrArg some (by kernel_rfl))
  t0:=Tryz.underlying0
  a0:=Tryz.isAgg0
  z0:=Tryz.sizeOf0
  v0:=Tryz.zeroValue0
  t3:=Tryz.underlying3
  a3:=Tryz.isAgg3
  z3:=Tryz.sizeOf3
  v3:=Tryz.zeroValue3
  t4:=Tryz.underlying4
  a4:=Tryz.isAgg4
  z4:=Tryz.sizeOf4
  v4:=Tryz.zeroValue4
  t5:=Tryz.underlying5
  a5:=Tryz.isAgg5
  z5:=Tryz.sizeOf5
  v5:=Tryz.zeroValue5
  t9:=Tryz.underlying9
  a9:=Tryz.isAgg9
  z9:=Tryz.sizeOf9
  v9:=Tryz.zeroValue9
  t21:=Tryz.underlying21
  a21:=Tryz.isAgg21
  z21:=Tryz.sizeOf21
  v21:=Tryz.zeroValue21
  t46:=Tryz.underlying189
  a46:=Tryz.isAgg189
  z46:=Tryz.sizeOf189
  v46:=Tryz.zeroValue189
  t105:=Tryz.underlying225
  a105:=Tryz.isAgg225
  z105:=Tryz.sizeOf225
  v105:=Tryz.zeroValue225
  t116:=Tryz.underlying264
  a116:=Tryz.isAgg264
  z116:=Tryz.sizeOf264
  t117:=Tryz.underlying265
  a117:=Tryz.isAgg265
  z117:=Tryz.sizeOf265
  v117:=Tryz.zeroValue265
  t119:=Tryz.underlying280
  a119:=Tryz.isAgg280
  z119:=Tryz.sizeOf280
  t124:=Tryz.underlying268
  a124:=Tryz.isAgg268
  z124:=Tryz.sizeOf268
  v124:=Tryz.zeroValue268
  t138:=Tryz.underlying282
  a138:=Tryz.isAgg282
  z138:=Tryz.sizeOf282
  v138:=Tryz.zeroValue282
  t139:=Tryz.underlying283
  a139:=Tryz.isAgg283
  z139:=Tryz.sizeOf283
  v139:=Tryz.zeroValue283
  g3:=by kernel_rfl
  g4:=by kernel_rfl }
theorem dI : aC Tryz.prog 177:=⟨_,Tryz.func177,rfl,by kernel_rfl⟩
theorem gN (s : List Bt) (w : World) (hl : s.length<9223372036854775808) : Calls Tryz.prog 177 [Z s,Z [32,9]].toArray w fun e w'=>e=.returned (Z (trim s))∧Ext w w':=
  (Any.strings_Trim_laid nX nW (aD s) (aD [32,9]) w (by rw [aF];omega) (by decide) kz).mono fun e w' ⟨h1,h2⟩=>⟨by
    rw [h1,bT,bT,p7,lB],gM h2⟩
structure iy (P : Program) (f : FuncId) : Prop where
  go : ∃ fn,P.funcs[f]?=some fn∧(fn.name == "runtime.NumGoroutine")=false∧fn.body.isNone=true∧Extern.findNext fn=none∧Extern.find fn=some Extern.BytealgIndexByte.indexByte
theorem OQ.idxs {P : Program} {n : Nat} {E : Env} {C : World→Prop} {dst : Option Tmp} {ty : TypeId} {pos : String} {aft : Array Edge} {g : Option (Nat × Bool)} {f : FuncId} {ats : Array TypeId} {x y : Operand} {s : List Bt} {c : Bt} (hf : iy P f) (hx : ev E x=some (Z s)) (hy : ev E y=some (U8 c)) :
    OQ P n E C ⟨dst,.call ⟨.value (.func f),#[x,y],ats⟩,ty,pos,aft,g⟩ (I (ep c s)):=by
  refine ⟨fun ac hk w hw=>?_⟩
  obtain ⟨fn,h1,h2,h3,h4,h5⟩:=hf.go
  have r:=run_callFunc_extern h1 h2 h3 h4 h5 #[Z s,U8 c] w
  rw [run_indexByte_string,nV] at r
  unfold Oper.quietAt
  have r' : (execOp ac.eval ⟨dst,.call ⟨.value (.func f),#[x,y],ats⟩,ty,pos,aft,g⟩).run P w=.ok (.value (I (ep c s))) w:=by
    simp only [Result.andThen] at r
    have k1:=hk.eval hx
    have k2:=hk.eval hy
    have e : (.ok (.value (I (ep c s))) w : Result Next)=(callFunc f #[Z s,U8 c]).run P w:=r.symm
    rw [e]
    simp [execOp,resolve,Sem.run_bind,Act.eval,Deferred.ofValue,invoke,k1,k2]
    simp [Act.eval] at k1 k2
    simp [k1,k2]
  rw [r']
  exact ⟨rfl,rfl⟩
theorem qa : iy Tryz.prog 232:=⟨_,Tryz.func232,rfl,rfl,by kernel_rfl,by kernel_rfl⟩
theorem gO : aC Tryz.prog 197:=⟨_,Tryz.func197,rfl,by kernel_rfl⟩
theorem l6 : aC Tryz.prog 269:=⟨_,Tryz.func269,rfl,by kernel_rfl⟩
theorem jv (s : List Bt) (c : Bt) (w : World) : Calls Tryz.prog 197 [Z s,U8 c].toArray w fun e w'=>e=.returned (I (ep c s))∧Ext w w':=by
  refine enter (n:=8) Tryz.func197 rfl rfl rfl (aa.start w []) ?_
  repeat (first | refine JL.q (by first|(apply OQ.idxs;exact qa;rfl;rfl)|(apply OQ.move;rfl)|(apply OQ.assign;rfl)) rfl ?_ | refine JC.seq ?_ | refine JC.region ?_ | refine JL.nil ?_ | refine JE.next ?_)
  exact JC.ret (JE.av rfl (RV.tmp rfl) fun w' hw=>⟨rfl,hw.aE⟩)
theorem nY (s : List Bt) (c : Bt) (w : World) : Calls Tryz.prog 269 [Z s,U8 c].toArray w fun e w'=>e=.returned (I (ep c s))∧Ext w w':=by
  refine enter (n:=8) Tryz.func269 rfl rfl rfl (aa.start w []) ?_
  repeat (first | refine JL.q (by first|(apply OQ.ah;exact gO;rfl;exact (fun w' _=>jv s c w'))|(apply OQ.move;rfl)|(apply OQ.assign;rfl)) rfl ?_ | refine JC.seq ?_ | refine JC.region ?_ | refine JL.nil ?_ | refine JE.next ?_)
  exact JC.ret (JE.av rfl (RV.tmp rfl) fun w' hw=>⟨rfl,hw.aE⟩)
theorem eX : aC Tryz.prog 167:=⟨_,Tryz.func167,rfl,by kernel_rfl⟩
theorem gP : aC Tryz.prog 220:=⟨_,Tryz.func220,rfl,by kernel_rfl⟩
theorem bD : aC Tryz.prog 180:=⟨_,Tryz.func180,rfl,by kernel_rfl⟩
theorem qc (c : Bt) : ep c [c]=0:=by simp [ep,fi]
theorem fO (s : List Bt) (c : Bt) (w : World) : Calls Tryz.prog 167 [Z s,Z [c]].toArray w fun e w'=>e=.returned (I (ep c s))∧Ext w w':=by
  refine enter (n:=143) Tryz.func167 rfl rfl rfl (aa.start w []) ?_
  cases h : decide ([c]=s)
  · repeat (first | refine JL.q (by first|(apply OQ.bu;exact Tryz.underlying9;rfl)|(apply OQ.rq (a:=1) (b:=0);rfl;rfl;rfl)|(apply OQ.gu;rfl;rfl;exact h)|(apply OQ.aH;rfl;rfl)|(apply OQ.move;rfl)|(apply OQ.assign;rfl)) rfl ?_ | refine JC.seq ?_ | refine JC.region ?_ | refine JC.block ?_ | refine JL.nil ?_ | refine JE.next ?_ | refine JL.aV rfl rfl ?_)
    refine JC.cond rfl (fun h=>by cases h) (fun _=>?_)
    repeat (first | refine JL.q (by first|(apply OQ.rq (a:=1) (b:=1);rfl;rfl;rfl)|(apply OQ.move;rfl)|(apply OQ.assign;rfl)) rfl ?_ | refine JC.seq ?_ | refine JC.region ?_ | refine JL.nil ?_ | refine JE.next ?_)
    refine JC.cond rfl (fun _=>?_) (fun h=>by cases h)
    repeat (first | refine JL.q (by first|(apply OQ.jb (l:=[c]) (i:=0);exact Tryz.underlying9;rfl;rfl;exact (Nat.zero_lt_succ 0))|(apply OQ.ah (vs:=[Z s,U8 c]);exact gO;rfl;exact (fun w' _=>jv s c w'))|(apply OQ.move;rfl)|(apply OQ.assign;rfl)) rfl ?_ | refine JC.seq ?_ | refine JC.region ?_ | refine JL.nil ?_ | refine JE.next ?_)
    refine JC.ret ?_
    repeat (first | refine JE.ag ?_ | refine JE.aJ ?_)
    exact JE.av rfl (RV.tmp rfl) fun w' hw=>⟨rfl,hw.aE⟩
  · obtain rfl:=of_decide_eq_true h
    rw [qc]
    repeat (first | refine JL.q (by first|(apply OQ.bu;exact Tryz.underlying9;rfl)|(apply OQ.rq (a:=1) (b:=0);rfl;rfl;rfl)|(apply OQ.gu;rfl;rfl;exact h)|(apply OQ.aH;rfl;rfl)|(apply OQ.move;rfl)|(apply OQ.assign;rfl)) rfl ?_ | refine JC.seq ?_ | refine JC.region ?_ | refine JC.block ?_ | refine JL.nil ?_ | refine JE.next ?_ | refine JL.aV rfl rfl ?_)
    refine JC.cond rfl (fun _=>?_) (fun h=>by cases h)
    repeat (first | refine JL.q (by (apply OQ.assign;rfl)) rfl ?_ | refine JC.seq ?_ | refine JC.region ?_ | refine JL.nil ?_ | refine JE.next ?_)
    refine JC.ret ?_
    repeat (first | refine JE.ag ?_ | refine JE.aJ ?_)
    exact JE.av rfl (RV.tmp rfl) fun w' hw=>⟨rfl,hw.aE⟩
def cutV (c : Bt) (s : List Bt) : Value:=if fi c s<s.length then .tuple #[Z (s.take (fi c s)),Z (s.drop (fi c s+1)),.bool true] else .tuple #[Z s,Z [],.bool false]
theorem nZ (s : List Bt) (c : Bt) (w : World) (hl : s.length<9223372036854775807) : Calls Tryz.prog 220 [Z s,Z [c]].toArray w fun e w'=>e=.returned (cutV c s)∧Ext w w':=by
  refine enter (n:=23) Tryz.func220 rfl rfl rfl (aa.start w []) ?_
  by_cases h : fi c s<s.length
  · have e1 : ep c s=(fi c s : Nat):=if_pos h
    have hq : ∀ w',Calls Tryz.prog 167 [Z s,Z [c]].toArray w' fun e w2=>e=.returned (N (fi c s))∧Ext w' w2:=fun w'=>by
      have:=fO s c w'
      rw [e1] at this
      exact this
    have hle : fi c s≤s.length:=by omega
    have hle1 : fi c s+1≤s.length:=h
    rw [show cutV c s=_ from if_pos h]
    generalize fi c s=k at hq hle hle1
    repeat (first | refine JL.q (by first|(apply OQ.ah (vs:=[Z s,Z [c]]);exact eX;rfl;exact (fun w' _=>hq w'))|(apply OQ.move;rfl)|(apply OQ.assign;rfl)) rfl ?_ | refine JC.seq ?_ | refine JC.region ?_ | refine JL.nil ?_ | refine JE.next ?_)
    repeat (first | refine JL.q (by (apply OQ.rZ;rfl;rfl)) rfl ?_ | refine JL.nil ?_ | refine JE.next ?_)
    refine JC.cond_true rfl (decide_eq_true (Nat.zero_le _)) ?_
    refine JC.seq (JC.quiet ey (by kernel_rfl) ?_)
    repeat (refine JQ.q (by first|(apply OQ.bI;exact Tryz.underlying9;rfl;rfl;exact hle)|(apply OQ.bu;exact Tryz.underlying9;rfl)|(apply OQ.cr (b:=1);rfl;rfl;exact (by omega))|(apply OQ.b9;exact Tryz.underlying9;rfl;rfl;exact hle1)|(apply OQ.move;rfl)|(apply OQ.assign;rfl)) rfl ?_)
    refine JQ.nil (JE.next ?_)
    refine JC.ret ?_
    repeat (refine JE.ag ?_)
    exact JE.nG rfl (RV.tmp rfl) (RV.tmp rfl) (RV.tmp rfl) fun w' hw=>⟨rfl,hw.aE⟩
  · have e1 : ep c s=-1:=if_neg h
    have hq : ∀ w',Calls Tryz.prog 167 [Z s,Z [c]].toArray w' fun e w2=>e=.returned (I (-1))∧Ext w' w2:=fun w'=>by
      have:=fO s c w'
      rw [e1] at this
      exact this
    rw [show cutV c s=_ from if_neg h]
    repeat (first | refine JL.q (by first|(apply OQ.ah (vs:=[Z s,Z [c]]);exact eX;rfl;exact (fun w' _=>hq w'))|(apply OQ.move;rfl)|(apply OQ.assign;rfl)) rfl ?_ | refine JC.seq ?_ | refine JC.region ?_ | refine JL.nil ?_ | refine JE.next ?_)
    repeat (first | refine JL.q (by (apply OQ.bK (a:=-1) (b:=0);rfl;rfl;rfl)) rfl ?_ | refine JL.nil ?_ | refine JE.next ?_)
    refine JC.cond_false rfl rfl ?_
    repeat (first | refine JL.q (by first|(apply OQ.move;rfl)|(apply OQ.assign;rfl)) rfl ?_ | refine JC.seq ?_ | refine JC.region ?_ | refine JC.skip ?_ | refine JL.nil ?_ | refine JE.next ?_)
    refine JC.ret ?_
    skip
    exact JE.nG rfl (RV.tmp rfl) (RV.tmp rfl) (RV.tmp rfl) fun w' hw=>⟨rfl,hw.aE⟩
theorem jw (s : List Bt) (c : Bt) (w : World) (hl : s.length<9223372036854775807) : Calls Tryz.prog 180 [Z s,Z [c]].toArray w fun e w'=>e=.returned (cutV c s)∧Ext w w':=by
  refine enter (n:=13) Tryz.func180 rfl rfl rfl (aa.start w []) ?_
  have hq:=fun w'=>nZ s c w' hl
  unfold cutV at hq ⊢
  by_cases h : fi c s<s.length
  · simp only [h,if_true] at hq ⊢
    repeat (first | refine JL.q (by first|(apply OQ.ah (vs:=[Z s,Z [c]]);exact gP;rfl;exact (fun w' _=>hq w'))|(apply OQ.extract;rfl;rfl)|(apply OQ.move;rfl)|(apply OQ.assign;rfl)) rfl ?_ | refine JC.seq ?_ | refine JC.region ?_ | refine JL.nil ?_ | refine JE.next ?_)
    exact JC.ret (JE.nG rfl (RV.tmp rfl) (RV.tmp rfl) (RV.tmp rfl) fun w' hw=>⟨rfl,hw.aE⟩)
  · simp only [h,if_false] at hq ⊢
    repeat (first | refine JL.q (by first|(apply OQ.ah (vs:=[Z s,Z [c]]);exact gP;rfl;exact (fun w' _=>hq w'))|(apply OQ.extract;rfl;rfl)|(apply OQ.move;rfl)|(apply OQ.assign;rfl)) rfl ?_ | refine JC.seq ?_ | refine JC.region ?_ | refine JL.nil ?_ | refine JE.next ?_)
    exact JC.ret (JE.nG rfl (RV.tmp rfl) (RV.tmp rfl) (RV.tmp rfl) fun w' hw=>⟨rfl,hw.aE⟩)
end
section
namespace Tok
open aq
def Inv (o : List By) (q : Bool) : Prop:=∀ r : List By,ax (o++r) 0 false []=ax r 0 q o
theorem Inv.q {o : List By} {c : By} (h : Inv o true) (hc : ¬ c=92) : Inv (o++[c]) (!(c == 34)):=fun r=>by
  rw [List.append_assoc,h,List.singleton_append,kr hc]
theorem Inv.n {o : List By} {c : By} (h : Inv o false) (h1 : ¬ c=40) (h2 : ¬ c=41) : Inv (o++[c]) (c == 34):=fun r=>by
  rw [List.append_assoc,h,List.singleton_append,ir h1 h2]
end Tok
end
section
namespace Tok
open aq
end Tok
end
section
namespace Tok
open aq
end Tok
end
section
namespace Tok
open aq
end Tok
end
section
namespace Tok
open aq
end Tok
end
section
namespace Tok
open aq
def aR : List aq.By→Nat→Nat→Except Nat Nat
  | [],_,_=>.error 3
  | c::r,d,k=>
    if c=40 then (if 8<d then .error 5 else aR r (d+1) (k+1))
    else if c=41 then (if d - 1=0 then .ok (k+1) else aR r (d - 1) (k+1))
    else if c=92 then
      match r with
      | []=>.error 3
      | _::r'=>aR r' d (k+2)
    else aR r d (k+1)
theorem di (r : List aq.By) (d k : Nat) : aR (40::r) d k=if 8<d then .error 5 else aR r (d+1) (k+1):=by
  rw [aR.eq_def];rfl
theorem fc (r : List aq.By) (d k : Nat) : aR (41::r) d k=if d - 1=0 then .ok (k+1) else aR r (d - 1) (k+1):=by
  rw [aR.eq_def];rfl
theorem fP (d k : Nat) : aR [92] d k=.error 3:=by rw [aR.eq_def];rfl
theorem iz (c : aq.By) (r : List aq.By) (d k : Nat) : aR (92::c::r) d k=aR r d (k+2):=by
  conv=>lhs;rw [aR.eq_def]
  rfl
theorem kC {c : aq.By} (h1 : ¬ c=40) (h2 : ¬ c=41) (h3 : ¬ c=92) (r : List aq.By) (d k : Nat) : aR (c::r) d k=aR r d (k+1):=by
  conv=>lhs;rw [aR.eq_def]
  dsimp only
  rw [if_neg h1,if_neg h2,if_neg h3]
theorem eD (d k : Nat) : aR [] d k=.error 3:=by rw [aR.eq_def]
theorem gQ : ∀ (n : Nat) (r : List aq.By) (d k : Nat) (o : List aq.By),r.length≤n→0<d→
    (∀ e,aR r d k=.error e→ax r d false o=([],e))∧(∀ m,aR r d k=.ok m→k<m∧m≤k+r.length∧ax r d false o=ax (r.drop (m - k)) 0 false (o++[32])):=by
  intro n
  induction n with
  | zero=>
    intro r d k o h hd
    obtain rfl : r=[]:=List.eq_nil_of_length_eq_zero (by omega)
    rw [eD,bX]
    refine ⟨fun e he=>?_,fun m hm=>by cases hm⟩
    cases he
    rw [decide_eq_true (by omega),Bool.true_or,if_pos rfl]
  | succ n ih=>
    intro r d k o h hd
    match r,h with
    | [],_=>
      rw [eD,bX]
      refine ⟨fun e he=>?_,fun m hm=>by cases hm⟩
      cases he
      rw [decide_eq_true (by omega),Bool.true_or,if_pos rfl]
    | c::r,h=>
      simp only [List.length_cons] at h ⊢
      have step : ∀ (r' : List aq.By) (j d' : Nat) (o' : List aq.By),r'.length≤n→0<d'→(∀ x,(c::r).drop (j+x)=r'.drop x)→j+r'.length=r.length+1→0<j→o'=o→ax (c::r) d false o=ax r' d' false o'→
          aR (c::r) d k=aR r' d' (k+j)→
          (∀ e,aR (c::r) d k=.error e→ax (c::r) d false o=([],e))∧(∀ m,aR (c::r) d k=.ok m→k<m∧m≤k+(r.length+1)∧ax (c::r) d false o=ax ((c::r).drop (m - k)) 0 false (o++[32])):=by
        intro r' j d' o' hl hd' hdr hjl hj ho hb hc
        subst ho
        obtain ⟨i1,i2⟩:=ih r' d' (k+j) o' hl hd'
        rw [hb,hc]
        refine ⟨i1,fun m hm=>?_⟩
        obtain ⟨a1,a2,a3⟩:=i2 m hm
        refine ⟨by omega,by omega,?_⟩
        rw [a3,show m - k=j+(m - (k+j)) by omega,hdr]
      by_cases h40 : c=40
      · subst h40
        by_cases h8 : 8<d
        · rw [di,if_pos h8]
          refine ⟨fun e he=>?_,fun m hm=>by cases hm⟩
          cases he
          rw [e9,if_pos (by omega)]
        · exact step r 1 (d+1) o (by omega) (by omega) (fun x=>by rw [Nat.add_comm];rfl) (by omega) (by omega) rfl (by rw [e9,if_neg (by omega)]) (by rw [di,if_neg h8])
      · by_cases h41 : c=41
        · subst h41
          by_cases h1 : d - 1=0
          · rw [fc,if_pos h1]
            refine ⟨fun e he=>by (cases he),fun m hm=>?_⟩
            cases hm
            refine ⟨by omega,by omega,?_⟩
            rw [iq,if_neg (by omega),if_pos h1,h1,show k+1 - k=1 by omega]
            rfl
          · exact step r 1 (d - 1) o (by omega) (by omega) (fun x=>by rw [Nat.add_comm];rfl) (by omega) (by omega) rfl (by rw [iq,if_neg (by omega),if_neg h1]) (by rw [fc,if_neg h1])
        · by_cases h92 : c=92
          · subst h92
            match r,h with
            | [],_=>
              rw [fP,gI hd]
              exact ⟨fun e he=>by cases he;rfl,fun m hm=>by cases hm⟩
            | c2::r,h=>
              simp only [List.length_cons] at h
              exact step r 2 d o (by omega) hd (fun x=>by rw [Nat.add_comm];rfl) (by simp only [List.length_cons];omega) (by omega) rfl (ji hd c2 r o) (iz c2 r d k)
          · exact step r 1 d o (by omega) hd (fun x=>by rw [Nat.add_comm];rfl) (by omega) (by omega) rfl (rz h92 h40 h41 (by omega) r o) (kC h40 h41 h92 r d k)
def aK : List aq.By→Nat→Nat
  | [],_=>0
  | c::r,k=>
    if c=92 then
      match r with
      | []=>0
      | _::r'=>aK r' (k+2)
    else if c=34 then k+1 else aK r (k+1)
theorem iA (k : Nat) : aK [] k=0:=by rw [aK.eq_def]
theorem lD (r : List aq.By) (k : Nat) : aK (34::r) k=k+1:=by rw [aK.eq_def];rfl
theorem jx (k : Nat) : aK [92] k=0:=by rw [aK.eq_def];rfl
theorem lE (c : aq.By) (r : List aq.By) (k : Nat) : aK (92::c::r) k=aK r (k+2):=by
  conv=>lhs;rw [aK.eq_def]
  rfl
theorem oa {c : aq.By} (h1 : ¬ c=34) (h2 : ¬ c=92) (r : List aq.By) (k : Nat) : aK (c::r) k=aK r (k+1):=by
  conv=>lhs;rw [aK.eq_def]
  dsimp only
  rw [if_neg h2,if_neg h1]
theorem gR : ∀ (n : Nat) (r : List aq.By) (k : Nat) (o : List aq.By),r.length≤n→
    (aK r k=0→ax r 0 true o=([],3))∧(aK r k≠0→k<aK r k∧aK r k≤k+r.length∧ax r 0 true o=ax (r.drop (aK r k - k)) 0 false (o++r.take (aK r k - k))):=by
  intro n
  induction n with
  | zero=>
    intro r k o h
    obtain rfl : r=[]:=List.eq_nil_of_length_eq_zero (by omega)
    rw [iA,bX]
    exact ⟨fun _=>rfl,fun h=>absurd rfl h⟩
  | succ n ih=>
    intro r k o h
    match r,h with
    | [],_=>
      rw [iA,bX]
      exact ⟨fun _=>rfl,fun h=>absurd rfl h⟩
    | c::r,h=>
      simp only [List.length_cons] at h ⊢
      by_cases h92 : c=92
      · subst h92
        match r,h with
        | [],_=>
          rw [jx,gH]
          exact ⟨fun _=>rfl,fun h=>absurd rfl h⟩
        | c2::r,h=>
          simp only [List.length_cons] at h ⊢
          obtain ⟨i1,i2⟩:=ih r (k+2) (o++[92]++[c2]) (by omega)
          rw [lE,jh]
          refine ⟨i1,fun hn=>?_⟩
          obtain ⟨a1,a2,a3⟩:=i2 hn
          refine ⟨by omega,by omega,?_⟩
          rw [a3,show aK r (k+2) - k=(aK r (k+2) - (k+2))+1+1 by omega,List.drop_succ_cons,List.drop_succ_cons,List.take_succ_cons,List.take_succ_cons]
          simp
      · by_cases h34 : c=34
        · subst h34
          rw [lD]
          refine ⟨fun h=>absurd h (by omega),fun _=>⟨by omega,by omega,?_⟩⟩
          rw [kr (by decide),show k+1 - k=0+1 by omega,List.drop_succ_cons,List.take_succ_cons]
          rfl
        · obtain ⟨i1,i2⟩:=ih r (k+1) (o++[c]) (by omega)
          rw [oa h34 h92,kr h92]
          have hb : (!(c == 34))=true:=by
            rw [Bool.not_eq_true',beq_eq_false_iff_ne]
            exact h34
          rw [hb]
          refine ⟨i1,fun hn=>?_⟩
          obtain ⟨a1,a2,a3⟩:=i2 hn
          refine ⟨by omega,by omega,?_⟩
          rw [a3,show aK r (k+1) - k=(aK r (k+1) - (k+1))+1 by omega,List.drop_succ_cons,List.take_succ_cons]
          simp
theorem l7 {r : List aq.By} {e : Nat} (o : List aq.By) (h : aR (40::r) 0 0=.error e) : ax (40::r) 0 false o=([],e):=by
  rw [di,if_neg (by omega)] at h
  rw [e9,if_neg (by omega)]
  exact (gQ r.length r 1 1 o (Nat.le_refl _) (by omega)).1 e h
theorem iB {r : List aq.By} {m : Nat} (o : List aq.By) (h : aR (40::r) 0 0=.ok m) : 0<m∧m≤r.length+1∧ax (40::r) 0 false o=ax ((40::r).drop m) 0 false (o++[32]):=by
  rw [di,if_neg (by omega)] at h
  rw [e9,if_neg (by omega)]
  obtain ⟨h1,h2,h3⟩:=(gQ r.length r 1 1 o (Nat.le_refl _) (by omega)).2 m h
  refine ⟨by omega,by omega,?_⟩
  rw [h3]
  obtain ⟨m',rfl⟩ : ∃ m',m=m'+1:=⟨m - 1,by omega⟩
  rfl
theorem l8 {r : List aq.By} (o : List aq.By) (h : aK r 1=0) : ax (34::r) 0 false o=([],3):=by
  rw [ir (by decide) (by decide)]
  exact (gR r.length r 1 _ (Nat.le_refl _)).1 h
theorem iC {r : List aq.By} (o : List aq.By) (h : aK r 1≠0) : 1<aK r 1∧aK r 1≤r.length+1∧ax (34::r) 0 false o=ax ((34::r).drop (aK r 1)) 0 false (o++(34::r).take (aK r 1)):=by
  rw [ir (by decide) (by decide)]
  obtain ⟨h1,h2,h3⟩:=(gR r.length r 1 (o++[34]) (Nat.le_refl _)).2 h
  refine ⟨h1,by omega,?_⟩
  show ax r 0 true (o++[34])=_
  rw [h3]
  generalize aK r 1=m at h1 ⊢
  obtain ⟨m',rfl⟩ : ∃ m',m=m'+1:=⟨m - 1,by omega⟩
  simp
def eE (p : aq.By→Bool) (s : List aq.By) : Nat:=(s.takeWhile p).length
theorem eG (p : aq.By→Bool) (c : aq.By) (s : List aq.By) : eE p (c::s)=if p c then eE p s+1 else 0:=by
  unfold eE
  rw [List.takeWhile_cons]
  cases p c <;> simp
theorem l9 (p : aq.By→Bool) : ∀ s : List aq.By,s.take (eE p s)=s.takeWhile p
  | []=>rfl
  | c::s=>by
    rw [eG,List.takeWhile_cons]
    cases p c with
    | true=>simp [l9 p s]
    | false=>simp
theorem jy (p : aq.By→Bool) : ∀ s : List aq.By,(eE p s=s.length)↔s.all p=true
  | []=>by simp [eE]
  | c::s=>by
    rw [eG,List.all_cons,List.length_cons]
    have ih:=jy p s
    cases p c with
    | true=>simpa using ih
    | false=>simp
theorem oc (s : List aq.By) : cI s=(decide (s≠[]) && decide (eE cq s=s.length)):=by
  unfold cI
  rw [Bool.eq_iff_iff,Bool.and_eq_true,Bool.and_eq_true,decide_eq_true_eq,decide_eq_true_eq,decide_eq_true_eq,jy,List.length_pos_iff]
  exact and_comm
end Tok
end
section
set_option maxRecDepth 10000
open Sl aq Tok
theorem fe {s : List aq.By} {i : Nat} (h : i<s.length) {n : Nat} {E : Env} {C : World→Prop} {dst : Option Tmp} {ty : TypeId} {pos : String} {aft : Array Edge} {g : Option (Nat × Bool)} {x y : Operand} (hx : ev E x=some (Z s)) (hy : ev E y=some (N i)) : OQ Tryz.prog n E C ⟨dst,.index 9 x y,ty,pos,aft,g⟩ (U8 (s.getD i 0)):=OQ.jb Tryz.underlying9 hx hy h
end
section
set_option maxRecDepth 10000
open Sl aq Tok
theorem OQ.bw {P : Program} {n : Nat} {E : Env} {C : World→Prop} {dst : Option Tmp} {t t' ty : TypeId} {pos : String} {aft : Array Edge} {g : Option (Nat × Bool)} {x y : Operand} {a b : BitVec 8} {c : Bool} (hx : ev E x=some (U8 a)) (hy : ev E y=some (U8 b)) (h : decide (a=b)=c) : OQ P n E C ⟨dst,.binOp .eql t x y t',ty,pos,aft,g⟩ (.bool c):=h ▸ OQ.s9 hx hy
theorem od : dO Tryz.prog 9=true:=by kernel_rfl
def rD (but : List aq.By) (c : aq.By) : Bool:=(decide ((33 : Int)≤(c.toNat : Int)) && decide ((c.toNat : Int)≤126)) && decide (ep c but<0)
def cD : List aq.By:=[40,41,60,62,64,44,59,92,34,91,93,61,47,58,63,46]
theorem oe : rD cD=cq:=by
  funext c
  have h : ∀ c : Fin 256,rD cD (BitVec.ofNat 8 c.val)=cq (BitVec.ofNat 8 c.val):=by decide +kernel
  simpa using h ⟨c.toNat,c.isLt⟩
theorem iD : aC Tryz.prog 248:=⟨_,Tryz.func248,rfl,by kernel_rfl⟩
theorem gv : aC Tryz.prog 268:=⟨_,Tryz.func268,rfl,by kernel_rfl⟩
theorem og : aC Tryz.prog 267:=⟨_,Tryz.func267,rfl,by kernel_rfl⟩
theorem mb : aC Tryz.prog 247:=⟨_,Tryz.func247,rfl,by kernel_rfl⟩
theorem fQ : aC Tryz.prog 222:=⟨_,Tryz.func222,rfl,by kernel_rfl⟩
theorem eg : aC Tryz.prog 209:=⟨_,Tryz.func209,rfl,by kernel_rfl⟩
theorem eY : aC Tryz.prog 210:=⟨_,Tryz.func210,rfl,by kernel_rfl⟩
theorem fR : aC Tryz.prog 176:=⟨_,Tryz.func176,rfl,by kernel_rfl⟩
set_option maxHeartbeats 4000000 in
theorem iE (but : List aq.By) (b : Nat) (c : Bt) (w : World) (hc : w.cell? ⟨b,0,none⟩=some (Z but)) : Calls Tryz.prog 268 [U8 c,Pt b 0].toArray w fun e w'=>e=.returned (.bool (rD but c))∧Ext w w':=by
  refine enter (n:=16) Tryz.func268 rfl rfl rfl (aa.start w []) ?_
  unfold rD
  cases h1 : decide ((33 : Int)≤(c.toNat : Int)) <;> cases h2 : decide ((c.toNat : Int)≤126) <;> cases h3 : decide (ep c but<0)
  all_goals (repeat (first | refine JL.q (by first|(apply OQ.bK (b:=33);rfl;rfl;exact h1)|(apply OQ.pV (b:=126);rfl;rfl;exact h2)|(apply OQ.dP;exact od;rfl;exact (block_lt_of_cell hc);exact (by simp);exact hc)|(apply OQ.ah (vs:=[Z but,U8 c]);exact l6;rfl;exact (fun w' _=>nY but c w'))|(apply OQ.rm (b:=0);rfl;rfl;exact h3)|(apply OQ.aN;rfl;rfl)|(apply OQ.aH;rfl;rfl)|(apply OQ.move;rfl)|(apply OQ.assign;rfl)) rfl ?_ | refine JC.seq ?_ | refine JC.region ?_ | refine JL.nil ?_ | refine JE.next ?_ | refine JL.aV rfl rfl ?_ | refine JL.bh rfl rfl rfl rfl ?_))
  all_goals exact JC.ret (JE.av rfl (RV.tmp rfl) fun w' hw=>⟨rfl,hw.aE⟩)
@[reducible] def sH (b : Nat) : Value:=.func (.func 268) #[] [Pt b 0].toArray
theorem jz {w0 w : World} {S : List Nat} {M : List az} {b : Nat} {but : List aq.By} {wr : Bool} (hw : aa w0 S M w) (hM : Has M b (Row 9 [Z but]) wr) : gr Tryz.prog w (sH b) (rD but):=by
  refine ⟨_,[Pt b 0],rfl,gv,fun c w' hx=>iE but b c w' ?_⟩
  obtain ⟨o,ho,hA⟩:=hw.get hM
  have hlt : b<w.heap.size:=hw.lt hM.mem
  exact cell_of ((hx.block b hlt (by simp)).trans ho) (Row.cell rfl o hA)
theorem jA (but : List aq.By) (w : World) : Calls Tryz.prog 248 [Z but].toArray w fun e w'=>∃ b,e=.returned (sH b)∧aa w [] [⟨b,Row 9 [Z but],true⟩] w':=by
  refine enter (n:=4) Tryz.func248 rfl rfl rfl (aa.start w []) ?_
  refine JC.seq (JC.region (JL.box (r:=[Z but]) rfl rfl rfl fun b _=>?_))
  repeat (first | refine JL.q (by first|(apply OQ.tX (caps:=[Pt b 0]);rfl)|(apply OQ.assign;rfl)) rfl ?_ | refine JC.seq ?_ | refine JC.region ?_ | refine JL.nil ?_ | refine JE.next ?_)
  exact JC.ret (JE.av rfl (RV.tmp rfl) fun w' hw=>⟨b,rfl,hw⟩)
set_option maxHeartbeats 4000000 in
theorem qe (s : List Bt) (fv : Value) (p : Bt→Bool) (w : World) (hF : gr Tryz.prog w fv p) (hl : s.length<9223372036854775808) : Calls Tryz.prog 267 [Z s,fv].toArray w fun e w'=>e=.returned (N (eE p s))∧Ext w w':=by
  refine enter (n:=21) Tryz.func267 rfl rfl rfl (aa.start w []) ?_
  repeat (first | refine JL.q (by first|(apply OQ.bu;exact Tryz.underlying9;rfl)|(apply OQ.move;rfl)|(apply OQ.assign;rfl)) rfl ?_ | refine JC.seq ?_ | refine JC.region ?_ | refine JC.block ?_ | refine JL.nil ?_ | refine JE.next ?_)
  refine JC.loop (fun i : Nat=>[(0,Z s),(1,fv),(7,N s.length),(8,N i)]) (fun _=>[]) (fun i=>s.length - i) (fun i=>i≤s.length∧eE p s=i+eE p (s.drop i)) 0 ⟨Nat.zero_le _,by simp⟩ (by repeat (first | exact ai.nil | refine ai.cons _ _ _ rfl ?_)) (ak.refl _) ?_
  rintro i ⟨hi,ha⟩
  repeat (first | refine JL.q (by (apply OQ.gp;rfl;rfl)) rfl ?_ | refine JC.seq ?_ | refine JC.region ?_ | refine JL.nil ?_ | refine JE.next ?_)
  refine JC.cond rfl (fun h=>?_) (fun h=>?_)
  · have hi' : i<s.length:=of_decide_eq_true h
    clear h hi
    have hd : s.drop i=s.getD i 0::s.drop (i+1):=by rw [List.drop_eq_getElem_cons hi',List.getD_eq_getElem?_getD,List.getElem?_eq_getElem hi'];rfl
    rw [hd,eG] at ha
    have i0:=fun {n : Nat} {E : Env} {C : World→Prop} {dst : Option Tmp} {ty : TypeId} {pos : String} {aft : Array Edge} {g : Option (Nat × Bool)} {x y : Operand}=>fe hi' (n:=n) (E:=E) (C:=C) (dst:=dst) (ty:=ty) (pos:=pos) (aft:=aft) (g:=g) (x:=x) (y:=y)
    generalize s.getD i 0=c at ha i0
    cases h1 : p c
    · rw [h1,if_neg (by decide),Nat.add_zero] at ha
      rw [ha]
      repeat (first | refine JL.q (by first|(apply i0;rfl;rfl)|(apply OQ.qK;exact hF;rfl;rfl;exact h1)|(apply OQ.not;rfl)|(apply OQ.move;rfl)|(apply OQ.assign;rfl)) rfl ?_ | refine JC.seq ?_ | refine JC.region ?_ | refine JC.block ?_ | refine JC.skip ?_ | refine JL.nil ?_ | refine JE.next ?_)
      refine JC.cond rfl (fun _=>?_) (fun h=>by cases h)
      repeat (first | refine JL.q (by first|(apply OQ.move;rfl)|(apply OQ.assign;rfl)) rfl ?_ | refine JC.seq ?_ | refine JC.region ?_ | refine JL.nil ?_ | refine JE.next ?_)
      refine JC.ret ?_
      repeat (first | refine JE.ag ?_ | refine JE.aJ ?_)
      exact JE.av rfl (RV.tmp rfl) fun w' hw=>⟨rfl,hw.aE⟩
    · rw [h1,if_pos rfl] at ha
      repeat (first | refine JL.q (by first|(apply i0;rfl;rfl)|(apply OQ.qK;exact hF;rfl;rfl;exact h1)|(apply OQ.not;rfl)|(apply OQ.move;rfl)|(apply OQ.assign;rfl)) rfl ?_ | refine JC.seq ?_ | refine JC.region ?_ | refine JC.block ?_ | refine JC.skip ?_ | refine JL.nil ?_ | refine JE.next ?_)
      refine JC.cond rfl (fun h=>by cases h) (fun _=>?_)
      repeat (first | refine JL.q (by first|(apply OQ.move;rfl)|(apply OQ.cr;rfl;rfl;exact (by (try simp only []);omega))) rfl ?_ | refine JC.region ?_ | refine JC.skip ?_ | refine JL.nil ?_ | refine JE.next ?_ | refine JE.an ?_)
      exact JE.again (i:=i) (i+1) ⟨hi',by omega⟩ (by omega) (by repeat (first | exact ai.nil | refine ai.cons _ _ _ rfl ?_)) (ak.refl _)
  · have hi' : ¬ i<s.length:=of_decide_eq_false h
    obtain rfl : i=s.length:=by omega
    clear h hi hi'
    rw [List.drop_length] at ha
    have : eE p s=s.length:=ha
    rw [this]
    repeat (first | refine JL.q (by first|(apply OQ.bu;exact Tryz.underlying9;rfl)|(apply OQ.move;rfl)|(apply OQ.assign;rfl)) rfl ?_ | refine JC.seq ?_ | refine JC.region ?_ | refine JC.exit ?_ | refine JL.nil ?_ | refine JE.next ?_ | refine JE.aU ?_ | refine JE.bt ?_)
    refine JC.ret ?_
    exact JE.av rfl (RV.tmp rfl) fun w' hw=>⟨rfl,hw.aE⟩
def lF (p : aq.By→Bool) (s : List aq.By) : Bool:=!decide (s=[]) && decide ((eE p s : Int)=(s.length : Int))
set_option maxHeartbeats 4000000 in
theorem oh (s : List Bt) (fv : Value) (p : Bt→Bool) (w : World) (hF : gr Tryz.prog w fv p) (hl : s.length<9223372036854775808) : Calls Tryz.prog 247 [Z s,fv].toArray w fun e w'=>e=.returned (.bool (lF p s))∧Ext w w':=by
  refine enter (n:=15) Tryz.func247 rfl rfl rfl (aa.start w []) ?_
  unfold lF
  cases h1 : decide (s=[]) <;> cases h2 : decide ((eE p s : Int)=(s.length : Int))
  all_goals (repeat (first | refine JL.q (by first|(apply OQ.ez (r:=[]);rfl;rfl;exact h1)|(apply OQ.ah (vs:=[Z s,fv]);exact og;rfl;exact (fun w' hw'=>qe s fv p w' (hF.holds hw') hl))|(apply OQ.bu;exact Tryz.underlying9;rfl)|(apply OQ.rq;rfl;rfl;exact h2)|(apply OQ.aN;rfl;rfl)|(apply OQ.aH;rfl;rfl)|(apply OQ.move;rfl)|(apply OQ.assign;rfl)) rfl ?_ | refine JC.seq ?_ | refine JC.region ?_ | refine JL.nil ?_ | refine JE.next ?_ | refine JL.aV rfl rfl ?_ | refine JL.bh rfl rfl rfl rfl ?_))
  all_goals exact JC.ret (JE.av rfl (RV.tmp rfl) fun w' hw=>⟨rfl,hw.aE⟩)
theorem mc (s : List aq.By) : lF (rD cD) s=cI s:=by
  rw [oc,oe]
  unfold lF
  congr 1
  · cases s <;> simp
  · exact decide_eq_decide.2 (by omega)
set_option maxHeartbeats 4000000 in
theorem me (s : List Bt) (w : World) (hl : s.length<9223372036854775808) : Calls Tryz.prog 222 [Z s].toArray w fun e w'=>e=.returned (.bool (cI s))∧Ext w w':=by
  refine enter (n:=6) Tryz.func222 rfl rfl rfl (aa.start w []) ?_
  rw [← mc]
  repeat (first | refine JL.q (by first|(apply OQ.move;rfl)|(apply OQ.assign;rfl)) rfl ?_ | refine JC.seq ?_ | refine JC.region ?_ | refine JL.nil ?_ | refine JE.next ?_)
  refine JL.dy (ι:=Nat) (vs:=[Z cD]) sH (fun b=>[⟨b,Row 9 [Z cD],true⟩]) iD rfl rfl (fun b e he=>by rw [List.mem_singleton.1 he]) (fun w' _=>jA cD w') fun b=>?_
  repeat (first | refine JL.q (by first|(apply OQ.ah (vs:=[Z s,sH b]);exact mb;rfl;exact (fun w' hw'=>oh s (sH b) (rD cD) w' (jz hw' .here) hl))|(apply OQ.assign;rfl)) rfl ?_ | refine JL.nil ?_ | refine JE.next ?_)
  exact JC.ret (JE.av rfl (RV.tmp rfl) fun w' hw=>⟨rfl,hw.aE⟩)
end
section
set_option maxRecDepth 10000
open Sl aq Tok
theorem fS {e : TypeId} (p : Nat × Nat) (o : List Bt) : aA e (some p) (o.map U8)=[⟨p.1,Sl.aY e 1 o.length p.2 (o.map U8),true⟩]:=by
  show [(⟨p.1,Sl.aY e 1 (o.map U8).length p.2 (o.map U8),true⟩ : az)]=_
  rw [List.length_map]
theorem JC.rE {P : Program} {n : Nat} {w0 : World} {S : List Nat} {Q : Exit→Act→World→Prop} {E : Env} {M : List az} {ι : Type} (l : Nat) (Ei : ι→Env) (Mi : ι→List az) (μ : ι→Nat) (I : ι→Prop) {c rest : Code} (hf : findLabel c l=some (.seq .skip rest))
    (pass : ∀ i,I i→JC P n w0 S (Exit.jump l (pX n w0 S Ei Mi fun j=>I j∧μ j<μ i) Q) rest (Ei i) (Mi i))
    (first : (∀ i,I i→JC P n w0 S (Exit.jump l (pX n w0 S Ei Mi I) Q) rest (Ei i) (Mi i))→JC P n w0 S (Exit.jump l (pX n w0 S Ei Mi I) Q) c E M) : JC P n w0 S Q (.scope c) E M:=
  JC.scope l Ei Mi μ I hf (first fun i hi=>(pass i hi).mono fun e a w hq=>by
    cases e with
    | goto l'=>exact ⟨hq.1,let ⟨j,h1,h2⟩:=hq.2;⟨j,h1.1,h2⟩⟩
    | _=>exact hq) fun i hi=>JC.seq (JC.skip (JE.next (pass i hi)))
def ud (o : Except Nat Nat) : Value:=match o with
  | .ok m=>.tuple #[N m,N 0]
  | .error e=>.tuple #[N 0,N e]
set_option maxHeartbeats 16000000 in
theorem jB (r : List Bt) (w : World) (hl : r.length<9223372036854770000) : Calls Tryz.prog 209 [Z (40::r)].toArray w fun e w'=>e=.returned (ud (aR (40::r) 0 0))∧Ext w w':=by
  refine enter (n:=32) Tryz.func209 rfl rfl rfl (aa.start w []) ?_
  generalize hs : 40::r=s
  have hsl : s.length<9223372036854770001:=by rw [← hs,List.length_cons];omega
  have hs0 : s.getD 0 0=40:=by rw [← hs];rfl
  clear hs
  repeat (refine JL.q (by fail) rfl ?_)
  refine JC.seq (JC.region ?_)
  repeat (refine JL.q (by (apply OQ.assign;rfl)) rfl ?_)
  refine JL.nil (JE.next ?_)
  refine JC.rE (ι:=Nat × Nat) 0 (fun i=>[(0,Z s),(4,N i.1),(5,N i.2)]) (fun _=>[]) (fun i=>s.length+1 - i.1) (fun i=>i.1≤s.length+1∧i.2≤9∧(0<i.2∨i.1=0)∧aR (s.drop i.1) i.2 i.1=aR s 0 0) rfl ?_ ?_
  · rintro ⟨k,d⟩ ⟨hk,hd,h0,hc⟩
    dsimp only at hk hd h0 hc ⊢
    repeat (first | refine JL.q (by first|(apply OQ.bu;exact Tryz.underlying9;rfl)|(apply OQ.move;rfl)|(apply OQ.rZ;rfl;rfl)) rfl ?_ | refine JC.seq ?_ | refine JC.region ?_ | refine JL.nil ?_ | refine JE.next ?_)
    refine JC.cond rfl (fun h=>?_) (fun h=>?_)
    · have hk' : s.length≤k:=of_decide_eq_true h
      rw [List.drop_eq_nil_of_le hk',eD] at hc
      rw [← hc]
      repeat (first | refine JL.q (by (apply OQ.assign;rfl)) rfl ?_ | refine JC.seq ?_ | refine JC.region ?_ | refine JL.nil ?_ | refine JE.next ?_)
      refine JC.ret (JE.ag (JE.cU ?_))
      exact JE.bz rfl (RV.tmp rfl) (RV.tmp rfl) fun w' hw=>⟨rfl,hw.aE⟩
    · have hk' : k<s.length:=by have:=of_decide_eq_false h;omega
      clear h hk
      have hdr : s.drop k=s.getD k 0::s.drop (k+1):=by rw [List.drop_eq_getElem_cons hk',List.getD_eq_getElem?_getD,List.getElem?_eq_getElem hk'];rfl
      have h0' : 0<d∨s.getD k 0=40:=h0.imp id fun h=>by rw [h];exact hs0
      clear h0
      rw [hdr] at hc
      have i0:=fun {n : Nat} {E : Env} {C : World→Prop} {dst : Option Tmp} {ty : TypeId} {pos : String} {aft : Array Edge} {g : Option (Nat × Bool)} {x y : Operand}=>fe hk' (n:=n) (E:=E) (C:=C) (dst:=dst) (ty:=ty) (pos:=pos) (aft:=aft) (g:=g) (x:=x) (y:=y)
      generalize s.getD k 0=c at hc i0 h0'
      cases h40 : decide (c=40)
      · cases h41 : decide (c=41)
        · cases h92 : decide (c=92)
          · rw [kC (of_decide_eq_false h40) (of_decide_eq_false h41) (of_decide_eq_false h92)] at hc
            have hd0 : 0<d:=h0'.resolve_right (of_decide_eq_false h40)
            repeat (first | refine JL.q (by first|(apply i0;rfl;rfl)|(apply OQ.bw (b:=40);rfl;rfl;exact h40)|(apply OQ.move;rfl)|(apply OQ.assign;rfl)) rfl ?_ | refine JC.seq ?_ | refine JC.region ?_ | refine JC.block ?_ | refine JC.skip ?_ | refine JL.nil ?_ | refine JE.next ?_)
            refine JC.cond rfl (fun h=>by cases h) (fun _=>?_)
            repeat (first | refine JL.q (by first|(apply OQ.bw (b:=41);rfl;rfl;exact h41)|(apply OQ.assign;rfl)) rfl ?_ | refine JC.seq ?_ | refine JC.region ?_ | refine JL.nil ?_ | refine JE.next ?_)
            refine JC.cond rfl (fun h=>by cases h) (fun _=>?_)
            repeat (first | refine JL.q (by first|(apply OQ.bw (b:=92);rfl;rfl;exact h92)|(apply OQ.assign;rfl)) rfl ?_ | refine JC.seq ?_ | refine JC.region ?_ | refine JL.nil ?_ | refine JE.next ?_)
            refine JC.cond rfl (fun h=>by cases h) (fun _=>?_)
            repeat (first | refine JL.q (by first|(apply OQ.move;rfl)|(apply OQ.assign;rfl)|(apply OQ.cr;rfl;rfl;exact (by (try simp only []);omega))|(apply OQ.hU;rfl;rfl)) rfl ?_ | refine JC.seq ?_ | refine JC.region ?_ | refine JC.skip ?_ | refine JL.nil ?_ | refine JE.next ?_ | refine JE.an ?_)
            refine JC.cond rfl (fun _=>JC.goto (JE.dc ?_)) (fun h=>absurd hd0 (of_decide_eq_false h))
            exact JE.c9 (k+1,d) ⟨⟨by dsimp only;omega,hd,Or.inl hd0,hc⟩,by dsimp only;omega⟩ (by repeat (first | exact ai.nil | refine ai.cons _ _ _ rfl ?_)) (ak.refl _)
          · rw [of_decide_eq_true h92] at hc
            have hd0 : 0<d:=h0'.resolve_right (of_decide_eq_false h40)
            have hc' : aR (s.drop (k+2)) d (k+2)=aR s 0 0:=by
              by_cases he : k+1<s.length
              · have hdr' : s.drop (k+1)=s.getD (k+1) 0::s.drop (k+2):=by rw [List.drop_eq_getElem_cons he,List.getD_eq_getElem?_getD,List.getElem?_eq_getElem he];rfl
                rw [hdr',iz] at hc
                exact hc
              · rw [List.drop_eq_nil_of_le (by omega),fP] at hc
                rw [List.drop_eq_nil_of_le (by omega),eD]
                exact hc
            repeat (first | refine JL.q (by first|(apply i0;rfl;rfl)|(apply OQ.bw (b:=40);rfl;rfl;exact h40)|(apply OQ.move;rfl)|(apply OQ.assign;rfl)) rfl ?_ | refine JC.seq ?_ | refine JC.region ?_ | refine JC.block ?_ | refine JC.skip ?_ | refine JL.nil ?_ | refine JE.next ?_)
            refine JC.cond rfl (fun h=>by cases h) (fun _=>?_)
            repeat (first | refine JL.q (by first|(apply OQ.bw (b:=41);rfl;rfl;exact h41)|(apply OQ.assign;rfl)) rfl ?_ | refine JC.seq ?_ | refine JC.region ?_ | refine JL.nil ?_ | refine JE.next ?_)
            refine JC.cond rfl (fun h=>by cases h) (fun _=>?_)
            repeat (first | refine JL.q (by first|(apply OQ.bw (b:=92);rfl;rfl;exact h92)|(apply OQ.assign;rfl)) rfl ?_ | refine JC.seq ?_ | refine JC.region ?_ | refine JL.nil ?_ | refine JE.next ?_)
            refine JC.cond rfl (fun _=>?_) (fun h=>by cases h)
            repeat (first | refine JL.q (by first|(apply OQ.move;rfl)|(apply OQ.assign;rfl)|(apply OQ.cr;rfl;rfl;exact (by (try simp only []);omega))|(apply OQ.hU;rfl;rfl)) rfl ?_ | refine JC.seq ?_ | refine JC.region ?_ | refine JL.nil ?_ | refine JE.next ?_ | refine JE.an ?_)
            refine JC.cond rfl (fun _=>JC.goto (JE.dc ?_)) (fun h=>absurd hd0 (of_decide_eq_false h))
            exact JE.c9 (k+2,d) ⟨⟨by dsimp only;omega,hd,Or.inl hd0,hc'⟩,by dsimp only;omega⟩ (by repeat (first | exact ai.nil | refine ai.cons _ _ _ rfl ?_)) (ak.refl _)
        · have h40' : ¬ c=40:=of_decide_eq_false h40
          rw [of_decide_eq_true h41,fc] at hc
          have hd0 : 0<d:=h0'.resolve_right h40'
          repeat (first | refine JL.q (by first|(apply i0;rfl;rfl)|(apply OQ.bw (b:=40);rfl;rfl;exact h40)|(apply OQ.move;rfl)|(apply OQ.assign;rfl)) rfl ?_ | refine JC.seq ?_ | refine JC.region ?_ | refine JC.block ?_ | refine JC.skip ?_ | refine JL.nil ?_ | refine JE.next ?_)
          refine JC.cond rfl (fun h=>by cases h) (fun _=>?_)
          repeat (first | refine JL.q (by first|(apply OQ.bw (b:=41);rfl;rfl;exact h41)|(apply OQ.assign;rfl)) rfl ?_ | refine JC.seq ?_ | refine JC.region ?_ | refine JL.nil ?_ | refine JE.next ?_)
          refine JC.cond rfl (fun _=>?_) (fun h=>by cases h)
          repeat (first | refine JL.q (by first|(apply OQ.move;rfl)|(apply OQ.assign;rfl)|(apply OQ.cr;rfl;rfl;exact (by (try simp only []);omega))|(apply OQ.hO;rfl;rfl;exact (by (try simp only []);omega);exact (by (try simp only []);omega))|(apply OQ.hU;rfl;rfl)) rfl ?_ | refine JC.seq ?_ | refine JC.region ?_ | refine JL.nil ?_ | refine JE.next ?_ | refine JE.an ?_)
          refine JC.cond rfl (fun h=>?_) (fun h=>?_)
          · have hd1 : 0<d - 1:=of_decide_eq_true h
            rw [if_neg (by omega)] at hc
            refine JC.goto (JE.dc ?_)
            exact JE.c9 (k+1,d - 1) ⟨⟨by dsimp only;omega,by dsimp only;omega,Or.inl hd1,hc⟩,by dsimp only;omega⟩ (by repeat (first | exact ai.nil | refine ai.cons _ _ _ rfl ?_)) (ak.refl _)
          · have hd1 : ¬ 0<d - 1:=of_decide_eq_false h
            rw [if_pos (by omega)] at hc
            rw [← hc]
            repeat (first | refine JL.q (by first|(apply OQ.move;rfl)|(apply OQ.assign;rfl)) rfl ?_ | refine JC.seq ?_ | refine JC.region ?_ | refine JC.skip ?_ | refine JL.nil ?_ | refine JE.next ?_)
            refine JC.ret (JE.cU ?_)
            exact JE.bz rfl (RV.tmp rfl) (RV.tmp rfl) fun w' hw=>⟨rfl,hw.aE⟩
      · rw [of_decide_eq_true h40,di] at hc
        clear h0'
        by_cases h8 : 8<d
        · rw [if_pos h8] at hc
          rw [← hc]
          repeat (first | refine JL.q (by first|(apply i0;rfl;rfl)|(apply OQ.bw (b:=40);rfl;rfl;exact h40)|(apply OQ.move;rfl)|(apply OQ.assign;rfl)) rfl ?_ | refine JC.seq ?_ | refine JC.region ?_ | refine JC.block ?_ | refine JC.skip ?_ | refine JL.nil ?_ | refine JE.next ?_)
          refine JC.cond rfl (fun _=>?_) (fun h=>by cases h)
          repeat (first | refine JL.q (by first|(apply OQ.move;rfl)|(apply OQ.hU;rfl;rfl)) rfl ?_ | refine JC.seq ?_ | refine JC.region ?_ | refine JL.nil ?_ | refine JE.next ?_)
          refine JC.cond rfl (fun _=>?_) (fun h=>absurd h8 (of_decide_eq_false h))
          repeat (first | refine JL.q (by (apply OQ.assign;rfl)) rfl ?_ | refine JC.seq ?_ | refine JC.region ?_ | refine JL.nil ?_ | refine JE.next ?_)
          refine JC.ret ?_
          repeat (first | refine JE.ag ?_ | refine JE.aJ ?_)
          refine JE.cU ?_
          exact JE.bz rfl (RV.tmp rfl) (RV.tmp rfl) fun w' hw=>⟨rfl,hw.aE⟩
        · rw [if_neg h8] at hc
          repeat (first | refine JL.q (by first|(apply i0;rfl;rfl)|(apply OQ.bw (b:=40);rfl;rfl;exact h40)|(apply OQ.move;rfl)|(apply OQ.assign;rfl)) rfl ?_ | refine JC.seq ?_ | refine JC.region ?_ | refine JC.block ?_ | refine JC.skip ?_ | refine JL.nil ?_ | refine JE.next ?_)
          refine JC.cond rfl (fun _=>?_) (fun h=>by cases h)
          repeat (first | refine JL.q (by first|(apply OQ.move;rfl)|(apply OQ.hU;rfl;rfl)) rfl ?_ | refine JC.seq ?_ | refine JC.region ?_ | refine JL.nil ?_ | refine JE.next ?_)
          refine JC.cond rfl (fun h=>absurd (of_decide_eq_true h) h8) (fun _=>?_)
          repeat (first | refine JL.q (by first|(apply OQ.move;rfl)|(apply OQ.assign;rfl)|(apply OQ.cr;rfl;rfl;exact (by (try simp only []);omega))|(apply OQ.hU;rfl;rfl)) rfl ?_ | refine JC.seq ?_ | refine JC.region ?_ | refine JC.skip ?_ | refine JL.nil ?_ | refine JE.next ?_ | refine JE.an ?_)
          refine JC.cond rfl (fun _=>JC.goto (JE.dc ?_)) (fun h=>absurd (Nat.succ_pos d) (of_decide_eq_false h))
          exact JE.c9 (k+1,d+1) ⟨⟨by dsimp only;omega,by dsimp only;omega,Or.inl (Nat.succ_pos d),hc⟩,by dsimp only;omega⟩ (by repeat (first | exact ai.nil | refine ai.cons _ _ _ rfl ?_)) (ak.refl _)
  · intro hp
    refine JC.seq (JC.region ?_)
    repeat (refine JL.q (by (apply OQ.assign;rfl)) rfl ?_)
    refine JL.nil (JE.next ?_)
    refine JC.seq (JC.region ?_)
    repeat (refine JL.q (by (apply OQ.assign;rfl)) rfl ?_)
    refine JL.nil (JE.next ?_)
    refine JC.seq (JC.label (JE.next ?_))
    exact (hp (0,0) ⟨Nat.zero_le _,Nat.zero_le _,Or.inr rfl,rfl⟩).weak (by repeat (first | exact ai.nil | refine ai.cons _ _ _ rfl ?_)) (ak.refl _)
set_option maxHeartbeats 16000000 in
theorem kD (c0 : Bt) (r : List Bt) (w : World) (hl : r.length<9223372036854770000) : Calls Tryz.prog 210 [Z (c0::r)].toArray w fun e w'=>e=.returned (N (aK r 1))∧Ext w w':=by
  refine enter (n:=21) Tryz.func210 rfl rfl rfl (aa.start w []) ?_
  rw [show aK r 1=aK ((c0::r).drop 1) 1 from rfl]
  generalize hs : c0::r=s
  have hsl : s.length<9223372036854770001:=by rw [← hs,List.length_cons];omega
  clear hs
  repeat (first | refine JL.q (by (apply OQ.assign;rfl)) rfl ?_ | refine JC.seq ?_ | refine JC.region ?_ | refine JC.block ?_ | refine JL.nil ?_ | refine JE.next ?_)
  refine JC.loop (fun k : Nat=>[(0,Z s),(3,N k)]) (fun _=>[]) (fun k=>s.length+1 - k) (fun k=>k≤s.length+1∧aK (s.drop k) k=aK (s.drop 1) 1) 1 ⟨by omega,rfl⟩ (by repeat (first | exact ai.nil | refine ai.cons _ _ _ rfl ?_)) (ak.refl _) ?_
  rintro k ⟨hk,hc⟩
  repeat (first | refine JL.q (by first|(apply OQ.bu;exact Tryz.underlying9;rfl)|(apply OQ.move;rfl)|(apply OQ.gp;rfl;rfl)) rfl ?_ | refine JC.seq ?_ | refine JC.region ?_ | refine JL.nil ?_ | refine JE.next ?_)
  refine JC.cond rfl (fun h=>?_) (fun h=>?_)
  · have hk' : k<s.length:=of_decide_eq_true h
    clear h hk
    have hdr : s.drop k=s.getD k 0::s.drop (k+1):=by rw [List.drop_eq_getElem_cons hk',List.getD_eq_getElem?_getD,List.getElem?_eq_getElem hk'];rfl
    rw [hdr] at hc
    have i0:=fun {n : Nat} {E : Env} {C : World→Prop} {dst : Option Tmp} {ty : TypeId} {pos : String} {aft : Array Edge} {g : Option (Nat × Bool)} {x y : Operand}=>fe hk' (n:=n) (E:=E) (C:=C) (dst:=dst) (ty:=ty) (pos:=pos) (aft:=aft) (g:=g) (x:=x) (y:=y)
    generalize s.getD k 0=c at hc i0
    cases h92 : decide (c=92)
    · cases h34 : decide (c=34)
      · rw [oa (of_decide_eq_false h34) (of_decide_eq_false h92)] at hc
        repeat (first | refine JL.q (by first|(apply i0;rfl;rfl)|(apply OQ.bw (b:=92);rfl;rfl;exact h92)|(apply OQ.move;rfl)|(apply OQ.assign;rfl)) rfl ?_ | refine JC.seq ?_ | refine JC.region ?_ | refine JC.block ?_ | refine JC.skip ?_ | refine JL.nil ?_ | refine JE.next ?_)
        refine JC.cond rfl (fun h=>by cases h) (fun _=>?_)
        repeat (first | refine JL.q (by first|(apply OQ.bw (b:=34);rfl;rfl;exact h34)|(apply OQ.assign;rfl)) rfl ?_ | refine JC.seq ?_ | refine JC.region ?_ | refine JL.nil ?_ | refine JE.next ?_)
        refine JC.cond rfl (fun h=>by cases h) (fun _=>?_)
        repeat (first | refine JL.q (by first|(apply OQ.move;rfl)|(apply OQ.assign;rfl)|(apply OQ.cr;rfl;rfl;exact (by (try simp only []);omega))) rfl ?_ | refine JC.region ?_ | refine JC.skip ?_ | refine JL.nil ?_ | refine JE.next ?_ | refine JE.an ?_)
        exact JE.again (i:=k) (k+1) ⟨by omega,hc⟩ (by omega) (by repeat (first | exact ai.nil | refine ai.cons _ _ _ rfl ?_)) (ak.refl _)
      · rw [of_decide_eq_true h34,lD] at hc
        rw [← hc]
        repeat (first | refine JL.q (by first|(apply i0;rfl;rfl)|(apply OQ.bw (b:=92);rfl;rfl;exact h92)|(apply OQ.move;rfl)|(apply OQ.assign;rfl)) rfl ?_ | refine JC.seq ?_ | refine JC.region ?_ | refine JC.block ?_ | refine JC.skip ?_ | refine JL.nil ?_ | refine JE.next ?_)
        refine JC.cond rfl (fun h=>by cases h) (fun _=>?_)
        repeat (first | refine JL.q (by first|(apply OQ.bw (b:=34);rfl;rfl;exact h34)|(apply OQ.assign;rfl)) rfl ?_ | refine JC.seq ?_ | refine JC.region ?_ | refine JL.nil ?_ | refine JE.next ?_)
        refine JC.cond rfl (fun _=>?_) (fun h=>by cases h)
        repeat (first | refine JL.q (by first|(apply OQ.move;rfl)|(apply OQ.assign;rfl)|(apply OQ.cr;rfl;rfl;exact (by (try simp only []);omega))) rfl ?_ | refine JC.seq ?_ | refine JC.region ?_ | refine JL.nil ?_ | refine JE.next ?_)
        refine JC.ret ?_
        repeat (first | refine JE.ag ?_ | refine JE.aJ ?_)
        exact JE.av rfl (RV.tmp rfl) fun w' hw=>⟨rfl,hw.aE⟩
    · rw [of_decide_eq_true h92] at hc
      have hc' : aK (s.drop (k+2)) (k+2)=aK (s.drop 1) 1:=by
        by_cases he : k+1<s.length
        · have hdr' : s.drop (k+1)=s.getD (k+1) 0::s.drop (k+2):=by rw [List.drop_eq_getElem_cons he,List.getD_eq_getElem?_getD,List.getElem?_eq_getElem he];rfl
          rw [hdr',lE] at hc
          exact hc
        · rw [List.drop_eq_nil_of_le (by omega),jx] at hc
          rw [List.drop_eq_nil_of_le (by omega),iA]
          exact hc
      repeat (first | refine JL.q (by first|(apply i0;rfl;rfl)|(apply OQ.bw (b:=92);rfl;rfl;exact h92)|(apply OQ.move;rfl)|(apply OQ.assign;rfl)) rfl ?_ | refine JC.seq ?_ | refine JC.region ?_ | refine JC.block ?_ | refine JC.skip ?_ | refine JL.nil ?_ | refine JE.next ?_)
      refine JC.cond rfl (fun _=>?_) (fun h=>by cases h)
      repeat (first | refine JL.q (by first|(apply OQ.move;rfl)|(apply OQ.assign;rfl)|(apply OQ.cr;rfl;rfl;exact (by (try simp only []);omega))) rfl ?_ | refine JC.region ?_ | refine JL.nil ?_ | refine JE.next ?_ | refine JE.an ?_)
      exact JE.again (i:=k) (k+2) ⟨by omega,hc'⟩ (by omega) (by repeat (first | exact ai.nil | refine ai.cons _ _ _ rfl ?_)) (ak.refl _)
  · have hk' : s.length≤k:=by have:=of_decide_eq_false h;omega
    rw [List.drop_eq_nil_of_le hk',iA] at hc
    rw [← hc]
    repeat (first | refine JL.q (by (apply OQ.assign;rfl)) rfl ?_ | refine JC.seq ?_ | refine JC.region ?_ | refine JC.exit ?_ | refine JL.nil ?_ | refine JE.next ?_ | refine JE.aU ?_ | refine JE.bt ?_)
    refine JC.ret ?_
    exact JE.av rfl (RV.tmp rfl) fun w' hw=>⟨rfl,hw.aE⟩
def rF : Nat→List (Nat × Nat)
  | 2=>[(0,25),(1,26)]
  | 5=>[(3,28),(4,29)]
  | 6=>[(2,27)]
  | 7=>[(5,30)]
  | _=>[]
def sI : Nat→List Nat
  | 2=>[8,1]
  | _=>[]
def sJ : Nat→List Nat
  | 2=>[8]
  | _=>[]
def sK : Nat→Option Nat
  | 6=>some 2
  | _=>none
def om : Nat→List (Nat × Nat)
  | 3=>[(1,40),(2,41)]
  | 4=>[(0,39),(3,42)]
  | 7=>[(5,44),(6,45)]
  | 8=>[(4,43)]
  | 9=>[(7,46)]
  | _=>[]
def qO : Nat→List Nat
  | 4=>[10]
  | _=>[]
def qP : Nat→List Nat
  | 4=>[10]
  | _=>[]
def qQ : Nat→Option Nat
  | 8=>some 4
  | _=>none
theorem oo : ∀ (n : Nat) (r : List aq.By) (d k e : Nat),r.length≤n→aR r d k=.error e→decide ((e : Int)=0)=false:=by
  intro n
  induction n with
  | zero=>
    intro r d k e h hc
    obtain rfl : r=[]:=List.eq_nil_of_length_eq_zero (by omega)
    rw [eD] at hc
    cases hc
    rfl
  | succ n ih=>
    intro r d k e h hc
    match r,h with
    | [],_=>
      rw [eD] at hc
      cases hc
      rfl
    | c::r,h=>
      simp only [List.length_cons] at h
      by_cases h40 : c=40
      · rw [h40,di] at hc
        split at hc
        · cases hc
          rfl
        · exact ih _ _ _ _ (by omega) hc
      by_cases h41 : c=41
      · rw [h41,fc] at hc
        split at hc
        · cases hc
        · exact ih _ _ _ _ (by omega) hc
      by_cases h92 : c=92
      · rw [h92] at hc
        match r,h with
        | [],_=>
          rw [fP] at hc
          cases hc
          rfl
        | c2::r,h=>
          rw [iz] at hc
          simp only [List.length_cons] at h
          exact ih _ _ _ _ (by omega) hc
      · rw [kC h40 h41 h92] at hc
        exact ih _ _ _ _ (by omega) hc
structure rG where
  r : List Bt
  o : List Bt
  b : Nat
  cap : Nat
set_option maxHeartbeats 32000000 in
theorem mg (s : List Bt) (w : World) (hl : s.length<140000000) : Calls Tryz.prog 176 [Z s].toArray w fun e w'=>e=.returned (.tuple #[Z (dz s).1,N (dz s).2])∧Ext w w':=by
  refine enter (n:=49) Tryz.func176 rfl rfl rfl (aa.start w []) ?_
  repeat (first | refine JL.q (by first|(apply OQ.bu;exact Tryz.underlying9;rfl)|(apply OQ.move;rfl)|(apply OQ.assign;rfl)) rfl ?_ | refine JC.seq ?_ | refine JC.region ?_ | refine JL.nil ?_ | refine JE.next ?_)
  refine JL.sj (c:=s.length) Tryz.underlying22 fB rfl rfl (by omega) rfl fun b0 _=>?_
  repeat (first | refine JL.q (by (apply OQ.assign;rfl)) rfl ?_ | refine JC.seq ?_ | refine JC.block ?_ | refine JL.nil ?_ | refine JE.next ?_)
  refine JC.loop (fun z : rG=>[(0,Z z.r),(4,.slice (some ⟨z.b,0,none⟩) z.o.length z.cap)]) (fun z=>[⟨z.b,Sl.aY 5 1 z.o.length z.cap (z.o.map U8),true⟩]) (fun z=>z.r.length) (fun z=>z.r.length+z.o.length≤s.length∧dz s=ax z.r 0 false z.o) ⟨s,[],b0,s.length⟩ ⟨Nat.le_refl _,rfl⟩ (by repeat (first | exact ai.nil | refine ai.cons _ _ _ rfl ?_)) (ak.refl _) ?_
  rintro ⟨r,o,b,cap⟩ ⟨hlen,hc⟩
  dsimp only at hlen hc ⊢
  cases hr0 : decide (r=[])
  · obtain ⟨c,r,rfl⟩ : ∃ c r',r=c::r':=by
      cases r with
      | nil=>cases hr0
      | cons c r=>exact ⟨c,r,rfl⟩
    have hrl : r.length+1+o.length≤s.length:=by rw [List.length_cons] at hlen;exact hlen
    have i0:=fun {n : Nat} {E : Env} {C : World→Prop} {dst : Option Tmp} {ty : TypeId} {pos : String} {aft : Array Edge} {g : Option (Nat × Bool)} {x y : Operand}=>fe (s:=c::r) (i:=0) (Nat.succ_pos _) (n:=n) (E:=E) (C:=C) (dst:=dst) (ty:=ty) (pos:=pos) (aft:=aft) (g:=g) (x:=x) (y:=y)
    rw [List.getD_cons_zero] at i0
    repeat (first | refine JL.q (by first|(apply OQ.ez (r:=[]);rfl;rfl;exact hr0)|(apply OQ.move;rfl)) rfl ?_ | refine JC.seq ?_ | refine JC.region ?_ | refine JL.nil ?_ | refine JE.next ?_)
    refine JC.cond rfl (fun _=>?_) (fun h=>by cases h)
    cases h40 : decide (c=40)
    · cases h41 : decide (c=41)
      · cases h34 : decide (c=34)
        · rw [ir (of_decide_eq_false h40) (of_decide_eq_false h41),show (c == 34)=false from beq_eq_false_iff_ne.2 (of_decide_eq_false h34)] at hc
          replace hc : dz s=ax ((c::r).drop 1) 0 false (o++(c::r).take 1):=hc
          repeat (first | refine JL.q (by first|(apply i0;rfl;rfl)|(apply OQ.bw (b:=40);rfl;rfl;exact h40)|(apply OQ.move;rfl)|(apply OQ.assign;rfl)) rfl ?_ | refine JC.seq ?_ | refine JC.region ?_ | refine JC.block ?_ | refine JC.skip ?_ | refine JL.nil ?_ | refine JE.next ?_)
          refine JC.cond rfl (fun h=>by cases h) (fun _=>?_)
          repeat (first | refine JL.q (by first|(apply OQ.bw (b:=41);rfl;rfl;exact h41)|(apply OQ.assign;rfl)) rfl ?_ | refine JC.seq ?_ | refine JC.region ?_ | refine JL.nil ?_ | refine JE.next ?_)
          refine JC.cond rfl (fun h=>by cases h) (fun _=>?_)
          repeat (first | refine JL.q (by first|(apply OQ.bw (b:=34);rfl;rfl;exact h34)|(apply OQ.assign;rfl)) rfl ?_ | refine JC.seq ?_ | refine JC.region ?_ | refine JL.nil ?_ | refine JE.next ?_)
          refine JC.cond rfl (fun h=>by cases h) (fun _=>?_)
          repeat (first | refine JC.skip ?_ | refine JE.next ?_ | refine JE.an ?_)
          have hml : ((c::r).take 1).length=1:=by rw [List.length_take,List.length_cons];omega
          have hdl : ((c::r).drop 1).length=r.length+1 - 1:=by rw [List.length_drop,List.length_cons]
          have hne : (c::r).take 1≠[]:=fun h=>by rw [h] at hml;rw [List.length_nil] at hml;omega
          have hlm : 1≤(c::r).length:=by rw [List.length_cons];omega
          let vs : Nat→X→Value:=fun j x=>match j with
            | 0=>.slice (some ⟨b,0,none⟩) o.length cap
            | 1=>Z (c::r)
            | 2=>N 1
            | 3=>Z ((c::r).take 1)
            | 5=>Z (c::r)
            | 6=>N 1
            | 7=>Z ((c::r).drop 1)
            | 9=>Z ((c::r).drop 1)
            | _=>.slice (some ⟨x.1,0,none⟩) (o++(c::r).take 1).length x.2
          let Ms : Nat→X→List az:=fun j x=>match j with
            | 4=>[⟨x.1,Sl.aY 5 1 (o++(c::r).take 1).length x.2 ((o++(c::r).take 1).map U8),true⟩]
            | 10=>[⟨b,Sl.aY 5 1 o.length cap (o.map U8),true⟩]
            | _=>[]
          refine JC.kY (g:=⟨[(5,N 1)],11,vs,Ms,om,qO,qP,qQ,fun j=>match j with | 0=>[(4,.slice (some ⟨b,0,none⟩) o.length cap)] | 1=>[(0,Z (c::r))] | 5=>[(0,Z (c::r))] | _=>[]⟩) [(8,4),(9,0)] [4] ey (by repeat (first | exact ai.nil | refine ai.cons _ _ _ rfl ?_)) (fun j _=>match j with | 0=>(by repeat (first | exact ai.nil | refine ai.cons _ _ _ rfl ?_)) | 1=>(by repeat (first | exact ai.nil | refine ai.cons _ _ _ rfl ?_)) | 2=>.nil | 3=>.nil | 4=>.nil | 5=>(by repeat (first | exact ai.nil | refine ai.cons _ _ _ rfl ?_)) | _+6=>.nil) (ak.refl _) (by kernel_rfl) (by kernel_rfl) (by kernel_rfl) ?_ ?_
          · refine ⟨?_,?_,?_,?_,?_,?_,?_,?_,?_,?_,trivial⟩
            iterate 4 (focus (intro x EF MF Q kk;(try refine JL.aV rfl rfl ?_);exact JL.q (by first|(apply OQ.bI;exact Tryz.underlying9;rfl;rfl;exact hlm)|(apply OQ.move;rfl)) rfl (JL.nil (kk default nofun))))
            · intro x EF MF Q kk
              refine JL.cR (M':=aA 5 (some (b,cap)) (o.map U8)++MF) ?_ (by show ak ([⟨b,Sl.aY 5 1 (o.map U8).length cap (o.map U8),true⟩]++MF) _;rw [List.length_map];exact ak.refl _)
              refine JL.c8 (r:=(c::r).take 1) (xs:=o.map U8) (M:=MF) (some (b,cap)) Tryz.underlying22 Tryz.underlying9 fB (fun h=>by cases h) (by rw [List.length_map];rfl) rfl hne (by rw [List.length_map];omega) rfl fun p=>JL.nil ?_
              rw [← List.map_append,List.length_map,fS]
              exact kk p (fun k h=>by cases h)
            iterate 3 (focus (intro x EF MF Q kk;(try refine JL.aV rfl rfl ?_);exact JL.q (by first|(apply OQ.b9;exact Tryz.underlying9;rfl;rfl;exact hlm)|(apply OQ.move;rfl)) rfl (JL.nil (kk default nofun))))
            · intro x EF MF Q kk
              exact JL.q (OQ.assign rfl) rfl (JL.nil (kk (x 4) (fun k h=>by cases h;rfl)))
            · (intro x EF MF Q kk;(try refine JL.aV rfl rfl ?_);exact JL.q (by (apply OQ.assign;rfl)) rfl (JL.nil (kk default nofun)))
          · intro x hx'
            have h84:=hx' 8 4 (by decide) rfl
            show JE _ _ _ _ _ [(4,.slice (some ⟨(x 8).1,0,none⟩) (o++(c::r).take 1).length (x 8).2),(0,Z ((c::r).drop 1)),(5,N 1)] [⟨(x 4).1,Sl.aY 5 1 (o++(c::r).take 1).length (x 4).2 ((o++(c::r).take 1).map U8),true⟩]
            rw [h84]
            obtain ⟨b',cap'⟩:=x 4
            clear hx' h84 x vs Ms
            dsimp only
            repeat (refine JE.an ?_)
            exact JE.again (i:=rG.mk (c::r) o b cap) (rG.mk ((c::r).drop 1) (o++(c::r).take 1) b' cap') ⟨by dsimp only;rw [List.length_append];omega,hc⟩ (by dsimp only;rw [List.length_cons];omega) (by repeat (first | exact ai.nil | refine ai.cons _ _ _ rfl ?_)) (ak.refl _)
        · obtain rfl : c=34:=of_decide_eq_true h34
          have cQ:=fun w'=>kD 34 r w' (by omega)
          cases hq : decide ((aK r 1 : Int)=0)
          · have hqn : aK r 1≠0:=by have:=of_decide_eq_false hq;omega
            obtain ⟨m0,m1,hb⟩:=iC o hqn
            rw [hb] at hc
            generalize aK r 1=m at cQ hq m0 m1 hc
            clear hb hqn
            repeat (first | refine JL.q (by first|(apply i0;rfl;rfl)|(apply OQ.bw (b:=40);rfl;rfl;exact h40)|(apply OQ.move;rfl)|(apply OQ.assign;rfl)) rfl ?_ | refine JC.seq ?_ | refine JC.region ?_ | refine JC.block ?_ | refine JC.skip ?_ | refine JL.nil ?_ | refine JE.next ?_)
            refine JC.cond rfl (fun h=>by cases h) (fun _=>?_)
            repeat (first | refine JL.q (by first|(apply OQ.bw (b:=41);rfl;rfl;exact h41)|(apply OQ.assign;rfl)) rfl ?_ | refine JC.seq ?_ | refine JC.region ?_ | refine JL.nil ?_ | refine JE.next ?_)
            refine JC.cond rfl (fun h=>by cases h) (fun _=>?_)
            repeat (first | refine JL.q (by first|(apply OQ.bw (b:=34);rfl;rfl;exact h34)|(apply OQ.assign;rfl)) rfl ?_ | refine JC.seq ?_ | refine JC.region ?_ | refine JL.nil ?_ | refine JE.next ?_)
            refine JC.cond rfl (fun _=>?_) (fun h=>by cases h)
            repeat (first | refine JL.q (by first|(apply OQ.ah (vs:=[Z (34::r)]);exact eY;rfl;exact (fun w' _=>cQ w'))|(apply OQ.rq (b:=0);rfl;rfl;exact hq)|(apply OQ.move;rfl)|(apply OQ.assign;rfl)) rfl ?_ | refine JC.seq ?_ | refine JC.region ?_ | refine JL.nil ?_ | refine JE.next ?_)
            refine JC.cond rfl (fun h=>by cases h) (fun _=>?_)
            repeat (first | refine JC.skip ?_ | refine JE.next ?_ | refine JE.an ?_)
            have hml : ((34::r).take m).length=m:=by rw [List.length_take,List.length_cons];omega
            have hdl : ((34::r).drop m).length=r.length+1 - m:=by rw [List.length_drop,List.length_cons]
            have hne : (34::r).take m≠[]:=fun h=>by rw [h] at hml;rw [List.length_nil] at hml;omega
            have hlm : m≤(34::r).length:=by rw [List.length_cons];omega
            let vs : Nat→X→Value:=fun j x=>match j with
              | 0=>.slice (some ⟨b,0,none⟩) o.length cap
              | 1=>Z (34::r)
              | 2=>N m
              | 3=>Z ((34::r).take m)
              | 5=>Z (34::r)
              | 6=>N m
              | 7=>Z ((34::r).drop m)
              | 9=>Z ((34::r).drop m)
              | _=>.slice (some ⟨x.1,0,none⟩) (o++(34::r).take m).length x.2
            let Ms : Nat→X→List az:=fun j x=>match j with
              | 4=>[⟨x.1,Sl.aY 5 1 (o++(34::r).take m).length x.2 ((o++(34::r).take m).map U8),true⟩]
              | 10=>[⟨b,Sl.aY 5 1 o.length cap (o.map U8),true⟩]
              | _=>[]
            refine JC.kY (g:=⟨[(5,N m)],11,vs,Ms,om,qO,qP,qQ,fun j=>match j with | 0=>[(4,.slice (some ⟨b,0,none⟩) o.length cap)] | 1=>[(0,Z (34::r))] | 5=>[(0,Z (34::r))] | _=>[]⟩) [(8,4),(9,0)] [4] ey (by repeat (first | exact ai.nil | refine ai.cons _ _ _ rfl ?_)) (fun j _=>match j with | 0=>(by repeat (first | exact ai.nil | refine ai.cons _ _ _ rfl ?_)) | 1=>(by repeat (first | exact ai.nil | refine ai.cons _ _ _ rfl ?_)) | 2=>.nil | 3=>.nil | 4=>.nil | 5=>(by repeat (first | exact ai.nil | refine ai.cons _ _ _ rfl ?_)) | _+6=>.nil) (ak.refl _) (by kernel_rfl) (by kernel_rfl) (by kernel_rfl) ?_ ?_
            · refine ⟨?_,?_,?_,?_,?_,?_,?_,?_,?_,?_,trivial⟩
              iterate 4 (focus (intro x EF MF Q kk;(try refine JL.aV rfl rfl ?_);exact JL.q (by first|(apply OQ.bI;exact Tryz.underlying9;rfl;rfl;exact hlm)|(apply OQ.move;rfl)) rfl (JL.nil (kk default nofun))))
              · intro x EF MF Q kk
                refine JL.cR (M':=aA 5 (some (b,cap)) (o.map U8)++MF) ?_ (by show ak ([⟨b,Sl.aY 5 1 (o.map U8).length cap (o.map U8),true⟩]++MF) _;rw [List.length_map];exact ak.refl _)
                refine JL.c8 (r:=(34::r).take m) (xs:=o.map U8) (M:=MF) (some (b,cap)) Tryz.underlying22 Tryz.underlying9 fB (fun h=>by cases h) (by rw [List.length_map];rfl) rfl hne (by rw [List.length_map];omega) rfl fun p=>JL.nil ?_
                rw [← List.map_append,List.length_map,fS]
                exact kk p (fun k h=>by cases h)
              iterate 3 (focus (intro x EF MF Q kk;(try refine JL.aV rfl rfl ?_);exact JL.q (by first|(apply OQ.b9;exact Tryz.underlying9;rfl;rfl;exact hlm)|(apply OQ.move;rfl)) rfl (JL.nil (kk default nofun))))
              · intro x EF MF Q kk
                exact JL.q (OQ.assign rfl) rfl (JL.nil (kk (x 4) (fun k h=>by cases h;rfl)))
              · (intro x EF MF Q kk;(try refine JL.aV rfl rfl ?_);exact JL.q (by (apply OQ.assign;rfl)) rfl (JL.nil (kk default nofun)))
            · intro x hx'
              have h84:=hx' 8 4 (by decide) rfl
              show JE _ _ _ _ _ [(4,.slice (some ⟨(x 8).1,0,none⟩) (o++(34::r).take m).length (x 8).2),(0,Z ((34::r).drop m)),(5,N m)] [⟨(x 4).1,Sl.aY 5 1 (o++(34::r).take m).length (x 4).2 ((o++(34::r).take m).map U8),true⟩]
              rw [h84]
              obtain ⟨b',cap'⟩:=x 4
              clear hx' h84 x vs Ms
              dsimp only
              repeat (refine JE.an ?_)
              exact JE.again (i:=rG.mk (34::r) o b cap) (rG.mk ((34::r).drop m) (o++(34::r).take m) b' cap') ⟨by dsimp only;rw [List.length_append];omega,hc⟩ (by dsimp only;rw [List.length_cons];omega) (by repeat (first | exact ai.nil | refine ai.cons _ _ _ rfl ?_)) (ak.refl _)
          · rw [l8 o (by have:=of_decide_eq_true hq;omega)] at hc
            rw [hc]
            generalize aK r 1=m at cQ hq
            repeat (first | refine JL.q (by first|(apply i0;rfl;rfl)|(apply OQ.bw (b:=40);rfl;rfl;exact h40)|(apply OQ.move;rfl)|(apply OQ.assign;rfl)) rfl ?_ | refine JC.seq ?_ | refine JC.region ?_ | refine JC.block ?_ | refine JC.skip ?_ | refine JL.nil ?_ | refine JE.next ?_)
            refine JC.cond rfl (fun h=>by cases h) (fun _=>?_)
            repeat (first | refine JL.q (by first|(apply OQ.bw (b:=41);rfl;rfl;exact h41)|(apply OQ.assign;rfl)) rfl ?_ | refine JC.seq ?_ | refine JC.region ?_ | refine JL.nil ?_ | refine JE.next ?_)
            refine JC.cond rfl (fun h=>by cases h) (fun _=>?_)
            repeat (first | refine JL.q (by first|(apply OQ.bw (b:=34);rfl;rfl;exact h34)|(apply OQ.assign;rfl)) rfl ?_ | refine JC.seq ?_ | refine JC.region ?_ | refine JL.nil ?_ | refine JE.next ?_)
            refine JC.cond rfl (fun _=>?_) (fun h=>by cases h)
            repeat (first | refine JL.q (by first|(apply OQ.ah (vs:=[Z (34::r)]);exact eY;rfl;exact (fun w' _=>cQ w'))|(apply OQ.rq (b:=0);rfl;rfl;exact hq)|(apply OQ.move;rfl)|(apply OQ.assign;rfl)) rfl ?_ | refine JC.seq ?_ | refine JC.region ?_ | refine JL.nil ?_ | refine JE.next ?_)
            refine JC.cond rfl (fun _=>?_) (fun h=>by cases h)
            repeat (first | refine JL.q (by (apply OQ.assign;rfl)) rfl ?_ | refine JC.seq ?_ | refine JC.region ?_ | refine JL.nil ?_ | refine JE.next ?_)
            refine JC.ret ?_
            repeat (first | refine JE.ag ?_ | refine JE.aJ ?_)
            exact JE.bz rfl (RV.tmp rfl) (RV.tmp rfl) fun w' hw=>⟨rfl,hw.aE⟩
      · rw [of_decide_eq_true h41,iq,if_pos rfl] at hc
        rw [hc]
        repeat (first | refine JL.q (by first|(apply i0;rfl;rfl)|(apply OQ.bw (b:=40);rfl;rfl;exact h40)|(apply OQ.move;rfl)|(apply OQ.assign;rfl)) rfl ?_ | refine JC.seq ?_ | refine JC.region ?_ | refine JC.block ?_ | refine JC.skip ?_ | refine JL.nil ?_ | refine JE.next ?_)
        refine JC.cond rfl (fun h=>by cases h) (fun _=>?_)
        repeat (first | refine JL.q (by first|(apply OQ.bw (b:=41);rfl;rfl;exact h41)|(apply OQ.assign;rfl)) rfl ?_ | refine JC.seq ?_ | refine JC.region ?_ | refine JL.nil ?_ | refine JE.next ?_)
        refine JC.cond rfl (fun _=>?_) (fun h=>by cases h)
        repeat (first | refine JL.q (by (apply OQ.assign;rfl)) rfl ?_ | refine JC.seq ?_ | refine JC.region ?_ | refine JL.nil ?_ | refine JE.next ?_)
        refine JC.ret ?_
        repeat (first | refine JE.ag ?_ | refine JE.aJ ?_)
        exact JE.bz rfl (RV.tmp rfl) (RV.tmp rfl) fun w' hw=>⟨rfl,hw.aE⟩
    · obtain rfl : c=40:=of_decide_eq_true h40
      have cC:=fun w'=>jB r w' (by omega)
      cases hcm : aR (40::r) 0 0 with
      | error e=>
        rw [hcm] at cC
        have he:=oo _ _ _ _ _ (Nat.le_refl _) hcm
        rw [l7 o hcm] at hc
        rw [hc]
        repeat (first | refine JL.q (by first|(apply i0;rfl;rfl)|(apply OQ.bw (b:=40);rfl;rfl;exact h40)|(apply OQ.move;rfl)|(apply OQ.assign;rfl)) rfl ?_ | refine JC.seq ?_ | refine JC.region ?_ | refine JC.block ?_ | refine JC.skip ?_ | refine JL.nil ?_ | refine JE.next ?_)
        refine JC.cond rfl (fun _=>?_) (fun h=>by cases h)
        repeat (first | refine JL.q (by first|(apply OQ.ah (vs:=[Z (40::r)]);exact eg;rfl;exact (fun w' _=>cC w'))|(apply OQ.extract;rfl;rfl)|(apply OQ.ru (b:=0);rfl;rfl;exact he)|(apply OQ.move;rfl)|(apply OQ.assign;rfl)) rfl ?_ | refine JC.seq ?_ | refine JC.region ?_ | refine JL.nil ?_ | refine JE.next ?_)
        refine JC.cond rfl (fun _=>?_) (fun h=>by cases h)
        repeat (first | refine JL.q (by first|(apply OQ.move;rfl)|(apply OQ.assign;rfl)) rfl ?_ | refine JC.seq ?_ | refine JC.region ?_ | refine JL.nil ?_ | refine JE.next ?_)
        refine JC.ret ?_
        repeat (first | refine JE.ag ?_ | refine JE.aJ ?_)
        exact JE.bz rfl (RV.tmp rfl) (RV.tmp rfl) fun w' hw=>⟨rfl,hw.aE⟩
      | ok m=>
        rw [hcm] at cC
        obtain ⟨m0,m1,hb⟩:=iB o hcm
        rw [hb] at hc
        repeat (first | refine JL.q (by first|(apply i0;rfl;rfl)|(apply OQ.bw (b:=40);rfl;rfl;exact h40)|(apply OQ.move;rfl)|(apply OQ.assign;rfl)) rfl ?_ | refine JC.seq ?_ | refine JC.region ?_ | refine JC.block ?_ | refine JC.skip ?_ | refine JL.nil ?_ | refine JE.next ?_)
        refine JC.cond rfl (fun _=>?_) (fun h=>by cases h)
        repeat (first | refine JL.q (by first|(apply OQ.ah (vs:=[Z (40::r)]);exact eg;rfl;exact (fun w' _=>cC w'))|(apply OQ.extract;rfl;rfl)|(apply OQ.ru (b:=0) (c:=true);rfl;rfl;rfl)|(apply OQ.move;rfl)|(apply OQ.assign;rfl)) rfl ?_ | refine JC.seq ?_ | refine JC.region ?_ | refine JL.nil ?_ | refine JE.next ?_)
        refine JC.cond rfl (fun h=>by cases h) (fun _=>?_)
        repeat (first | refine JC.seq ?_ | refine JC.skip ?_ | refine JE.next ?_)
        have hdl : ((40::r).drop m).length=r.length+1 - m:=by rw [List.length_drop,List.length_cons]
        have hlm : m≤(40::r).length:=by rw [List.length_cons];omega
        let vs : Nat→X→Value:=fun j x=>match j with
          | 0=>.slice (some ⟨b,0,none⟩) o.length cap
          | 1=>.slice (some ⟨x.1,0,none⟩) 1 1
          | 3=>Z (40::r)
          | 4=>N m
          | 5=>Z ((40::r).drop m)
          | 7=>Z ((40::r).drop m)
          | _=>.slice (some ⟨x.1,0,none⟩) (o++[32]).length x.2
        let Ms : Nat→X→List az:=fun j x=>match j with
          | 1=>[⟨x.1,Row 5 [U8 32],true⟩]
          | 2=>[⟨x.1,Sl.aY 5 1 (o++[32]).length x.2 ((o++[32]).map U8),true⟩]
          | 8=>[⟨b,Sl.aY 5 1 o.length cap (o.map U8),true⟩]
          | _=>[]
        refine JC.kY (g:=⟨[(6,N m)],9,vs,Ms,rF,sI,sJ,sK,fun j=>match j with | 0=>[(4,.slice (some ⟨b,0,none⟩) o.length cap)] | 3=>[(0,Z (40::r))] | _=>[]⟩) [(6,4),(7,0)] [2] ey (by repeat (first | exact ai.nil | refine ai.cons _ _ _ rfl ?_)) (fun j _=>match j with | 0=>(by repeat (first | exact ai.nil | refine ai.cons _ _ _ rfl ?_)) | 1=>.nil | 2=>.nil | 3=>(by repeat (first | exact ai.nil | refine ai.cons _ _ _ rfl ?_)) | _+4=>.nil) (ak.refl _) (by kernel_rfl) (by kernel_rfl) (by kernel_rfl) ?_ ?_
        · refine ⟨?_,?_,?_,?_,?_,?_,?_,?_,trivial⟩
          · (intro x EF MF Q kk;(try refine JL.aV rfl rfl ?_);exact JL.q (by (apply OQ.move;rfl)) rfl (JL.nil (kk default nofun)))
          · intro x EF MF Q kk
            exact JL.ny Tryz.underlying22 fB rfl rfl rfl rfl fun b _=>JL.nil (kk (b,0) nofun)
          · intro x EF MF Q kk
            refine JL.cR (M':=aA 5 (some (b,cap)) (o.map U8)++⟨(x 1).1,Row 5 [U8 32],true⟩::MF) ?_ (by show ak ([⟨b,Sl.aY 5 1 (o.map U8).length cap (o.map U8),true⟩]++⟨(x 1).1,Row 5 [U8 32],true⟩::MF) _;rw [List.length_map];exact ak.refl _)
            refine JL.dV (cs:=[U8 32]) (m:=1) (ad:=some ⟨(x 1).1,0,none⟩) (sc:=1) (xs:=o.map U8) (M:=⟨(x 1).1,Row 5 [U8 32],true⟩::MF) (some (b,cap)) Tryz.underlying22 fB (fun h=>by cases h) (by rw [List.length_map];rfl) rfl rfl (fun w' hw'=>?_) (fun v hv=>by rw [List.mem_singleton.1 hv];rfl) rfl (by rw [List.length_map];omega) (by rw [List.length_map];omega) rfl fun q' hq'=>JL.nil ?_
            · have hw' : aa _ _ (⟨b,Sl.aY 5 1 (o.map U8).length cap (o.map U8),true⟩::⟨(x 1).1,Row 5 [U8 32],true⟩::MF) w':=hw'
              obtain ⟨o',ho,hA⟩:=hw'.get (.there .here)
              exact Reads.block ho (Row.all _ hA)
            · cases q' with
              | none=>exact absurd (hq' rfl) (by simp)
              | some p=>
                rw [show o.map U8++[U8 32]=(o++[32]).map U8 by rw [List.map_append];rfl,List.length_map,fS]
                exact kk p (fun k h=>by cases h)
          iterate 3 (focus (intro x EF MF Q kk;(try refine JL.aV rfl rfl ?_);exact JL.q (by first|(apply OQ.b9;exact Tryz.underlying9;rfl;rfl;exact hlm)|(apply OQ.move;rfl)) rfl (JL.nil (kk default nofun))))
          · intro x EF MF Q kk
            exact JL.q (OQ.assign rfl) rfl (JL.nil (kk (x 2) (fun k h=>by cases h;rfl)))
          · (intro x EF MF Q kk;(try refine JL.aV rfl rfl ?_);exact JL.q (by (apply OQ.assign;rfl)) rfl (JL.nil (kk default nofun)))
        · intro x hx'
          have h84:=hx' 6 2 (by decide) rfl
          show JE _ _ _ _ _ [(4,.slice (some ⟨(x 6).1,0,none⟩) (o++[32]).length (x 6).2),(0,Z ((40::r).drop m)),(6,N m)] [⟨(x 2).1,Sl.aY 5 1 (o++[32]).length (x 2).2 ((o++[32]).map U8),true⟩]
          rw [h84]
          obtain ⟨b',cap'⟩:=x 2
          clear hx' h84 x vs Ms
          dsimp only
          repeat (first | refine JC.exit ?_ | refine JE.next ?_ | refine JE.aU ?_ | refine JE.bt ?_ | refine JE.nu rfl ?_)
          exact JE.again (i:=rG.mk (40::r) o b cap) (rG.mk ((40::r).drop m) (o++[32]) b' cap') ⟨by dsimp only;rw [List.length_append,List.length_singleton];omega,hc⟩ (by dsimp only;rw [List.length_cons];omega) (by repeat (first | exact ai.nil | refine ai.cons _ _ _ rfl ?_)) (ak.refl _)
  · obtain rfl : r=[]:=of_decide_eq_true hr0
    rw [bX,if_neg (by decide)] at hc
    rw [hc]
    repeat (first | refine JL.q (by first|(apply OQ.ez (r:=[]);rfl;rfl;exact hr0)|(apply OQ.move;rfl)) rfl ?_ | refine JC.seq ?_ | refine JC.region ?_ | refine JL.nil ?_ | refine JE.next ?_)
    refine JC.cond rfl (fun h=>by cases h) (fun _=>?_)
    repeat (first | refine JL.q (by first|(apply OQ.nq (s:=⟨some ⟨b,0,none⟩,cap,o⟩);exact Tryz.underlying22;exact Tryz.underlying5;exact Tryz.underlying9;rfl;exact (fun w' hw'=>ia hw' .here))|(apply OQ.move;rfl)|(apply OQ.assign;rfl)) rfl ?_ | refine JC.seq ?_ | refine JC.region ?_ | refine JC.exit ?_ | refine JL.nil ?_ | refine JE.next ?_ | refine JE.aU ?_ | refine JE.bt ?_)
    refine JC.ret ?_
    exact JE.bz rfl (RV.tmp rfl) (RV.tmp rfl) fun w' hw=>⟨rfl,hw.aE⟩
end
section
set_option maxRecDepth 10000
open Sl aq Go.Shelf
def fT : Ren:=⟨fun | 159=>182 | 165=>160 | 166=>161 | 167=>223 | 169=>163 | 230=>224 | 204=>225 | 240=>194 | 241=>195 | 197=>165 | 118=>249 | 168=>250 | 270=>251 | 262=>252 | 276=>230 | 277=>231 | 260=>196 | 242=>270 | 313=>271 | 278=>279 | 274=>280 | 275=>281 | n=>n,
  fun | 9=>9 | 4=>4 | 3=>3 | 5=>5 | 72=>224 | 0=>0 | 76=>160 | 75=>159 | 107=>272 | 70=>222 | 20=>20 | 37=>22 | 127=>250 | 21=>21 | 105=>225 | 164=>277 | 162=>311 | 203=>309 | 119=>280 | 46=>189 | 139=>283 | 138=>282 | 51=>176 | 160=>320 | 208=>329 | 206=>327 | 80=>132 | n=>n,
  fun | 13=>6 | 3=>3 | 4=>4 | n=>n⟩
theorem qf : Lays.n159 Tryz.prog fT:={
  mixed:=by kernel_rfl
  f118:=Tryz.func249.trans (congrArg some (by kernel_rfl))
  f159:=Tryz.func182.trans (congrArg some (by kernel_rfl))
  f165:=Tryz.func160.trans (congrArg some (by kernel_rfl))
  f166:=Tryz.func161.trans (congrArg some (by kernel_rfl))
  f167:=Tryz.func223.trans (congrArg some (by kernel_rfl))
  f168:=Tryz.func250.trans (congrArg some (by kernel_rfl))
  f169:=Tryz.func163.trans (congrArg some (by kernel_rfl))
  f197:=Tryz.func165.trans (congrArg some (by kernel_rfl))
  f204:=Tryz.func225.trans (congrArg some (by kernel_rfl))
  f230:=Tryz.func224.trans (congrArg some (by kernel_rfl))
  f240:=Tryz.func194.trans (congrArg some (by kernel_rfl))
  f241:=Tryz.func195.trans (congrArg some (by kernel_rfl))
  f242:=Tryz.func270.trans (congrArg some (by kernel_rfl))
  f260:=Tryz.func196.trans (congrArg some (by kernel_rfl))
  f262:=Tryz.func252.trans (congrArg some (by kernel_rfl))
  f270:=Tryz.func251.trans (congrArg some (by kernel_rfl))
  f274:=Tryz.func280.trans (congrArg some (by kernel_rfl))
  f275:=Tryz.func281.trans (congrArg some (by kernel_rfl))
  f276:=Tryz.func230.trans (congrArg some (by kernel_rfl))
  f277:=Tryz.func231.trans (congrArg some (by kernel_rfl))
  f278:=Tryz.func279.trans (congrArg some (by kernel_rfl))
  f313:=Tryz.func271.trans (congrArg some (by kernel_rfl))
  t0:=Tryz.underlying0
  a0:=Tryz.isAgg0
  z0:=Tryz.sizeOf0
  v0:=Tryz.zeroValue0
  t3:=Tryz.underlying3
  a3:=Tryz.isAgg3
  z3:=Tryz.sizeOf3
  v3:=Tryz.zeroValue3
  t4:=Tryz.underlying4
  a4:=Tryz.isAgg4
  z4:=Tryz.sizeOf4
  v4:=Tryz.zeroValue4
  t5:=Tryz.underlying5
  a5:=Tryz.isAgg5
  z5:=Tryz.sizeOf5
  v5:=Tryz.zeroValue5
  t9:=Tryz.underlying9
  a9:=Tryz.isAgg9
  z9:=Tryz.sizeOf9
  v9:=Tryz.zeroValue9
  t20:=Tryz.underlying20
  a20:=Tryz.isAgg20
  z20:=Tryz.sizeOf20
  v20:=Tryz.zeroValue20
  t21:=Tryz.underlying21
  a21:=Tryz.isAgg21
  z21:=Tryz.sizeOf21
  v21:=Tryz.zeroValue21
  t37:=Tryz.underlying22
  a37:=Tryz.isAgg22
  z37:=Tryz.sizeOf22
  v37:=Tryz.zeroValue22
  t46:=Tryz.underlying189
  a46:=Tryz.isAgg189
  z46:=Tryz.sizeOf189
  v46:=Tryz.zeroValue189
  t51:=Tryz.underlying176
  a51:=Tryz.isAgg176
  z51:=Tryz.sizeOf176
  v51:=Tryz.zeroValue176
  t70:=Tryz.underlying222
  a70:=Tryz.isAgg222
  z70:=Tryz.sizeOf222
  v70:=Tryz.zeroValue222
  t72:=Tryz.underlying224
  a72:=Tryz.isAgg224
  z72:=Tryz.sizeOf224
  v72:=Tryz.zeroValue224
  t75:=Tryz.underlying159
  a75:=Tryz.isAgg159
  z75:=Tryz.sizeOf159
  v75:=Tryz.zeroValue159
  t76:=Tryz.underlying160
  a76:=Tryz.isAgg160
  z76:=Tryz.sizeOf160
  v76:=Tryz.zeroValue160
  t105:=Tryz.underlying225
  a105:=Tryz.isAgg225
  z105:=Tryz.sizeOf225
  v105:=Tryz.zeroValue225
  t107:=Tryz.underlying272
  a107:=Tryz.isAgg272
  z107:=Tryz.sizeOf272
  v107:=Tryz.zeroValue272
  t119:=Tryz.underlying280
  a119:=Tryz.isAgg280
  z119:=Tryz.sizeOf280
  t127:=Tryz.underlying250
  a127:=Tryz.isAgg250
  z127:=Tryz.sizeOf250
  v127:=Tryz.zeroValue250
  t138:=Tryz.underlying282
  a138:=Tryz.isAgg282
  z138:=Tryz.sizeOf282
  v138:=Tryz.zeroValue282
  t139:=Tryz.underlying283
  a139:=Tryz.isAgg283
  z139:=Tryz.sizeOf283
  v139:=Tryz.zeroValue283
  t160:=Tryz.underlying320
  a160:=Tryz.isAgg320
  z160:=Tryz.sizeOf320
  v160:=Tryz.zeroValue320
  t162:=Tryz.underlying311
  a162:=Tryz.isAgg311
  z162:=Tryz.sizeOf311
  v162:=Tryz.zeroValue311
  t164:=Tryz.underlying277
  a164:=Tryz.isAgg277
  z164:=Tryz.sizeOf277
  v164:=Tryz.zeroValue277
  t203:=Tryz.underlying309
  a203:=Tryz.isAgg309
  z203:=Tryz.sizeOf309
  v203:=Tryz.zeroValue309
  t206:=Tryz.underlying327
  a206:=Tryz.isAgg327
  z206:=Tryz.sizeOf327
  v206:=Tryz.zeroValue327
  t208:=Tryz.underlying329
  a208:=Tryz.isAgg329
  z208:=Tryz.sizeOf329
  v208:=Tryz.zeroValue329
  g3:=by kernel_rfl
  g4:=by kernel_rfl
  g13:=by kernel_rfl }
theorem tq : Builder.Extra Tryz.prog fT:={
  sizeBuilder:=by kernel_rfl
  liesBuilder:=by kernel_rfl
  t5:=Tryz.underlying5
  a5:=Tryz.isAgg5
  z5:=Tryz.sizeOf5
  v5:=Tryz.zeroValue5
  infoByte:=by kernel_rfl
  cellsByte:=by kernel_rfl
  sizeByte:=by kernel_rfl
  neB5:=by decide }
theorem rH (l : List aq.By) : Go.Lib.toLowerA (aq.bx l)=aq.bx (l.map small):=by
  have h : ∀ c : Fin 256,Go.Lib.lowerB (UInt8.ofBitVec (BitVec.ofNat 8 c.val))=UInt8.ofBitVec (small (BitVec.ofNat 8 c.val)):=by decide +kernel
  unfold Go.Lib.toLowerA aq.bx
  rw [List.map_map,List.map_map]
  refine List.map_congr_left fun c _=>?_
  simpa using h ⟨c.toNat,c.isLt⟩
theorem fU : aC Tryz.prog 182:=⟨_,Tryz.func182,rfl,by kernel_rfl⟩
theorem gS (s : List Bt) (w : World) (hl : s.length≤140737488355328) (hs : ∀ c ∈ s,c.toNat<128) : Calls Tryz.prog 182 [Z s].toArray w fun e w'=>e=.returned (Z (s.map small))∧Ext w w':=
  (Any.strings_ToLower_ascii qf tq (aD s) w (by rw [aF];exact hl) (fun j b hb=>by
    rw [bT] at hb
    obtain ⟨c,hc,rfl⟩:=List.mem_map.1 (List.mem_of_getElem? hb)
    exact hs c hc)).mono fun e w' ⟨h1,h2⟩=>⟨by rw [h1,bT,rH,lB],gM h2⟩
namespace aq
def cg (c : aq.By) : List aq.By→List (List aq.By)
  | []=>[[]]
  | d::r=>if d=c then []::cg c r else match cg c r with
    | []=>[[d]]
    | x::L=>(d::x)::L
theorem kE (c : aq.By) : ∀ s,cg c s≠[]
  | []=>by simp [cg]
  | d::r=>by
    unfold cg
    split
    · simp
    · split <;> simp
theorem jC {c : aq.By} : ∀ {s : List aq.By},fi c s=s.length→cg c s=[s]
  | [],_=>rfl
  | d::r,h=>by
    rw [bR] at h
    by_cases hd : d=c
    · rw [if_pos hd] at h;simp at h
    · rw [if_neg hd] at h
      rw [cg,if_neg hd,jC (s:=r) (by simpa using h)]
theorem jD {c : aq.By} : ∀ {s : List aq.By},fi c s<s.length→cg c s=s.take (fi c s)::cg c (s.drop (fi c s+1))
  | [],h=>by simp [fi] at h
  | d::r,h=>by
    by_cases hd : d=c
    · rw [bR,if_pos hd,cg,if_pos hd]
      rfl
    · rw [bR,if_neg hd] at h ⊢
      rw [cg,if_neg hd,jD (s:=r) (by simpa using h)]
      rfl
theorem oq (c : aq.By) (s : List aq.By) : Go.Lib.index (aq.bx s) (aq.bx [c])=ep c s:=by
  show Go.Lib.index (aq.bx s) [UInt8.ofBitVec c]=_
  rw [Go.Lib.index_one,lG]
where
  lG {c : aq.By} : ∀ {l : List aq.By},Go.Lib.indexByte (aq.bx l) (UInt8.ofBitVec c)=ep c l
  | []=>rfl
  | d::r=>by
    show (if (UInt8.ofBitVec d == UInt8.ofBitVec c) then 0 else if Go.Lib.indexByte (aq.bx r) (UInt8.ofBitVec c) == -1 then -1 else Go.Lib.indexByte (aq.bx r) (UInt8.ofBitVec c)+1 : Int)=_
    rw [lG (c:=c) (l:=r)]
    unfold ep
    rw [bR]
    have hb : (UInt8.ofBitVec d == UInt8.ofBitVec c)=decide (d=c):=by
      by_cases h : d=c
      · subst h;simp
      · rw [decide_eq_false h]
        exact beq_eq_false_iff_ne.2 fun k=>h (congrArg UInt8.toBitVec k)
    rw [hb]
    by_cases hd : d=c
    · simp [hd]
    · simp only [hd,decide_false,Bool.false_eq_true,if_false,List.length_cons,Nat.add_lt_add_iff_right]
      by_cases h : fi c r<r.length
      · simp only [h,if_true]
        rw [if_neg (by rw [beq_iff_eq];omega)]
        omega
      · simp only [h,if_false]
        rfl
theorem eH (c : aq.By) : ∀ s : List aq.By,(aq.bx s).count (UInt8.ofBitVec c)=s.count c
  | []=>rfl
  | d::r=>by
    show (UInt8.ofBitVec d::aq.bx r).count _=_
    rw [List.count_cons,List.count_cons,eH c r]
    congr 1
    by_cases h : d=c
    · subst h;simp
    · have h2 : ¬ UInt8.ofBitVec d=UInt8.ofBitVec c:=fun k=>h (congrArg UInt8.toBitVec k)
      rw [if_neg (by simpa using h2),if_neg (by simpa using h)]
theorem c4 {c : aq.By} : ∀ {s : List aq.By},(s.count c=0→fi c s=s.length)∧(s.count c≠0→fi c s<s.length∧s.count c=(s.drop (fi c s+1)).count c+1)
  | []=>by simp [fi]
  | d::r=>by
    obtain ⟨h1,h2⟩:=c4 (c:=c) (s:=r)
    rw [bR,List.count_cons]
    by_cases hd : d=c
    · subst hd
      simp
    · have hdb : (d == c)=false:=beq_eq_false_iff_ne.2 hd
      simp only [hdb,hd,if_false,Bool.false_eq_true,Nat.add_zero,List.length_cons,Nat.add_lt_add_iff_right,List.drop_succ_cons]
      exact ⟨fun h=>by rw [h1 h],h2⟩
theorem gT (c : aq.By) : ∀ (k : Nat) (s : List aq.By),s.count c=k→Go.Lib.splitK (aq.bx [c]) 0 k (aq.bx s)=(cg c s).map aq.bx
  | 0,s,h=>by
    rw [jC (c4.1 h)]
    rfl
  | k+1,s,h=>by
    obtain ⟨h1,h2⟩:=(c4 (c:=c) (s:=s)).2 (by omega)
    have hi : Go.Lib.index (aq.bx s) (aq.bx [c])=(fi c s : Nat):=by rw [oq,ep,if_pos h1]
    have hd : (aq.bx s).drop (fi c s+1)=aq.bx (s.drop (fi c s+1)):=by unfold aq.bx;rw [List.map_drop]
    have ht : (aq.bx s).take (fi c s)=aq.bx (s.take (fi c s)):=by unfold aq.bx;rw [List.map_take]
    show (if Go.Lib.index (aq.bx s) (aq.bx [c]) == -1 then [aq.bx s] else (aq.bx s).take ((Go.Lib.index (aq.bx s) (aq.bx [c])).toNat+0)::Go.Lib.splitK (aq.bx [c]) 0 k ((aq.bx s).drop ((Go.Lib.index (aq.bx s) (aq.bx [c])).toNat+(aq.bx [c]).length)))=_
    rw [hi,if_neg (by rw [beq_iff_eq];omega),Int.toNat_natCast,Nat.add_zero,show (aq.bx [c]).length=1 from rfl,hd,ht,gT c k _ (by omega),jD h1]
    rfl
end aq
theorem jE (c : Bt) (s : List Bt) : (Go.Lib.splitB (aD [c]) 0 (s.count c) (aD s)).map Value.string=(cg c s).map Z:=by
  have h1:=Go.Lib.splitB_data (aD [c]) 0 (s.count c) (aD s)
  rw [bT,bT,gT c _ s rfl] at h1
  have h2:=congrArg (List.map fun l : List UInt8=>Value.string ⟨l.toArray⟩) h1
  rw [List.map_map,List.map_map] at h2
  exact h2
def ei : Ren:=⟨fun | 221=>93 | 268=>129 | 138=>130 | 143=>131 | 195=>164 | 197=>165 | 218=>166 | 219=>167 | 260=>196 | 217=>197 | 225=>198 | 224=>184 | 267=>199 | 266=>232 | 314=>233 | n=>n,
  fun | 9=>9 | 3=>3 | 31=>30 | 4=>4 | 0=>0 | 105=>225 | 21=>21 | 5=>5 | 46=>189 | 119=>280 | 139=>283 | 138=>282 | 146=>246 | 51=>176 | n=>n,
  fun | 1=>0 | 3=>3 | 4=>4 | n=>n⟩
theorem eI : Lays.n221 Tryz.prog ei:={
  mixed:=by kernel_rfl
  f138:=Tryz.func130.trans (congrArg some (by kernel_rfl))
  f143:=Tryz.func131.trans (congrArg some (by kernel_rfl))
  f195:=Tryz.func164.trans (congrArg some (by kernel_rfl))
  f197:=Tryz.func165.trans (congrArg some (by kernel_rfl))
  f217:=Tryz.func197.trans (congrArg some (by kernel_rfl))
  f218:=Tryz.func166.trans (congrArg some (by kernel_rfl))
  f219:=Tryz.func167.trans (congrArg some (by kernel_rfl))
  f221:=Tryz.func93.trans (congrArg some (by kernel_rfl))
  f224:=Tryz.func184.trans (congrArg some (by kernel_rfl))
  f225:=Tryz.func198.trans (congrArg some (by kernel_rfl))
  f260:=Tryz.func196.trans (congrArg some (by kernel_rfl))
  f266:=Tryz.func232.trans (congrArg some (by kernel_rfl))
  f267:=Tryz.func199.trans (congrArg some (by kernel_rfl))
  f268:=Tryz.func129.trans (congrArg some (by kernel_rfl))
  f314:=Tryz.func233.trans (congrArg some (by kernel_rfl))
  t0:=Tryz.underlying0
  a0:=Tryz.isAgg0
  z0:=Tryz.sizeOf0
  v0:=Tryz.zeroValue0
  t3:=Tryz.underlying3
  a3:=Tryz.isAgg3
  z3:=Tryz.sizeOf3
  v3:=Tryz.zeroValue3
  t4:=Tryz.underlying4
  a4:=Tryz.isAgg4
  z4:=Tryz.sizeOf4
  v4:=Tryz.zeroValue4
  t5:=Tryz.underlying5
  a5:=Tryz.isAgg5
  z5:=Tryz.sizeOf5
  v5:=Tryz.zeroValue5
  t9:=Tryz.underlying9
  a9:=Tryz.isAgg9
  z9:=Tryz.sizeOf9
  v9:=Tryz.zeroValue9
  t21:=Tryz.underlying21
  a21:=Tryz.isAgg21
  z21:=Tryz.sizeOf21
  v21:=Tryz.zeroValue21
  t31:=Tryz.underlying30
  a31:=Tryz.isAgg30
  z31:=Tryz.sizeOf30
  v31:=Tryz.zeroValue30
  t46:=Tryz.underlying189
  a46:=Tryz.isAgg189
  z46:=Tryz.sizeOf189
  v46:=Tryz.zeroValue189
  t51:=Tryz.underlying176
  a51:=Tryz.isAgg176
  z51:=Tryz.sizeOf176
  v51:=Tryz.zeroValue176
  t105:=Tryz.underlying225
  a105:=Tryz.isAgg225
  z105:=Tryz.sizeOf225
  v105:=Tryz.zeroValue225
  t119:=Tryz.underlying280
  a119:=Tryz.isAgg280
  z119:=Tryz.sizeOf280
  t138:=Tryz.underlying282
  a138:=Tryz.isAgg282
  z138:=Tryz.sizeOf282
  v138:=Tryz.zeroValue282
  t139:=Tryz.underlying283
  a139:=Tryz.isAgg283
  z139:=Tryz.sizeOf283
  v139:=Tryz.zeroValue283
  t146:=Tryz.underlying246
  a146:=Tryz.isAgg246
  z146:=Tryz.sizeOf246
  v146:=Tryz.zeroValue246
  g1:=by kernel_rfl
  g3:=by kernel_rfl
  g4:=by kernel_rfl }
theorem sL : (Tryz.prog.info? (ei.t 9)).map (fun i=>(i.zero,i.size,i.bytes))=some (some (.string ByteArray.empty),1,16):=by kernel_rfl
theorem mh : aC Tryz.prog 93:=⟨_,Tryz.func93,rfl,by kernel_rfl⟩
theorem mj : aC Tryz.prog 221:=⟨_,Tryz.func221,rfl,by kernel_rfl⟩
theorem ot (s : List Bt) (c : Bt) (w : World) (hl : s.length<4294967281) : Calls Tryz.prog 93 [Z s,Z [c],N 0,I (-1)].toArray w fun e w'=>
    ∃ b,e=.returned (.slice (some ⟨b,0,none⟩) (cg c s).length (cg c s).length)∧aa w [] [⟨b,Row 9 ((cg c s).map Z),true⟩] w':=by
  have hcnt : Go.Lib.countB (aD s) (aD [c])=s.count c:=by
    show Go.Lib.count (aq.bx s) [UInt8.ofBitVec c]=_
    rw [Go.Lib.count_one,eH]
  have hcle : s.count c≤s.length:=List.count_le_length
  have hlen : (Go.Lib.splitB (aD [c]) 0 (s.count c) (aD s)).length=s.count c+1:=Go.Lib.splitB_all (aD [c]) (by rw [aF];exact Nat.le_refl _) 0 _ (aD s) hcnt
  have hlen2 : (cg c s).length=s.count c+1:=by
    have:=congrArg List.length (jE c s)
    rw [List.length_map,List.length_map,hlen] at this
    exact this.symm
  have:=Any.strings_genSplit_core eI sL (aD s) (aD [c]) 0 (-1) (s.count c+1) w (by rw [aF];exact hl) (by rw [aF];exact Nat.le_refl _) (Nat.zero_le _)
    (fun x cs hx=>(Any.strings_Index_one { eI with } x (UInt8.ofBitVec c) _).mono fun e w' ⟨h1,h2⟩=>⟨by
      rw [h1]
      show Ending.returned (Value.int .i64 (Go.Lib.indexByte x.data.toList (UInt8.ofBitVec c)))=Ending.returned (Value.int .i64 (Go.Lib.index x.data.toList [UInt8.ofBitVec c]))
      rw [Go.Lib.index_one],h2⟩)
    ((Any.strings_Count_one { eI with } (aD s) (UInt8.ofBitVec c) w).mono fun e w' ⟨h1,h2⟩=>⟨by
      rw [h1]
      show Ending.returned (Value.int .i64 (((aq.bx s).count (UInt8.ofBitVec c) : Nat) : Int))=Ending.returned (Value.int .i64 ((Go.Lib.countB (aD s) (aD [c]) : Nat) : Int))
      rw [hcnt,eH],h2⟩) (by decide) (by decide) (by
        rw [if_pos (by decide),hcnt,aF]
        omega)
  refine this.mono fun e w' ⟨h1,h2⟩=>⟨w.heap.size,?_,?_⟩
  · rw [h1,Nat.add_sub_cancel,hlen,hlen2]
  · rw [h2,Nat.add_sub_cancel]
    have e1 : Go.Lib.cellsOf (Go.Lib.splitB (aD [c]) 0 (s.count c) (aD s)) (s.count c+1)=((cg c s).map Z).toArray:=by
      rw [← hlen,Go.Lib.cellsOf_full,jE]
    rw [e1]
    exact (aa.start w []).push (.cells ((cg c s).map Z).toArray 9 (0,0)) rfl rfl rfl rfl rfl
theorem ou (s : List Bt) (c : Bt) (w : World) (hl : s.length<4294967281) : Calls Tryz.prog 221 [Z s,Z [c]].toArray w fun e w'=>
    ∃ b,e=.returned (.slice (some ⟨b,0,none⟩) (cg c s).length (cg c s).length)∧aa w [] [⟨b,Row 9 ((cg c s).map Z),true⟩] w':=by
  refine enter (n:=8) Tryz.func221 rfl rfl rfl (aa.start w []) ?_
  repeat (first | refine JL.q (by first|(apply OQ.move;rfl)|(apply OQ.assign;rfl)) rfl ?_ | refine JC.seq ?_ | refine JC.region ?_ | refine JL.nil ?_ | refine JE.next ?_)
  refine JL.dy (ι:=Nat) (vs:=[Z s,Z [c],N 0,I (-1)]) (fun b=>.slice (some ⟨b,0,none⟩) (cg c s).length (cg c s).length) (fun b=>[⟨b,Row 9 ((cg c s).map Z),true⟩]) mh rfl rfl (fun b e he=>by rw [List.mem_singleton.1 he]) (fun w' _=>ot s c w' hl) fun b=>?_
  repeat (first | refine JL.q (by (apply OQ.assign;rfl)) rfl ?_ | refine JL.nil ?_ | refine JE.next ?_)
  exact JC.ret (JE.av rfl (RV.tmp rfl) fun w' hw=>⟨b,rfl,hw⟩)
theorem jF : aC Tryz.prog 193:=⟨_,Tryz.func193,rfl,by kernel_rfl⟩
theorem jG : aC Tryz.prog 242:=⟨_,Tryz.func242,rfl,by kernel_rfl⟩
theorem jH : aC Tryz.prog 246:=⟨_,Tryz.func246,rfl,by kernel_rfl⟩
theorem jI : aC Tryz.prog 218:=⟨_,Tryz.func218,rfl,by kernel_rfl⟩
theorem jJ : aC Tryz.prog 178:=⟨_,Tryz.func178,rfl,by kernel_rfl⟩
theorem qg (s : List aq.By) (c : aq.By) : decide (s.head?=some c)=(decide ((1 : Int)≤(s.length : Int)) && decide (s.take 1=[c])):=by
  cases s with
  | nil=>simp
  | cons d r=>
    simp
    intro _
    omega
theorem qh (s : List aq.By) (c : aq.By) : decide (s.getLast?=some c)=(decide ((1 : Int)≤(s.length : Int)) && decide (s.drop (s.length - 1)=[c])):=by
  rcases List.eq_nil_or_concat s with rfl | ⟨r,d,rfl⟩
  · simp
  · simp
    intro _
    omega
set_option maxHeartbeats 2000000 in
theorem qi (s : List Bt) (c : Bt) (w : World) : Calls Tryz.prog 193 [Z s,Z [c]].toArray w fun e w'=>e=.returned (.bool (decide (s.head?=some c)))∧Ext w w':=by
  refine enter (n:=18) Tryz.func193 rfl rfl rfl (aa.start w []) ?_
  rw [qg]
  cases h1 : decide ((1 : Int)≤(s.length : Int))
  · repeat (first | refine JL.q (by first|(apply OQ.bu;exact Tryz.underlying9;rfl)|(apply OQ.bK (b:=1);rfl;rfl;exact h1)|(apply OQ.aH;rfl;rfl)|(apply OQ.move;rfl)|(apply OQ.assign;rfl)) rfl ?_ | refine JC.seq ?_ | refine JC.region ?_ | refine JL.nil ?_ | refine JE.next ?_ | refine JL.bh rfl rfl rfl rfl ?_)
    exact JC.ret (JE.av rfl (RV.tmp rfl) fun w' hw=>⟨rfl,hw.aE⟩)
  · have hle : 1≤s.length:=by have:=of_decide_eq_true h1;omega
    cases h2 : decide (s.take 1=[c])
    all_goals (repeat (first | refine JL.q (by first|(apply OQ.bu;exact Tryz.underlying9;rfl)|(apply OQ.bK (b:=1);rfl;rfl;exact h1)|(apply OQ.bI (j:=1);exact Tryz.underlying9;rfl;rfl;exact hle)|(apply OQ.gu;rfl;rfl;exact h2)|(apply OQ.aN;rfl;rfl)|(apply OQ.move;rfl)|(apply OQ.assign;rfl)) rfl ?_ | refine JC.seq ?_ | refine JC.region ?_ | refine JL.nil ?_ | refine JE.next ?_ | refine JL.aV rfl rfl ?_))
    all_goals exact JC.ret (JE.av rfl (RV.tmp rfl) fun w' hw=>⟨rfl,hw.aE⟩)
def sM (c : Bt) (s : List Bt) : Value:=if s.head?=some c then .tuple #[Z s.tail,.bool true] else .tuple #[Z s,.bool false]
theorem qj (s : List Bt) (c : Bt) (w : World) : Calls Tryz.prog 242 [Z s,Z [c]].toArray w fun e w'=>e=.returned (sM c s)∧Ext w w':=by
  refine enter (n:=15) Tryz.func242 rfl rfl rfl (aa.start w []) ?_
  have hq:=fun w'=>qi s c w'
  unfold sM
  by_cases h : s.head?=some c
  · simp only [h,decide_true,if_true] at hq ⊢
    have hle : 1≤s.length:=by
      cases s with
      | nil=>cases h
      | cons d r=>simp
    repeat (first | refine JL.q (by first|(apply OQ.ah (vs:=[Z s,Z [c]]);exact jF;rfl;exact (fun w' _=>hq w'))|(apply OQ.not;rfl)|(apply OQ.move;rfl)|(apply OQ.assign;rfl)) rfl ?_ | refine JC.seq ?_ | refine JC.region ?_ | refine JL.nil ?_ | refine JE.next ?_)
    refine JC.cond rfl (fun h=>by cases h) (fun _=>?_)
    repeat (first | refine JL.q (by first|(apply OQ.bu;exact Tryz.underlying9;rfl)|(apply OQ.b9 (i:=1);exact Tryz.underlying9;rfl;rfl;exact hle)|(apply OQ.move;rfl)|(apply OQ.assign;rfl)) rfl ?_ | refine JC.seq ?_ | refine JC.region ?_ | refine JC.skip ?_ | refine JL.nil ?_ | refine JE.next ?_)
    refine JC.ret ?_
    skip
    refine JE.bz rfl (RV.tmp rfl) (RV.tmp rfl) fun w' hw=>⟨?_,hw.aE⟩
    rw [List.drop_one]
  · simp only [h,decide_false,if_false] at hq ⊢
    repeat (first | refine JL.q (by first|(apply OQ.ah (vs:=[Z s,Z [c]]);exact jF;rfl;exact (fun w' _=>hq w'))|(apply OQ.not;rfl)|(apply OQ.move;rfl)|(apply OQ.assign;rfl)) rfl ?_ | refine JC.seq ?_ | refine JC.region ?_ | refine JL.nil ?_ | refine JE.next ?_)
    refine JC.cond rfl (fun _=>?_) (fun h=>by cases h)
    repeat (first | refine JL.q (by first|(apply OQ.move;rfl)|(apply OQ.assign;rfl)) rfl ?_ | refine JC.seq ?_ | refine JC.region ?_ | refine JL.nil ?_ | refine JE.next ?_)
    refine JC.ret ?_
    repeat (refine JE.ag ?_)
    exact JE.bz rfl (RV.tmp rfl) (RV.tmp rfl) fun w' hw=>⟨rfl,hw.aE⟩
theorem qk (s : List Bt) (c : Bt) (w : World) : Calls Tryz.prog 208 [Z s,Z [c]].toArray w fun e w'=>e=.returned (sM c s)∧Ext w w':=by
  refine enter (n:=11) Tryz.func208 rfl rfl rfl (aa.start w []) ?_
  have hq:=fun w'=>qj s c w'
  unfold sM at hq ⊢
  by_cases h : s.head?=some c
  · simp only [h,if_true] at hq ⊢
    repeat (first | refine JL.q (by first|(apply OQ.ah (vs:=[Z s,Z [c]]);exact jG;rfl;exact (fun w' _=>hq w'))|(apply OQ.extract;rfl;rfl)|(apply OQ.move;rfl)|(apply OQ.assign;rfl)) rfl ?_ | refine JC.seq ?_ | refine JC.region ?_ | refine JL.nil ?_ | refine JE.next ?_)
    exact JC.ret (JE.bz rfl (RV.tmp rfl) (RV.tmp rfl) fun w' hw=>⟨rfl,hw.aE⟩)
  · simp only [h,if_false] at hq ⊢
    repeat (first | refine JL.q (by first|(apply OQ.ah (vs:=[Z s,Z [c]]);exact jG;rfl;exact (fun w' _=>hq w'))|(apply OQ.extract;rfl;rfl)|(apply OQ.move;rfl)|(apply OQ.assign;rfl)) rfl ?_ | refine JC.seq ?_ | refine JC.region ?_ | refine JL.nil ?_ | refine JE.next ?_)
    exact JC.ret (JE.bz rfl (RV.tmp rfl) (RV.tmp rfl) fun w' hw=>⟨rfl,hw.aE⟩)
set_option maxHeartbeats 2000000 in
theorem qn (s : List Bt) (c : Bt) (w : World) (hl : s.length<9223372036854775808) : Calls Tryz.prog 246 [Z s,Z [c]].toArray w fun e w'=>e=.returned (.bool (decide (s.getLast?=some c)))∧Ext w w':=by
  refine enter (n:=21) Tryz.func246 rfl rfl rfl (aa.start w []) ?_
  rw [qh]
  cases h1 : decide ((1 : Int)≤(s.length : Int))
  · repeat (first | refine JL.q (by first|(apply OQ.bu;exact Tryz.underlying9;rfl)|(apply OQ.bK (b:=1);rfl;rfl;exact h1)|(apply OQ.aH;rfl;rfl)|(apply OQ.move;rfl)|(apply OQ.assign;rfl)) rfl ?_ | refine JC.seq ?_ | refine JC.region ?_ | refine JL.nil ?_ | refine JE.next ?_ | refine JL.bh rfl rfl rfl rfl ?_)
    exact JC.ret (JE.av rfl (RV.tmp rfl) fun w' hw=>⟨rfl,hw.aE⟩)
  · have hle : 1≤s.length:=by have:=of_decide_eq_true h1;omega
    have hsub : s.length - 1≤s.length:=Nat.sub_le _ _
    cases h2 : decide (s.drop (s.length - 1)=[c])
    all_goals (repeat (first | refine JL.q (by first|(apply OQ.bu;exact Tryz.underlying9;rfl)|(apply OQ.bK (b:=1);rfl;rfl;exact h1)|(apply OQ.hO (b:=1);rfl;rfl;exact hle;exact hl)|(apply OQ.b9 (i:=s.length - 1);exact Tryz.underlying9;rfl;rfl;exact hsub)|(apply OQ.gu;rfl;rfl;exact h2)|(apply OQ.aN;rfl;rfl)|(apply OQ.move;rfl)|(apply OQ.assign;rfl)) rfl ?_ | refine JC.seq ?_ | refine JC.region ?_ | refine JL.nil ?_ | refine JE.next ?_ | refine JL.aV rfl rfl ?_))
    all_goals exact JC.ret (JE.av rfl (RV.tmp rfl) fun w' hw=>⟨rfl,hw.aE⟩)
def qR (c : Bt) (s : List Bt) : Value:=if s.getLast?=some c then .tuple #[Z s.dropLast,.bool true] else .tuple #[Z s,.bool false]
theorem qo (s : List Bt) (c : Bt) (w : World) (hl : s.length<9223372036854775808) : Calls Tryz.prog 218 [Z s,Z [c]].toArray w fun e w'=>e=.returned (qR c s)∧Ext w w':=by
  refine enter (n:=18) Tryz.func218 rfl rfl rfl (aa.start w []) ?_
  have hq:=fun w'=>qn s c w' hl
  unfold qR
  by_cases h : s.getLast?=some c
  · simp only [h,decide_true,if_true] at hq ⊢
    have hle : 1≤s.length:=by
      cases s with
      | nil=>cases h
      | cons d r=>simp
    have hsub : s.length - 1≤s.length:=Nat.sub_le _ _
    repeat (first | refine JL.q (by first|(apply OQ.ah (vs:=[Z s,Z [c]]);exact jH;rfl;exact (fun w' _=>hq w'))|(apply OQ.not;rfl)|(apply OQ.move;rfl)|(apply OQ.assign;rfl)) rfl ?_ | refine JC.seq ?_ | refine JC.region ?_ | refine JL.nil ?_ | refine JE.next ?_)
    refine JC.cond rfl (fun h=>by cases h) (fun _=>?_)
    repeat (first | refine JL.q (by first|(apply OQ.bu;exact Tryz.underlying9;rfl)|(apply OQ.hO (b:=1);rfl;rfl;exact hle;exact hl)|(apply OQ.bI (j:=s.length - 1);exact Tryz.underlying9;rfl;rfl;exact hsub)|(apply OQ.move;rfl)|(apply OQ.assign;rfl)) rfl ?_ | refine JC.seq ?_ | refine JC.region ?_ | refine JC.skip ?_ | refine JL.nil ?_ | refine JE.next ?_)
    refine JC.ret ?_
    skip
    refine JE.bz rfl (RV.tmp rfl) (RV.tmp rfl) fun w' hw=>⟨?_,hw.aE⟩
    rw [List.dropLast_eq_take]
  · simp only [h,decide_false,if_false] at hq ⊢
    repeat (first | refine JL.q (by first|(apply OQ.ah (vs:=[Z s,Z [c]]);exact jH;rfl;exact (fun w' _=>hq w'))|(apply OQ.not;rfl)|(apply OQ.move;rfl)|(apply OQ.assign;rfl)) rfl ?_ | refine JC.seq ?_ | refine JC.region ?_ | refine JL.nil ?_ | refine JE.next ?_)
    refine JC.cond rfl (fun _=>?_) (fun h=>by cases h)
    repeat (first | refine JL.q (by first|(apply OQ.move;rfl)|(apply OQ.assign;rfl)) rfl ?_ | refine JC.seq ?_ | refine JC.region ?_ | refine JL.nil ?_ | refine JE.next ?_)
    refine JC.ret ?_
    repeat (refine JE.ag ?_)
    exact JE.bz rfl (RV.tmp rfl) (RV.tmp rfl) fun w' hw=>⟨rfl,hw.aE⟩
theorem iF (s : List Bt) (c : Bt) (w : World) (hl : s.length<9223372036854775808) : Calls Tryz.prog 178 [Z s,Z [c]].toArray w fun e w'=>e=.returned (qR c s)∧Ext w w':=by
  refine enter (n:=11) Tryz.func178 rfl rfl rfl (aa.start w []) ?_
  have hq:=fun w'=>qo s c w' hl
  unfold qR at hq ⊢
  by_cases h : s.getLast?=some c
  · simp only [h,if_true] at hq ⊢
    repeat (first | refine JL.q (by first|(apply OQ.ah (vs:=[Z s,Z [c]]);exact jI;rfl;exact (fun w' _=>hq w'))|(apply OQ.extract;rfl;rfl)|(apply OQ.move;rfl)|(apply OQ.assign;rfl)) rfl ?_ | refine JC.seq ?_ | refine JC.region ?_ | refine JL.nil ?_ | refine JE.next ?_)
    exact JC.ret (JE.bz rfl (RV.tmp rfl) (RV.tmp rfl) fun w' hw=>⟨rfl,hw.aE⟩)
  · simp only [h,if_false] at hq ⊢
    repeat (first | refine JL.q (by first|(apply OQ.ah (vs:=[Z s,Z [c]]);exact jI;rfl;exact (fun w' _=>hq w'))|(apply OQ.extract;rfl;rfl)|(apply OQ.move;rfl)|(apply OQ.assign;rfl)) rfl ?_ | refine JC.seq ?_ | refine JC.region ?_ | refine JL.nil ?_ | refine JE.next ?_)
    exact JC.ret (JE.bz rfl (RV.tmp rfl) (RV.tmp rfl) fun w' hw=>⟨rfl,hw.aE⟩)
theorem kF : aC Tryz.prog 219:=⟨_,Tryz.func219,rfl,by kernel_rfl⟩
theorem fV : aC Tryz.prog 179:=⟨_,Tryz.func179,rfl,by kernel_rfl⟩
set_option maxHeartbeats 2000000 in
theorem mq (s : List Bt) (c : Bt) (w : World) (hl : s.length<9223372036854775808) : Calls Tryz.prog 219 [Z s,U8 c].toArray w fun e w'=>e=.returned (I (l5 c s))∧Ext w w':=by
  refine enter (n:=19) Tryz.func219 rfl rfl rfl (aa.start w []) ?_
  repeat (first | refine JL.q (by first|(apply OQ.bu;exact Tryz.underlying9;rfl)|(apply OQ.pQ (a:=(s.length : Int)) (b:=1);rfl;rfl;exact (by omega);exact (by omega))|(apply OQ.move;rfl)|(apply OQ.assign;rfl)) rfl ?_ | refine JC.seq ?_ | refine JC.region ?_ | refine JC.block ?_ | refine JL.nil ?_ | refine JE.next ?_)
  refine JC.loop (fun i : Int=>[(0,Z s),(1,U8 c),(5,I i)]) (fun _=>[]) (fun i=>(i+1).toNat) (fun i=>-1≤i∧i<s.length∧(la c s : Int)=(s.length : Int) - 1 - i+la c (s.take (i+1).toNat)) ((s.length : Int) - 1) ⟨by omega,by omega,by rw [show ((s.length : Int) - 1+1).toNat=s.length by omega,List.take_length];omega⟩ (by repeat (first | exact ai.nil | refine ai.cons _ _ _ rfl ?_)) (ak.refl _) ?_
  rintro i ⟨h1,h2,h3⟩
  cases g : decide ((0 : Int)≤i)
  · have hi : i=-1:=by have:=of_decide_eq_false g;omega
    subst hi
    have e : l5 c s=-1:=by
      unfold l5
      have : la c (s.take ((-1 : Int)+1).toNat)=0:=rfl
      rw [this] at h3
      omega
    rw [e]
    repeat (first | refine JL.q (by first|(apply OQ.bK (b:=0);rfl;rfl;exact g)|(apply OQ.move;rfl)) rfl ?_ | refine JC.seq ?_ | refine JC.region ?_ | refine JL.nil ?_ | refine JE.next ?_)
    refine JC.cond rfl (fun h=>by cases h) (fun _=>?_)
    repeat (first | refine JL.q (by (apply OQ.assign;rfl)) rfl ?_ | refine JC.seq ?_ | refine JC.region ?_ | refine JC.exit ?_ | refine JL.nil ?_ | refine JE.next ?_ | refine JE.aU ?_ | refine JE.bt ?_)
    refine JC.ret ?_
    exact JE.av rfl (RV.tmp rfl) fun w' hw=>⟨rfl,hw.aE⟩
  · obtain ⟨k,rfl⟩ : ∃ k : Nat,i=k:=⟨i.toNat,by have:=of_decide_eq_true g;omega⟩
    have hk : k<s.length:=by omega
    have ht : s.take ((k : Int)+1).toNat=s.take k++[s.getD k 0]:=by
      rw [show ((k : Int)+1).toNat=k+1 by omega]
      exact bq s hk
    rw [ht,p9] at h3
    have i0 : ∀ {n : Nat} {E : Env} {C : World→Prop} {dst : Option Tmp} {ty : TypeId} {pos : String} {aft : Array Edge} {g : Option (Nat × Bool)} {x y : Operand},ev E x=some (Z s)→ev E y=some (I k)→OQ Tryz.prog n E C ⟨dst,.index 9 x y,ty,pos,aft,g⟩ (U8 (s.getD k 0)):=fun hx hy=>OQ.jb Tryz.underlying9 hx hy hk
    generalize s.getD k 0=d at h3 i0
    cases g2 : decide (d=c)
    · rw [if_neg (of_decide_eq_false g2)] at h3
      repeat (first | refine JL.q (by first|(apply OQ.bK (b:=0);rfl;rfl;exact g)|(apply OQ.move;rfl)) rfl ?_ | refine JC.seq ?_ | refine JC.region ?_ | refine JL.nil ?_ | refine JE.next ?_)
      refine JC.cond rfl (fun _=>?_) (fun h=>by cases h)
      repeat (first | refine JL.q (by first|(apply i0;rfl;rfl)|(apply OQ.to;exact (OQ.s9 rfl rfl);exact (congrArg Value.bool g2))|(apply OQ.move;rfl)) rfl ?_ | refine JC.seq ?_ | refine JC.region ?_ | refine JC.block ?_ | refine JC.skip ?_ | refine JL.nil ?_ | refine JE.next ?_)
      refine JC.cond rfl (fun h=>by cases h) (fun _=>?_)
      repeat (first | refine JL.q (by first|(apply OQ.pQ (a:=(k : Int)) (b:=1);rfl;rfl;exact (by omega);exact (by omega))|(apply OQ.move;rfl)|(apply OQ.assign;rfl)) rfl ?_ | refine JC.region ?_ | refine JC.skip ?_ | refine JL.nil ?_ | refine JE.next ?_ | refine JE.an ?_)
      refine JE.again (i:=(k : Int)) ((k : Int) - 1) ⟨by omega,by omega,?_⟩ (by omega) (by repeat (first | exact ai.nil | refine ai.cons _ _ _ rfl ?_)) (ak.refl _)
      rw [show ((k : Int) - 1+1).toNat=k by omega]
      omega
    · rw [if_pos (of_decide_eq_true g2)] at h3
      have e : l5 c s=k:=by
        unfold l5
        omega
      rw [e]
      repeat (first | refine JL.q (by first|(apply OQ.bK (b:=0);rfl;rfl;exact g)|(apply OQ.move;rfl)) rfl ?_ | refine JC.seq ?_ | refine JC.region ?_ | refine JL.nil ?_ | refine JE.next ?_)
      refine JC.cond rfl (fun _=>?_) (fun h=>by cases h)
      repeat (first | refine JL.q (by first|(apply i0;rfl;rfl)|(apply OQ.to;exact (OQ.s9 rfl rfl);exact (congrArg Value.bool g2))|(apply OQ.move;rfl)) rfl ?_ | refine JC.seq ?_ | refine JC.region ?_ | refine JC.block ?_ | refine JC.skip ?_ | refine JL.nil ?_ | refine JE.next ?_)
      refine JC.cond rfl (fun _=>?_) (fun h=>by cases h)
      repeat (first | refine JL.q (by first|(apply OQ.move;rfl)|(apply OQ.assign;rfl)) rfl ?_ | refine JC.seq ?_ | refine JC.region ?_ | refine JL.nil ?_ | refine JE.next ?_)
      refine JC.ret ?_
      repeat (first | refine JE.ag ?_ | refine JE.aJ ?_)
      exact JE.av rfl (RV.tmp rfl) fun w' hw=>⟨rfl,hw.aE⟩
theorem mu (s : List Bt) (c : Bt) (w : World) (hl : s.length<9223372036854775808) : Calls Tryz.prog 179 [Z s,U8 c].toArray w fun e w'=>e=.returned (I (l5 c s))∧Ext w w':=by
  refine enter (n:=8) Tryz.func179 rfl rfl rfl (aa.start w []) ?_
  repeat (first | refine JL.q (by first|(apply OQ.ah (vs:=[Z s,U8 c]);exact kF;rfl;exact (fun w' _=>mq s c w' hl))|(apply OQ.move;rfl)|(apply OQ.assign;rfl)) rfl ?_ | refine JC.seq ?_ | refine JC.region ?_ | refine JL.nil ?_ | refine JE.next ?_)
  exact JC.ret (JE.av rfl (RV.tmp rfl) fun w' hw=>⟨rfl,hw.aE⟩)
end
section
set_option maxRecDepth 10000
open Sl aq Tok
theorem fW (s : List aq.By) : (trim s).length≤s.length:=by
  have h : ∀ l : List aq.By,(bL l).length≤l.length:=fun l=>(List.dropWhile_sublist _).length_le
  have h1:=h s
  have h2:=h (bL s).reverse
  simp only [trim,List.length_reverse] at h2 ⊢
  omega
end
section
set_option maxRecDepth 10000
open Sl aq Tok
theorem aT : aC Tryz.prog 181:=⟨_,Tryz.func181,rfl,by kernel_rfl⟩
theorem dJ : aC Tryz.prog 146:=⟨_,Tryz.func146,rfl,by kernel_rfl⟩
theorem qS : dM Tryz.prog 9=some 1:=by kernel_rfl
theorem lH : ∀ (s : List aq.By) (l : aq.By),kq s l=((!(l == 46) || !((cg 46 s).headD []).isEmpty) && (((cg 46 s).headD []).all cq && (cg 46 s).tail.all cI))
  | [],l=>by simp [kq,cg]
  | c::r,l=>by
    have ih:=lH r
    have hne:=kE 46 r
    rw [kq]
    obtain ⟨x,L,hx⟩ : ∃ x L,cg 46 r=x::L:=by
      cases h : cg 46 r with
      | nil=>exact absurd h hne
      | cons x L=>exact ⟨x,L,rfl⟩
    by_cases hc : c=46
    · subst hc
      rw [cg,if_pos rfl]
      simp only [ih,hx,List.headD_cons,List.tail_cons,List.all_cons,List.all_nil]
      by_cases hl : l=46
      · subst hl
        simp
      · rw [if_neg (by rintro (⟨_,h⟩ | ⟨h,_⟩);exact hl h;exact h trivial)]
        have : (l == 46)=false:=beq_eq_false_iff_ne.2 hl
        rw [this]
        simp only [cI,Bool.not_false,Bool.true_or,Bool.true_and,beq_self_eq_true,Bool.not_true,Bool.false_or]
        cases x with
        | nil=>simp
        | cons d x=>simp [Bool.and_assoc]
    · rw [cg,if_neg hc,hx]
      simp only [ih,hx,List.headD_cons,List.tail_cons,List.all_cons]
      have hb : (c == 46)=false:=beq_eq_false_iff_ne.2 hc
      rw [hb]
      cases hp : cq c with
      | false=>
        rw [if_pos (.inr ⟨hc,rfl⟩)]
        simp
      | true=>
        rw [if_neg (by rintro (⟨h,_⟩ | ⟨_,h⟩);exact hc h;cases h)]
        simp
theorem qp (s : List aq.By) : bW s=(cg 46 s).all cI:=by
  unfold bW
  rw [lH]
  cases h : cg 46 s with
  | nil=>exact absurd h (kE 46 s)
  | cons x L=>
    rw [List.headD_cons,List.tail_cons,List.all_cons,cI]
    cases x with
    | nil=>simp
    | cons d x=>simp [Bool.and_assoc]
theorem lI (c : aq.By) : ∀ s : List aq.By,(cg c s).length≤s.length+1∧∀ x ∈ cg c s,x.length≤s.length
  | []=>by simp [cg]
  | d::r=>by
    obtain ⟨h1,h2⟩:=lI c r
    rw [cg]
    split
    · refine ⟨by simp only [List.length_cons];omega,fun x hx=>?_⟩
      rcases List.mem_cons.1 hx with rfl | hx
      · simp
      · have:=h2 x hx
        simp only [List.length_cons]
        omega
    · cases h : cg c r with
      | nil=>exact absurd h (kE c r)
      | cons y L=>
        rw [h] at h1 h2
        refine ⟨by simpa using Nat.le_succ_of_le h1,fun x hx=>?_⟩
        rcases List.mem_cons.1 hx with rfl | hx
        · have:=h2 y (by simp)
          simpa using this
        · have:=h2 x (by simp [hx])
          simp only [List.length_cons]
          omega
set_option maxHeartbeats 8000000 in
theorem cE (s : List Bt) (w : World) (hl : s.length<4294967281) : Calls Tryz.prog 181 [Z s].toArray w fun e w'=>e=.returned (.bool (bW s))∧Ext w w':=by
  refine enter (n:=16) Tryz.func181 rfl rfl rfl (aa.start w []) ?_
  rw [qp]
  obtain ⟨h1,h2⟩:=lI 46 s
  repeat (first | refine JL.q (by first|(apply OQ.move;rfl)|(apply OQ.assign;rfl)) rfl ?_ | refine JC.seq ?_ | refine JC.region ?_ | refine JL.nil ?_ | refine JE.next ?_)
  refine JL.dy (ι:=Nat) (vs:=[Z s,Z [46]]) (fun b=>.slice (some ⟨b,0,none⟩) (cg 46 s).length (cg 46 s).length) (fun b=>[⟨b,Row 9 ((cg 46 s).map Z),true⟩]) mj rfl rfl (fun b e he=>by rw [List.mem_singleton.1 he]) (fun w' _=>ou s 46 w' hl) fun b=>?_
  generalize cg 46 s=L at h1 h2
  repeat (first | refine JL.q (by first|(apply OQ.len;exact Tryz.underlying30;rfl)|(apply OQ.move;rfl)) rfl ?_ | refine JC.block ?_ | refine JL.nil ?_ | refine JE.next ?_)
  refine JC.loop (fun i : Nat=>[(6,.slice (some ⟨b,0,none⟩) L.length L.length),(7,N L.length),(8,N i)]) (fun _=>[⟨b,Row 9 (L.map Z),true⟩]) (fun i=>L.length - i) (fun i=>i≤L.length∧(L.take i).all cI=true) 0 ⟨Nat.zero_le _,by simp⟩ (by repeat (first | exact ai.nil | refine ai.cons _ _ _ rfl ?_)) (ak.refl _) ?_
  rintro i ⟨hi,ha⟩
  repeat (first | refine JL.q (by (apply OQ.gp;rfl;rfl)) rfl ?_ | refine JC.seq ?_ | refine JC.region ?_ | refine JL.nil ?_ | refine JE.next ?_)
  refine JC.cond rfl (fun h=>?_) (fun h=>?_)
  · have hi' : i<L.length:=of_decide_eq_true h
    clear h hi
    have hx : L.getD i [] ∈ L:=by
      rw [List.getD_eq_getElem?_getD,List.getElem?_eq_getElem hi']
      exact List.getElem_mem hi'
    have hxl:=h2 _ hx
    have hv : (L.map Z)[i]?=some (Z (L.getD i [])):=fo Z [] hi'
    have cA:=fun w'=>me (L.getD i []) w' (by omega)
    have hall:=nH cI L [] hi'
    have hbad:=pW cI L [] hi'
    rw [ha,Bool.true_and] at hall
    generalize L.getD i []=x at hv cA hall hbad
    cases hat : cI x
    · rw [hat] at cA
      rw [hbad hat]
      repeat (first | refine JL.q (by first|(apply OQ.qE;exact Tryz.underlying30;exact qS;rfl;rfl;exact hi')|(apply OQ.load;exact od;rfl;exact .here;exact (Row.cell hv))|(apply OQ.ah (vs:=[Z x]);exact fQ;rfl;exact (fun w' _=>cA w'))|(apply OQ.not;rfl)|(apply OQ.move;rfl)|(apply OQ.assign;rfl)) rfl ?_ | refine JC.seq ?_ | refine JC.region ?_ | refine JC.block ?_ | refine JC.skip ?_ | refine JL.nil ?_ | refine JE.next ?_)
      refine JC.cond rfl (fun _=>?_) (fun h=>by cases h)
      repeat (first | refine JL.q (by (apply OQ.assign;rfl)) rfl ?_ | refine JC.seq ?_ | refine JC.region ?_ | refine JL.nil ?_ | refine JE.next ?_)
      refine JC.ret ?_
      repeat (first | refine JE.ag ?_ | refine JE.aJ ?_)
      exact JE.av rfl (RV.tmp rfl) fun w' hw=>⟨rfl,hw.aE⟩
    · rw [hat] at cA hall
      repeat (first | refine JL.q (by first|(apply OQ.qE;exact Tryz.underlying30;exact qS;rfl;rfl;exact hi')|(apply OQ.load;exact od;rfl;exact .here;exact (Row.cell hv))|(apply OQ.ah (vs:=[Z x]);exact fQ;rfl;exact (fun w' _=>cA w'))|(apply OQ.not;rfl)|(apply OQ.move;rfl)|(apply OQ.assign;rfl)) rfl ?_ | refine JC.seq ?_ | refine JC.region ?_ | refine JC.block ?_ | refine JC.skip ?_ | refine JL.nil ?_ | refine JE.next ?_)
      refine JC.cond rfl (fun h=>by cases h) (fun _=>?_)
      repeat (first | refine JL.q (by first|(apply OQ.move;rfl)|(apply OQ.cr;rfl;rfl;exact (by (try simp only []);omega))) rfl ?_ | refine JC.region ?_ | refine JC.skip ?_ | refine JL.nil ?_ | refine JE.next ?_ | refine JE.an ?_)
      exact JE.again (i:=i) (i+1) ⟨hi',hall⟩ (by omega) (by repeat (first | exact ai.nil | refine ai.cons _ _ _ rfl ?_)) (ak.refl _)
  · have hi' : ¬ i<L.length:=of_decide_eq_false h
    obtain rfl : i=L.length:=by omega
    rw [List.take_length] at ha
    rw [ha]
    repeat (first | refine JL.q (by (apply OQ.assign;rfl)) rfl ?_ | refine JC.seq ?_ | refine JC.region ?_ | refine JC.exit ?_ | refine JL.nil ?_ | refine JE.next ?_ | refine JE.aU ?_ | refine JE.bt ?_)
    refine JC.ret ?_
    exact JE.av rfl (RV.tmp rfl) fun w' hw=>⟨rfl,hw.aE⟩
theorem mw {c : aq.By} (h : cq c=true) : c.toNat<128:=by
  simp only [cq,Bool.and_eq_true,decide_eq_true_eq] at h
  omega
theorem fX : ∀ (s : List aq.By) (l : aq.By),kq s l=true→∀ c ∈ s,c.toNat<128
  | [],_,_,_,hc=>by cases hc
  | c::r,l,h,d,hd=>by
    rw [kq] at h
    split at h
    · cases h
    · next hn=>
      rcases List.mem_cons.1 hd with rfl | hd
      · by_cases e : d=46
        · subst e;decide
        · cases hp : cq d with
          | true=>exact mw hp
          | false=>exact absurd (.inr ⟨e,hp⟩) hn
      · exact fX r c h d hd
theorem rI (s : List aq.By) : th s=s.drop (s.length - la 60 s):=by
  unfold th la
  have h:=List.takeWhile_append_dropWhile (p:=fun d=>!(d == (60 : aq.By))) (l:=s.reverse)
  generalize s.reverse.takeWhile (fun d=>!(d == (60 : aq.By)))=a at h ⊢
  generalize s.reverse.dropWhile (fun d=>!(d == (60 : aq.By)))=b at h
  have hs : s=b.reverse++a.reverse:=by rw [← List.reverse_append,h,List.reverse_reverse]
  rw [hs,List.length_append,List.length_reverse,List.length_reverse,Nat.add_sub_cancel,List.drop_append_of_le_length (by simp),List.drop_of_length_le (by simp),List.nil_append]
theorem ov (s : List aq.By) : jg s=if s.getLast?=some 62 then (if 60 ∈ s.dropLast then dA (trim (s.dropLast.drop (s.dropLast.length - la 60 s.dropLast))) else ([],3)) else dA s:=by
  unfold jg
  by_cases h : s.getLast?=some 62
  · obtain ⟨a,rfl⟩:=List.getLast?_eq_some_iff.1 h
    rw [if_pos ⟨by simp,by simp⟩,if_pos h,List.dropLast_concat,rI]
    congr 1
    simp
  · rw [if_neg h,if_neg]
    rintro ⟨h1,h2⟩
    refine h ?_
    rw [List.getLast?_eq_getElem?,List.getElem?_eq_getElem (by omega)]
    rw [List.getD_eq_getElem?_getD,List.getElem?_eq_getElem (by omega)] at h2
    exact congrArg some h2
theorem jK (s : List aq.By) : dA s=if fi 64 s<s.length∧bW (s.take (fi 64 s))=true∧bW (s.drop (fi 64 s+1))=true then (s.take (fi 64 s)++[64]++(s.drop (fi 64 s+1)).map small,0) else ([],3):=by
  have hf : fst 64 s=fi 64 s:=rfl
  unfold dA
  rw [hf]
  have h1:=jt 64 s
  by_cases h : fi 64 s<s.length
  · have ht : s.take (fi 64 s+1)=s.take (fi 64 s)++[64]:=by
      rw [List.take_add_one,List.getElem?_eq_getElem h,Option.toList_some]
      congr 2
      have:=nU 64 s h
      rw [List.getD_eq_getElem?_getD,List.getElem?_eq_getElem h] at this
      exact this
    cases d1 : bW (s.take (fi 64 s)) <;> cases d2 : bW (s.drop (fi 64 s+1))
    · rw [if_pos (.inr (.inl rfl)),if_neg (fun k=>by cases k.2.1)]
    · rw [if_pos (.inr (.inl rfl)),if_neg (fun k=>by cases k.2.1)]
    · rw [if_pos (.inr (.inr rfl)),if_neg (fun k=>by cases k.2.2)]
    · rw [if_neg (by rintro (k | k | k);omega;cases k;cases k),if_pos ⟨h,rfl,rfl⟩,ht]
  · rw [if_pos (.inl (by omega)),if_neg (fun k=>h k.1)]
set_option maxHeartbeats 32000000 in
theorem mA (s : List Bt) (w : World) (hl : s.length<1000000) : Calls Tryz.prog 146 [Z s].toArray w fun e w'=>e=.returned (.tuple #[Z (fE s).1,N (fE s).2])∧Ext w w':=by
  refine enter (n:=61) Tryz.func146 rfl rfl rfl (aa.start w []) ?_
  have cB:=fun w'=>mg s w' (by omega)
  have hbl:=lY s
  unfold fE
  generalize (dz s).1=x at cB hbl ⊢
  generalize (dz s).2=k at cB ⊢
  cases hk : decide ((k : Int)=0)
  · rw [if_neg (by have:=of_decide_eq_false hk;omega)]
    repeat (first | refine JL.q (by first|(apply OQ.ah (vs:=[Z s]);exact fR;rfl;exact (fun w' _=>cB w'))|(apply OQ.extract;rfl;rfl)|(apply OQ.ru (b:=0);rfl;rfl;exact hk)|(apply OQ.move;rfl)|(apply OQ.assign;rfl)) rfl ?_ | refine JC.seq ?_ | refine JC.region ?_ | refine JL.nil ?_ | refine JE.next ?_)
    refine JC.cond rfl (fun _=>?_) (fun h=>by cases h)
    repeat (first | refine JL.q (by first|(apply OQ.move;rfl)|(apply OQ.assign;rfl)) rfl ?_ | refine JC.seq ?_ | refine JC.region ?_ | refine JL.nil ?_ | refine JE.next ?_)
    refine JC.ret ?_
    repeat (refine JE.ag ?_)
    refine JE.bz rfl (RV.tmp rfl) (RV.tmp rfl) ?_
    exact fun w' hw=>⟨rfl,hw.aE⟩
  rw [if_pos (by have:=of_decide_eq_true hk;omega)]
  have cT:=fun w'=>gN x w' (by omega)
  have htl:=fW x
  generalize trim x=t at cT htl ⊢
  have cS:=fun w'=>iF t 62 w' (by omega)
  have hT:=ov t
  unfold qR at cS
  repeat (first | refine JL.q (by first|(apply OQ.ah (vs:=[Z s]);exact fR;rfl;exact (fun w' _=>cB w'))|(apply OQ.extract;rfl;rfl)|(apply OQ.ru (b:=0);rfl;rfl;exact hk)|(apply OQ.move;rfl)|(apply OQ.assign;rfl)) rfl ?_ | refine JC.seq ?_ | refine JC.region ?_ | refine JL.nil ?_ | refine JE.next ?_)
  refine JC.cond rfl (fun h=>by cases h) (fun _=>?_)
  by_cases hg : t.getLast?=some 62
  · rw [if_pos hg] at hT cS
    have hal : t.dropLast.length≤t.length:=by rw [List.length_dropLast];omega
    generalize t.dropLast=a at hT cS hal
    have cL:=fun w'=>mu a 60 w' (by omega)
    have hla:=sG 60 a
    have hla2:=sF 60 a
    repeat (first | refine JL.q (by first|(apply OQ.ah (vs:=[Z x,Z [32,9]]);exact dI;rfl;exact (fun w' _=>cT w'))|(apply OQ.ah (vs:=[Z t,Z [62]]);exact jJ;rfl;exact (fun w' _=>cS w'))|(apply OQ.extract;rfl;rfl)|(apply OQ.move;rfl)|(apply OQ.assign;rfl)) rfl ?_ | refine JC.seq ?_ | refine JC.region ?_ | refine JC.skip ?_ | refine JL.nil ?_ | refine JE.next ?_)
    refine JC.join (ι:=List Bt) (fun y=>[(6,Z y)]) (fun _=>[]) (fun y=>jg t=dA y∧y.length<1000000) ?_ ?_
    · refine JC.cond rfl (fun _=>?_) (fun h=>by cases h)
      cases hm : decide (l5 60 a<0)
      · have hm' : ¬ l5 60 a<0:=of_decide_eq_false hm
        have hmem : 60 ∈ a:=hla.1 (by unfold l5 at hm';omega)
        rw [if_pos hmem] at hT
        obtain ⟨p,hp⟩ : ∃ p,p+1=a.length - la 60 a:=⟨a.length - la 60 a - 1,by have:=hla.2 hmem;omega⟩
        have hix : l5 60 a=(p : Int):=by unfold l5;omega
        have hpl : p+1≤a.length:=by omega
        rw [← hp] at hT
        rw [hix] at cL hm
        have hdl : (a.drop (p+1)).length≤a.length:=by rw [List.length_drop];omega
        have cT2:=fun w'=>gN (a.drop (p+1)) w' (by omega)
        have htl2:=fW (a.drop (p+1))
        generalize trim (a.drop (p+1))=y at hT cT2 htl2
        repeat (first | refine JL.q (by first|(apply OQ.ah (vs:=[Z a,U8 60]);exact fV;rfl;exact (fun w' _=>cL w'))|(apply OQ.rm (b:=0);rfl;rfl;exact hm)|(apply OQ.move;rfl)|(apply OQ.assign;rfl)) rfl ?_ | refine JC.seq ?_ | refine JC.region ?_ | refine JL.nil ?_ | refine JE.next ?_)
        refine JC.cond rfl (fun h=>by cases h) (fun _=>?_)
        repeat (first | refine JL.q (by first|(apply OQ.b9;exact Tryz.underlying9;rfl;rfl;exact hpl)|(apply OQ.ah (vs:=[Z (a.drop (p+1)),Z [32,9]]);exact dI;rfl;exact (fun w' _=>cT2 w'))|(apply OQ.move;rfl)|(apply OQ.assign;rfl)|(apply OQ.cr;rfl;rfl;exact (by (try simp only []);omega))) rfl ?_ | refine JC.region ?_ | refine JC.skip ?_ | refine JL.nil ?_ | refine JE.next ?_)
        exact JE.mid y ⟨hT,by omega⟩ (by repeat (first | exact ai.nil | refine ai.cons _ _ _ rfl ?_)) (ak.refl _)
      · have hm' : l5 60 a<0:=of_decide_eq_true hm
        have hmem : ¬ 60 ∈ a:=fun h=>by have:=hla.2 h;unfold l5 at hm';omega
        rw [if_neg hmem] at hT
        rw [hT]
        repeat (first | refine JL.q (by first|(apply OQ.ah (vs:=[Z a,U8 60]);exact fV;rfl;exact (fun w' _=>cL w'))|(apply OQ.rm (b:=0);rfl;rfl;exact hm)|(apply OQ.move;rfl)|(apply OQ.assign;rfl)) rfl ?_ | refine JC.seq ?_ | refine JC.region ?_ | refine JL.nil ?_ | refine JE.next ?_)
        refine JC.cond rfl (fun _=>?_) (fun h=>by cases h)
        repeat (first | refine JL.q (by (apply OQ.assign;rfl)) rfl ?_ | refine JC.seq ?_ | refine JC.region ?_ | refine JL.nil ?_ | refine JE.next ?_)
        refine JC.ret ?_
        repeat (refine JE.ag ?_)
        exact JE.bz rfl (RV.tmp rfl) (RV.tmp rfl) fun w' hw=>⟨rfl,hw.aE⟩
    · rintro y ⟨hy,hyl⟩
      rw [hy]
      have cC:=fun w'=>jw y 64 w' (by omega)
      have hfl:=jt 64 y
      have hS:=jK y
      unfold cutV at cC
      by_cases hf : fi 64 y<y.length
      · rw [if_pos hf] at cC
        have hwl : (y.take (fi 64 y)).length≤y.length:=by rw [List.length_take];omega
        have hdl : (y.drop (fi 64 y+1)).length≤y.length:=by rw [List.length_drop];omega
        have hlow:=fX (y.drop (fi 64 y+1)) 46
        replace hlow : bW (y.drop (fi 64 y+1))=true→∀ c ∈ y.drop (fi 64 y+1),c.toNat<128:=hlow
        replace hS : dA y=if bW (y.take (fi 64 y))=true∧bW (y.drop (fi 64 y+1))=true then (y.take (fi 64 y)++[64]++(y.drop (fi 64 y+1)).map small,0) else ([],3):=by
          rw [hS]
          by_cases h : bW (y.take (fi 64 y))=true∧bW (y.drop (fi 64 y+1))=true
          · rw [if_pos ⟨hf,h⟩,if_pos h]
          · rw [if_neg (fun k=>h k.2),if_neg h]
        generalize y.take (fi 64 y)=who at cC hS hwl
        generalize y.drop (fi 64 y+1)=whe at cC hS hdl hlow
        have c1:=fun w'=>cE who w' (by omega)
        have c2:=fun w'=>cE whe w' (by omega)
        cases d1 : bW who
        · rw [d1] at c1
          rw [hS,if_neg (fun k=>by rw [d1] at k;cases k.1)]
          repeat (first | refine JL.q (by first|(apply OQ.ah (vs:=[Z y,Z [64]]);exact bD;rfl;exact (fun w' _=>cC w'))|(apply OQ.extract;rfl;rfl)|(apply OQ.not;rfl)|(apply OQ.aN;rfl;rfl)|(apply OQ.aH;rfl;rfl)|(apply OQ.ah (vs:=[Z who]);exact aT;rfl;exact (fun w' _=>c1 w'))|(apply OQ.move;rfl)|(apply OQ.assign;rfl)) rfl ?_ | refine JC.seq ?_ | refine JC.region ?_ | refine JL.nil ?_ | refine JE.next ?_ | refine JL.aV rfl rfl ?_ | refine JL.bh rfl rfl rfl rfl ?_)
          refine JC.cond rfl (fun _=>?_) (fun h=>by cases h)
          repeat (first | refine JL.q (by (apply OQ.assign;rfl)) rfl ?_ | refine JC.seq ?_ | refine JC.region ?_ | refine JL.nil ?_ | refine JE.next ?_)
          refine JC.ret ?_
          repeat (refine JE.ag ?_)
          exact JE.bz rfl (RV.tmp rfl) (RV.tmp rfl) fun w' hw=>⟨rfl,hw.aE⟩
        · cases d2 : bW whe
          · rw [d1] at c1
            rw [d2] at c2
            rw [hS,if_neg (fun k=>by rw [d2] at k;cases k.2)]
            repeat (first | refine JL.q (by first|(apply OQ.ah (vs:=[Z y,Z [64]]);exact bD;rfl;exact (fun w' _=>cC w'))|(apply OQ.extract;rfl;rfl)|(apply OQ.not;rfl)|(apply OQ.aH;rfl;rfl)|(apply OQ.ah (vs:=[Z who]);exact aT;rfl;exact (fun w' _=>c1 w'))|(apply OQ.ah (vs:=[Z whe]);exact aT;rfl;exact (fun w' _=>c2 w'))|(apply OQ.move;rfl)|(apply OQ.assign;rfl)) rfl ?_ | refine JC.seq ?_ | refine JC.region ?_ | refine JL.nil ?_ | refine JE.next ?_ | refine JL.aV rfl rfl ?_)
            refine JC.cond rfl (fun _=>?_) (fun h=>by cases h)
            repeat (first | refine JL.q (by (apply OQ.assign;rfl)) rfl ?_ | refine JC.seq ?_ | refine JC.region ?_ | refine JL.nil ?_ | refine JE.next ?_)
            refine JC.ret ?_
            repeat (refine JE.ag ?_)
            exact JE.bz rfl (RV.tmp rfl) (RV.tmp rfl) fun w' hw=>⟨rfl,hw.aE⟩
          · rw [hS,if_pos ⟨d1,d2⟩]
            rw [d1] at c1
            rw [d2] at c2
            have cL:=fun w'=>gS whe w' (by omega) (hlow d2)
            repeat (first | refine JL.q (by first|(apply OQ.ah (vs:=[Z y,Z [64]]);exact bD;rfl;exact (fun w' _=>cC w'))|(apply OQ.extract;rfl;rfl)|(apply OQ.not;rfl)|(apply OQ.aH;rfl;rfl)|(apply OQ.ah (vs:=[Z who]);exact aT;rfl;exact (fun w' _=>c1 w'))|(apply OQ.ah (vs:=[Z whe]);exact aT;rfl;exact (fun w' _=>c2 w'))|(apply OQ.move;rfl)|(apply OQ.assign;rfl)) rfl ?_ | refine JC.seq ?_ | refine JC.region ?_ | refine JL.nil ?_ | refine JE.next ?_ | refine JL.aV rfl rfl ?_)
            refine JC.cond rfl (fun h=>by cases h) (fun _=>?_)
            repeat (first | refine JL.q (by first|(apply OQ.jc (l:=who) (r:=[64]);rfl;rfl;exact (by rw [List.length_singleton];omega))|(apply OQ.ah (vs:=[Z whe]);exact fU;rfl;exact (fun w' _=>cL w'))|(apply OQ.jc (l:=who++[64]) (r:=whe.map small);rfl;rfl;exact (by rw [List.length_append,List.length_map,List.length_singleton];omega))|(apply OQ.move;rfl)|(apply OQ.assign;rfl)) rfl ?_ | refine JC.seq ?_ | refine JC.region ?_ | refine JC.skip ?_ | refine JL.nil ?_ | refine JE.next ?_)
            refine JC.ret ?_
            exact JE.bz rfl (RV.tmp rfl) (RV.tmp rfl) fun w' hw=>⟨rfl,hw.aE⟩
      · rw [if_neg hf] at cC
        rw [hS,if_neg (fun k=>hf k.1)]
        repeat (first | refine JL.q (by first|(apply OQ.ah (vs:=[Z y,Z [64]]);exact bD;rfl;exact (fun w' _=>cC w'))|(apply OQ.extract;rfl;rfl)|(apply OQ.not;rfl)|(apply OQ.aN;rfl;rfl)|(apply OQ.move;rfl)|(apply OQ.assign;rfl)) rfl ?_ | refine JC.seq ?_ | refine JC.region ?_ | refine JL.nil ?_ | refine JE.next ?_ | refine JL.bh rfl rfl rfl rfl ?_)
        refine JC.cond rfl (fun _=>?_) (fun h=>by cases h)
        repeat (first | refine JL.q (by (apply OQ.assign;rfl)) rfl ?_ | refine JC.seq ?_ | refine JC.region ?_ | refine JL.nil ?_ | refine JE.next ?_)
        refine JC.ret ?_
        repeat (refine JE.ag ?_)
        exact JE.bz rfl (RV.tmp rfl) (RV.tmp rfl) fun w' hw=>⟨rfl,hw.aE⟩
  · rw [if_neg hg] at hT cS
    repeat (first | refine JL.q (by first|(apply OQ.ah (vs:=[Z x,Z [32,9]]);exact dI;rfl;exact (fun w' _=>cT w'))|(apply OQ.ah (vs:=[Z t,Z [62]]);exact jJ;rfl;exact (fun w' _=>cS w'))|(apply OQ.extract;rfl;rfl)|(apply OQ.move;rfl)|(apply OQ.assign;rfl)) rfl ?_ | refine JC.seq ?_ | refine JC.region ?_ | refine JC.skip ?_ | refine JL.nil ?_ | refine JE.next ?_)
    refine JC.join (ι:=List Bt) (fun y=>[(6,Z y)]) (fun _=>[]) (fun y=>jg t=dA y∧y.length<1000000) ?_ ?_
    · refine JC.cond rfl (fun h=>by cases h) (fun _=>?_)
      repeat (refine JC.skip ?_)
      exact JE.mid t ⟨hT,by omega⟩ (by repeat (first | exact ai.nil | refine ai.cons _ _ _ rfl ?_)) (ak.refl _)
    · rintro y ⟨hy,hyl⟩
      rw [hy]
      have cC:=fun w'=>jw y 64 w' (by omega)
      have hfl:=jt 64 y
      have hS:=jK y
      unfold cutV at cC
      by_cases hf : fi 64 y<y.length
      · rw [if_pos hf] at cC
        have hwl : (y.take (fi 64 y)).length≤y.length:=by rw [List.length_take];omega
        have hdl : (y.drop (fi 64 y+1)).length≤y.length:=by rw [List.length_drop];omega
        have hlow:=fX (y.drop (fi 64 y+1)) 46
        replace hlow : bW (y.drop (fi 64 y+1))=true→∀ c ∈ y.drop (fi 64 y+1),c.toNat<128:=hlow
        replace hS : dA y=if bW (y.take (fi 64 y))=true∧bW (y.drop (fi 64 y+1))=true then (y.take (fi 64 y)++[64]++(y.drop (fi 64 y+1)).map small,0) else ([],3):=by
          rw [hS]
          by_cases h : bW (y.take (fi 64 y))=true∧bW (y.drop (fi 64 y+1))=true
          · rw [if_pos ⟨hf,h⟩,if_pos h]
          · rw [if_neg (fun k=>h k.2),if_neg h]
        generalize y.take (fi 64 y)=who at cC hS hwl
        generalize y.drop (fi 64 y+1)=whe at cC hS hdl hlow
        have c1:=fun w'=>cE who w' (by omega)
        have c2:=fun w'=>cE whe w' (by omega)
        cases d1 : bW who
        · rw [d1] at c1
          rw [hS,if_neg (fun k=>by rw [d1] at k;cases k.1)]
          repeat (first | refine JL.q (by first|(apply OQ.ah (vs:=[Z y,Z [64]]);exact bD;rfl;exact (fun w' _=>cC w'))|(apply OQ.extract;rfl;rfl)|(apply OQ.not;rfl)|(apply OQ.aN;rfl;rfl)|(apply OQ.aH;rfl;rfl)|(apply OQ.ah (vs:=[Z who]);exact aT;rfl;exact (fun w' _=>c1 w'))|(apply OQ.move;rfl)|(apply OQ.assign;rfl)) rfl ?_ | refine JC.seq ?_ | refine JC.region ?_ | refine JL.nil ?_ | refine JE.next ?_ | refine JL.aV rfl rfl ?_ | refine JL.bh rfl rfl rfl rfl ?_)
          refine JC.cond rfl (fun _=>?_) (fun h=>by cases h)
          repeat (first | refine JL.q (by (apply OQ.assign;rfl)) rfl ?_ | refine JC.seq ?_ | refine JC.region ?_ | refine JL.nil ?_ | refine JE.next ?_)
          refine JC.ret ?_
          repeat (refine JE.ag ?_)
          exact JE.bz rfl (RV.tmp rfl) (RV.tmp rfl) fun w' hw=>⟨rfl,hw.aE⟩
        · cases d2 : bW whe
          · rw [d1] at c1
            rw [d2] at c2
            rw [hS,if_neg (fun k=>by rw [d2] at k;cases k.2)]
            repeat (first | refine JL.q (by first|(apply OQ.ah (vs:=[Z y,Z [64]]);exact bD;rfl;exact (fun w' _=>cC w'))|(apply OQ.extract;rfl;rfl)|(apply OQ.not;rfl)|(apply OQ.aH;rfl;rfl)|(apply OQ.ah (vs:=[Z who]);exact aT;rfl;exact (fun w' _=>c1 w'))|(apply OQ.ah (vs:=[Z whe]);exact aT;rfl;exact (fun w' _=>c2 w'))|(apply OQ.move;rfl)|(apply OQ.assign;rfl)) rfl ?_ | refine JC.seq ?_ | refine JC.region ?_ | refine JL.nil ?_ | refine JE.next ?_ | refine JL.aV rfl rfl ?_)
            refine JC.cond rfl (fun _=>?_) (fun h=>by cases h)
            repeat (first | refine JL.q (by (apply OQ.assign;rfl)) rfl ?_ | refine JC.seq ?_ | refine JC.region ?_ | refine JL.nil ?_ | refine JE.next ?_)
            refine JC.ret ?_
            repeat (refine JE.ag ?_)
            exact JE.bz rfl (RV.tmp rfl) (RV.tmp rfl) fun w' hw=>⟨rfl,hw.aE⟩
          · rw [hS,if_pos ⟨d1,d2⟩]
            rw [d1] at c1
            rw [d2] at c2
            have cL:=fun w'=>gS whe w' (by omega) (hlow d2)
            repeat (first | refine JL.q (by first|(apply OQ.ah (vs:=[Z y,Z [64]]);exact bD;rfl;exact (fun w' _=>cC w'))|(apply OQ.extract;rfl;rfl)|(apply OQ.not;rfl)|(apply OQ.aH;rfl;rfl)|(apply OQ.ah (vs:=[Z who]);exact aT;rfl;exact (fun w' _=>c1 w'))|(apply OQ.ah (vs:=[Z whe]);exact aT;rfl;exact (fun w' _=>c2 w'))|(apply OQ.move;rfl)|(apply OQ.assign;rfl)) rfl ?_ | refine JC.seq ?_ | refine JC.region ?_ | refine JL.nil ?_ | refine JE.next ?_ | refine JL.aV rfl rfl ?_)
            refine JC.cond rfl (fun h=>by cases h) (fun _=>?_)
            repeat (first | refine JL.q (by first|(apply OQ.jc (l:=who) (r:=[64]);rfl;rfl;exact (by rw [List.length_singleton];omega))|(apply OQ.ah (vs:=[Z whe]);exact fU;rfl;exact (fun w' _=>cL w'))|(apply OQ.jc (l:=who++[64]) (r:=whe.map small);rfl;rfl;exact (by rw [List.length_append,List.length_map,List.length_singleton];omega))|(apply OQ.move;rfl)|(apply OQ.assign;rfl)) rfl ?_ | refine JC.seq ?_ | refine JC.region ?_ | refine JC.skip ?_ | refine JL.nil ?_ | refine JE.next ?_)
            refine JC.ret ?_
            exact JE.bz rfl (RV.tmp rfl) (RV.tmp rfl) fun w' hw=>⟨rfl,hw.aE⟩
      · rw [if_neg hf] at cC
        rw [hS,if_neg (fun k=>hf k.1)]
        repeat (first | refine JL.q (by first|(apply OQ.ah (vs:=[Z y,Z [64]]);exact bD;rfl;exact (fun w' _=>cC w'))|(apply OQ.extract;rfl;rfl)|(apply OQ.not;rfl)|(apply OQ.aN;rfl;rfl)|(apply OQ.move;rfl)|(apply OQ.assign;rfl)) rfl ?_ | refine JC.seq ?_ | refine JC.region ?_ | refine JL.nil ?_ | refine JE.next ?_ | refine JL.bh rfl rfl rfl rfl ?_)
        refine JC.cond rfl (fun _=>?_) (fun h=>by cases h)
        repeat (first | refine JL.q (by (apply OQ.assign;rfl)) rfl ?_ | refine JC.seq ?_ | refine JC.region ?_ | refine JL.nil ?_ | refine JE.next ?_)
        refine JC.ret ?_
        repeat (refine JE.ag ?_)
        exact JE.bz rfl (RV.tmp rfl) (RV.tmp rfl) fun w' hw=>⟨rfl,hw.aE⟩
end
section
set_option maxRecDepth 10000
open Sl
theorem mB : aC Tryz.prog 193:=⟨_,Tryz.func193,rfl,by kernel_rfl⟩
set_option maxHeartbeats 2000000 in
theorem ow (s d : List Bt) (w : World) : Calls Tryz.prog 193 [Z s,Z d].toArray w fun e w'=>e=.returned (.bool (decide (s.take d.length=d)))∧Ext w w':=by
  refine enter (n:=18) Tryz.func193 rfl rfl rfl (aa.start w []) ?_
  cases h1 : decide ((d.length : Int)≤(s.length : Int))
  · have hF : decide (s.take d.length=d)=false:=decide_eq_false fun e=>by
      have:=congrArg List.length e
      rw [List.length_take] at this
      have:=of_decide_eq_false h1
      omega
    rw [hF]
    repeat (first | refine JL.q (by first|(apply OQ.bu;exact Tryz.underlying9;rfl)|(apply OQ.bK (b:=(d.length : Int));rfl;rfl;exact h1)|(apply OQ.aH;rfl;rfl)|(apply OQ.move;rfl)|(apply OQ.assign;rfl)) rfl ?_ | refine JC.seq ?_ | refine JC.region ?_ | refine JL.nil ?_ | refine JE.next ?_ | refine JL.bh rfl rfl rfl rfl ?_)
    exact JC.ret (JE.av rfl (RV.tmp rfl) fun w' hw=>⟨rfl,hw.aE⟩)
  · have hle : d.length≤s.length:=by have:=of_decide_eq_true h1;omega
    cases h2 : decide (s.take d.length=d)
    all_goals (repeat (first | refine JL.q (by first|(apply OQ.bu;exact Tryz.underlying9;rfl)|(apply OQ.bK (b:=(d.length : Int));rfl;rfl;exact h1)|(apply OQ.bI (j:=d.length);exact Tryz.underlying9;rfl;rfl;exact hle)|(apply OQ.gu;rfl;rfl;exact h2)|(apply OQ.aN;rfl;rfl)|(apply OQ.move;rfl)|(apply OQ.assign;rfl)) rfl ?_ | refine JC.seq ?_ | refine JC.region ?_ | refine JL.nil ?_ | refine JE.next ?_ | refine JL.aV rfl rfl ?_))
    all_goals exact JC.ret (JE.av rfl (RV.tmp rfl) fun w' hw=>⟨rfl,hw.aE⟩)
theorem ox (s d : List Bt) (w : World) : Calls Tryz.prog 159 [Z s,Z d].toArray w fun e w'=>e=.returned (.bool (decide (s.take d.length=d)))∧Ext w w':=by
  refine enter (n:=8) Tryz.func159 rfl rfl rfl (aa.start w []) ?_
  have hq:=fun w'=>ow s d w'
  repeat (first | refine JL.q (by first|(apply OQ.ah (vs:=[Z s,Z d]);exact mB;rfl;exact (fun w' _=>hq w'))|(apply OQ.move;rfl)|(apply OQ.assign;rfl)) rfl ?_ | refine JC.seq ?_ | refine JC.region ?_ | refine JL.nil ?_ | refine JE.next ?_)
  exact JC.ret (JE.av rfl (RV.tmp rfl) fun w' hw=>⟨rfl,hw.aE⟩)
end
section
set_option maxRecDepth 10000
open Sl
namespace de
def cj (S0 : List Nat) (b : Nat) (r : Po × List Bt) (w : World) : Ending→World→Prop:=fun e w'=>∃ z : Pw,(z.ok∧z.is r.1)∧e=.returned (Z r.2)∧aa w S0 (z.E b) w'
theorem bO : aC Tryz.prog 13:=⟨_,Tryz.func13,rfl,by kernel_rfl⟩
theorem oy : aC Tryz.prog 69:=⟨_,Tryz.func69,rfl,by kernel_rfl⟩
theorem ek : aC Tryz.prog 105:=⟨_,Tryz.func105,rfl,by kernel_rfl⟩
theorem kG : aC Tryz.prog 140:=⟨_,Tryz.func140,rfl,by kernel_rfl⟩
theorem jL : aC Tryz.prog 141:=⟨_,Tryz.func141,rfl,by kernel_rfl⟩
theorem mC : aC Tryz.prog 142:=⟨_,Tryz.func142,rfl,by kernel_rfl⟩
theorem kH : aC Tryz.prog 143:=⟨_,Tryz.func143,rfl,by kernel_rfl⟩
theorem kI : aC Tryz.prog 144:=⟨_,Tryz.func144,rfl,by kernel_rfl⟩
theorem mD : aC Tryz.prog 145:=⟨_,Tryz.func145,rfl,by kernel_rfl⟩
theorem fY : aC Tryz.prog 106:=⟨_,Tryz.func106,rfl,by kernel_rfl⟩
theorem bg : aC Tryz.prog 175:=⟨_,Tryz.func175,rfl,by kernel_rfl⟩
theorem gU : aC Tryz.prog 159:=⟨_,Tryz.func159,rfl,by kernel_rfl⟩
theorem dj : aC Tryz.prog 208:=⟨_,Tryz.func208,rfl,by kernel_rfl⟩
theorem dm : aC Tryz.prog 178:=⟨_,Tryz.func178,rfl,by kernel_rfl⟩
theorem dJ : aC Tryz.prog 146:=⟨_,Tryz.func146,rfl,by kernel_rfl⟩
section
variable {P : Program} {n : Nat} {E : Env} {C : World→Prop} {dst : Option Tmp} {t t' ty : TypeId} {pos : String} {aft : Array Edge} {g : Option (Nat × Bool)} {x y : Operand} {c : Bool}
theorem OQ.fZ {a b : Nat} (hx : ev E x=some (N a)) (hy : ev E y=some (N b)) (h : decide (a=b)=c) : OQ P n E C ⟨dst,.binOp .eql t x y t',ty,pos,aft,g⟩ (.bool c):=
  OQ.rq hx hy ((decide_eq_decide.2 (by omega)).trans h)
theorem OQ.c5 {a b : Nat} (hx : ev E x=some (N a)) (hy : ev E y=some (N b)) (h : decide (a=b)=c) : OQ P n E C ⟨dst,.binOp .neq t x y t',ty,pos,aft,g⟩ (.bool (!c)):=
  OQ.ru hx hy ((decide_eq_decide.2 (by omega)).trans h)
end
theorem ga (b : Nat) (z : Pw) (w : World) (h0 : aa w [] [⟨b,Row 75 z.cs,false⟩] w) : Calls Tryz.prog 13 [Pt b 0].toArray w fun e w'=>e=.returned (.bool (decide (z.st=5)))∧Ext w w':=by
  refine enter (n:=8) Tryz.func13 rfl rfl rfl h0 ?_
  repeat (first | refine JL.q (by first|(apply OQ.load;exact bN;rfl;exact .here;exact (Row.cell (v:=N z.st) rfl))|(apply OQ.move;rfl)|(apply OQ.assign;rfl)|(apply OQ.aI;rfl)|(apply OQ.tT;rfl;rfl)|(apply OQ.br;rfl;rfl;rfl;exact (by decide);rfl)) rfl ?_ | refine JC.seq ?_ | refine JC.region ?_ | refine JL.nil ?_ | refine JE.next ?_)
  refine JC.ret ?_
  skip
  exact JE.av rfl (RV.tmp rfl) fun w' hw=>⟨rfl,hw.aE⟩
theorem qq (b : Nat) (z : Pw) (w : World) (h0 : aa w [] [⟨b,Row 75 z.cs,false⟩] w) : Calls Tryz.prog 69 [Pt b 0].toArray w fun e w'=>e=.returned (N (if z.st=4 then 4194304 else 513))∧Ext w w':=by
  refine enter (n:=8) Tryz.func69 rfl rfl rfl h0 ?_
  cases h : decide (z.st=4) with
  | true=>
    rw [if_pos (of_decide_eq_true h)]
    repeat (first | refine JL.q (by first|(apply OQ.load;exact bN;rfl;exact .here;exact (Row.cell (v:=N z.st) rfl))|(apply OQ.fZ;rfl;rfl;exact h)|(apply OQ.move;rfl)|(apply OQ.assign;rfl)|(apply OQ.aI;rfl)|(apply OQ.br;rfl;rfl;rfl;exact (by decide);rfl)) rfl ?_ | refine JC.seq ?_ | refine JC.region ?_ | refine JL.nil ?_ | refine JE.next ?_)
    refine JC.cond_true rfl rfl ?_
    repeat (first | refine JL.q (by (apply OQ.assign;rfl)) rfl ?_ | refine JC.seq ?_ | refine JC.region ?_ | refine JL.nil ?_ | refine JE.next ?_)
    refine JC.ret ?_
    repeat (refine JE.ag ?_)
    exact JE.av rfl (RV.tmp rfl) fun w' hw=>⟨rfl,hw.aE⟩
  | false=>
    rw [if_neg (of_decide_eq_false h)]
    repeat (first | refine JL.q (by first|(apply OQ.load;exact bN;rfl;exact .here;exact (Row.cell (v:=N z.st) rfl))|(apply OQ.fZ;rfl;rfl;exact h)|(apply OQ.move;rfl)|(apply OQ.assign;rfl)|(apply OQ.aI;rfl)|(apply OQ.br;rfl;rfl;rfl;exact (by decide);rfl)) rfl ?_ | refine JC.seq ?_ | refine JC.region ?_ | refine JL.nil ?_ | refine JE.next ?_)
    refine JC.cond_false rfl rfl ?_
    repeat (first | refine JL.q (by (apply OQ.assign;rfl)) rfl ?_ | refine JC.seq ?_ | refine JC.region ?_ | refine JC.skip ?_ | refine JL.nil ?_ | refine JE.next ?_)
    refine JC.ret ?_
    skip
    exact JE.av rfl (RV.tmp rfl) fun w' hw=>⟨rfl,hw.aE⟩
def Pw.bH (z : Pw) (k : Nat) : Pw:=⟨k,[],none,[],z.ql,z.ln,none,[],z.qm,z.zs⟩
theorem Pw.iG {z : Pw} (h : z.ok) (k : Nat) : (z.bH k).ok:=⟨fun _=>rfl,h.l,fun _=>rfl,h.m⟩
theorem Pw.iH {z : Pw} {S : Po} (h : z.is S) (hn : S.ln=[]) (k : Nat) : (z.bH k).is (de.bH S k):=⟨rfl,rfl,rfl,h.ln.trans ((ec hn).trans (ec (S:=de.bH S k) hn).symm),rfl,h.ms⟩
theorem mE (z : Pw) (k : Nat) : ak (z.bH k).R z.R:=cV (.nil _) (cV (ak.refl _) (cV (.nil _) (ak.refl _)))
theorem jM (b : Nat) (z : Pw) (w : World) (h0 : aa w (keys (z.E b)) (z.E b) w) : Calls Tryz.prog 105 [Pt b 0].toArray w fun e w'=>e=.returned (.tuple #[])∧aa w (keys (z.E b)) ((z.bH 1).E b) w':=by
  generalize hS : keys (z.E b)=S0 at h0 ⊢
  refine enter (n:=14) Tryz.func105 rfl rfl rfl h0 ?_
  repeat (first | refine JL.q (by first|(apply OQ.move;rfl)|(apply OQ.aI;rfl)|(apply OQ.br;rfl;rfl;rfl;exact (by decide);rfl)) rfl ?_ | refine JC.seq ?_ | refine JC.region ?_)
  refine JL.fL 1 rfl rfl ?_
  repeat (first | refine JL.q (by first|(apply OQ.move;rfl)|(apply OQ.aI;rfl)|(apply OQ.br;rfl;rfl;rfl;exact (by decide);rfl)) rfl ?_ | refine JC.region ?_ | refine JL.nil ?_ | refine JE.next ?_)
  refine JL.nQ [] rfl rfl ?_
  repeat (refine JL.q (by first|(apply OQ.aI;rfl)|(apply OQ.br;rfl;rfl;rfl;exact (by decide);rfl)) rfl ?_)
  refine JL.lz none [] rfl rfl ?_
  repeat (refine JL.q (by first|(apply OQ.aI;rfl)|(apply OQ.br;rfl;rfl;rfl;exact (by decide);rfl)) rfl ?_)
  refine JL.lA none [] rfl rfl ?_
  repeat (refine JL.nil ?_)
  exact JE.rX rfl fun w' hw=>⟨rfl,hw.weak (.keep _ _ _ _ _ _ (fun _ h=>h) (mE z 1))⟩
theorem JL.iI {n : Nat} {w0 : World} {S : List Nat} {ops : Array Oper} {Q : Exit→Act→World→Prop} {l : List Oper} {E : Env} {d : Nat} {ty : TypeId} {pos : String} {aft : Array Edge} {x : Operand} {ats : Array TypeId} {b : Nat} {z : Pw}
    (hx : ev E x=some (Pt b 0)) (hd : Nat.blt d n=true) (kk : JL Tryz.prog n w0 S ops Q l ((d,.tuple #[])::E) ((z.bH 1).E b)) : JL Tryz.prog n w0 S ops Q (⟨some d,.call ⟨.value (.func 105),#[x],ats⟩,ty,pos,aft,none⟩::l) E (z.E b):=by
  refine JL.perm ?_ (List.Perm.of_eq (List.append_nil _).symm)
  refine JL.fM (xs:=[x]) (ι:=Unit) (vs:=[Pt b 0]) (fun _=>.tuple #[]) (fun _=>(z.bH 1).E b) ek (by simp [dw,hx]) hd (z.wr b) (fun _=>Pw.wr b _) (fun w' _ hx=>(jM b z w' hx).mono fun e w2 ⟨h1,h2⟩=>⟨(),h1,h2⟩) fun _=>?_
  rw [List.append_nil]
  exact kk
theorem sN (t : List Bt) (c : Bt) : decide (t.take 1=[c])=decide (t.head?=some c):=by
  refine decide_eq_decide.2 ?_
  cases t <;> simp
theorem mF (b : Nat) (z : Pw) (S : Po) (ok : z.ok) (hs : z.is S) (hn : S.ln=[]) (t : List Bt) (w : World) (h0 : aa w (keys (z.E b)) (z.E b) w) : Calls Tryz.prog 140 [Pt b 0,Z t].toArray w (cj (keys (z.E b)) b (cz S t) w):=by
  generalize hS : keys (z.E b)=S0 at h0 ⊢
  have hc:=fun w'=>ox t [32] w'
  rw [show ([32] : List Bt).length=1 from rfl,sN] at hc
  cases h : decide (t.head?=some 32) with
  | true=>
    rw [h] at hc
    rw [show cz S t=(bH S 1,jk) from if_pos (of_decide_eq_true h)]
    refine enter (n:=10) Tryz.func140 rfl rfl rfl h0 ?_
    repeat (first | refine JL.q (by first|(apply OQ.ah (vs:=[Z t,Z [32]]);exact gU;rfl;exact (fun w' _=>hc w'))|(apply OQ.not;rfl)|(apply OQ.move;rfl)|(apply OQ.assign;rfl)) rfl ?_ | refine JC.seq ?_ | refine JC.region ?_ | refine JL.nil ?_ | refine JE.next ?_)
    refine JC.cond_false rfl rfl ?_
    repeat (first | refine JL.q (by (apply OQ.move;rfl)) rfl ?_ | refine JC.seq ?_ | refine JC.region ?_ | refine JC.skip ?_ | refine JE.next ?_)
    refine JL.iI rfl rfl ?_
    repeat (first | refine JL.q (by (apply OQ.assign;rfl)) rfl ?_ | refine JC.seq ?_ | refine JC.region ?_ | refine JL.nil ?_ | refine JE.next ?_)
    refine JC.ret ?_
    skip
    exact JE.av rfl (RV.tmp rfl) fun w' hw=>⟨z.bH 1,⟨Pw.iG ok 1,Pw.iH hs hn 1⟩,rfl,hw⟩
  | false=>
    rw [h] at hc
    rw [show cz S t=(S,fF) from if_neg (of_decide_eq_false h)]
    refine enter (n:=10) Tryz.func140 rfl rfl rfl h0 ?_
    repeat (first | refine JL.q (by first|(apply OQ.ah (vs:=[Z t,Z [32]]);exact gU;rfl;exact (fun w' _=>hc w'))|(apply OQ.not;rfl)|(apply OQ.move;rfl)|(apply OQ.assign;rfl)) rfl ?_ | refine JC.seq ?_ | refine JC.region ?_ | refine JL.nil ?_ | refine JE.next ?_)
    refine JC.cond_true rfl rfl ?_
    repeat (first | refine JL.q (by (apply OQ.assign;rfl)) rfl ?_ | refine JC.seq ?_ | refine JC.region ?_ | refine JL.nil ?_ | refine JE.next ?_)
    refine JC.ret ?_
    repeat (refine JE.ag ?_)
    exact JE.av rfl (RV.tmp rfl) fun w' hw=>⟨z,⟨ok,hs⟩,rfl,hw⟩
end de
end
end Go.Proofs.YtjeeilmkjjbonaaGreatDoor
