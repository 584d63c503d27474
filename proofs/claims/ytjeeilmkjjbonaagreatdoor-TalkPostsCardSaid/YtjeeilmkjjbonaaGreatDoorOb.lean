/-
  Of no statement by itself: the texts Slmv, FieS, LinS, LinT, TokS, TalP, TalA, Slcv, FieT, FieA, LsP, LsA, TokF, TokG, TokH, TokJ, TokK, TokC, TokW, TkA, TkB, LsC, TokX, TkC, Shpx in one.
  Conditions: each theorem's own.
-/
import Derived.Test.YtjeeilmkjjbonaaGreatDoorOa
import Derived.Laws.Cover3
import Derived.Lib.SlTrimSet
import Derived.Lib.IndexAny
import Derived.Laws.Externs
import Derived.Shelf.Strings.SlTrimAscii
import Derived.Shelf.Strings.OnBuilder
import Derived.Shelf.Strings.Split
set_option linter.unusedSimpArgs false
set_option linter.unusedVariables false
namespace Go.Proofs.YtjeeilmkjjbonaaGreatDoor
section
set_option maxRecDepth 10000
open Sl
namespace Sl
section
variable {P : Program} {n : Nat} {w0 : World} {S : List Nat} {ops : Array Oper} {Q : Exit→Act→World→Prop} {l : List Oper} {E : Env} {M : List aF} {C : World→Prop}
variable {dst : Option Tmp} {d b : Nat} {t t' e ty : TypeId} {pos : String} {aft : Array Edge} {g : Option (Nat × Bool)} {zv : Value} {x y z : Operand} {sz by' : Nat} {ats : Array TypeId}
theorem OQ.yH {f : FuncId} {fs xs : Array Operand} {rs caps : List Value} (hf : eO E fs.toList=some rs) (hx : eO E xs.toList=some caps) : OQ P n E C ⟨dst,.makeFunc (.func f) fs xs,ty,pos,aft,g⟩ (.func (.func f) rs.toArray caps.toArray):=by
  refine OQ.run fun a hk w _=>?_
  have hm : xs.map a.eval=caps.toArray:=by
    have h1:=ew hk hx
    rw [← h1]
    apply Array.ext'
    simp
  have hm2 : fs.map a.eval=rs.toArray:=by
    have h1:=ew hk hf
    rw [← h1]
    apply Array.ext'
    simp
  simp [execOp,Instr.makeFunc,Sem.run_bind,hm,hm2]
theorem nZ {f : FuncId} {rs caps : List Value} {xs : List Operand} {vs : List Value} {a : Act} (hg : aK P f) (hk : aW n E a) (hf : ev E x=some (.func (.func f) rs.toArray caps.toArray)) (hx : eO E xs=some vs) (w : World) :
    (execOp a.eval ⟨dst,.call ⟨.value x,xs.toArray,ats⟩,ty,pos,aft,g⟩).run P w=.ok (.enter f (rs++vs++caps).toArray) w:=by
  obtain ⟨fn,h1,h2,h3⟩:=hg
  have hm : xs.toArray.map a.eval=vs.toArray:=by simp [ew hk hx]
  have h2' : ¬ fn.body=none:=fun h=>by rw [h] at h2;cases h2
  have h3' : ¬ fn.name = "runtime.NumGoroutine" := by simpa using h3
  have hf':=hk.eval hf
  simp [execOp,resolve,Sem.run_bind,hm,hf',Deferred.ofValue,invoke,callFunc,program,Sem.run,h1,h2',h3']
theorem gP : ∀ {L : List (List Value)} (_ : ∀ c ∈ L,c.length=sz) (_ : 0<sz) (k : Nat),L.flatten[k]?=(L[k / sz]?).bind fun c=>c[k % sz]?
  | [],_,_,k=>by simp
  | c::L,h,h0,k=>by
    have hc : c.length=sz:=h c (by simp)
    by_cases hk : k<sz
    · rw [List.flatten_cons,List.getElem?_append_left (by omega),Nat.div_eq_of_lt hk,Nat.mod_eq_of_lt hk]
      rfl
    · have e1 : k / sz=(k - sz) / sz+1:=by
        rw [← Nat.sub_add_cancel (Nat.le_of_not_lt hk),Nat.add_div_right _ h0,Nat.add_sub_cancel]
      have e2 : k % sz=(k - sz) % sz:=Nat.mod_eq_sub_mod (Nat.le_of_not_lt hk)
      rw [List.flatten_cons,List.getElem?_append_right (by omega),hc,gP (fun d hd=>h d (by simp [hd])) h0 (k - sz),e1,e2,List.getElem?_cons_succ]
theorem me {w : World} {css : List (List Value)} {m : Nat} (hu : P.underlying t=some (.slice e)) (hi : EI P e zv sz by') (_hz : zv.cells.size=sz) (h0 : 0<sz) (hl : ∀ c ∈ css,c.length=sz) (hm : css.length=m) (hm0 : 0<m) (hsm : m * sz≤16777216) :
    (Instr.buildSlice t m (((css.map fun c=>Value.agg c.toArray).zipIdx 0).map fun x=>(x.2,x.1)).toArray).run P w=.ok (.slice (some ⟨w.heap.size,0,none⟩) m m) { w with heap:=w.heap.push (.cells css.flatten.toArray e (0,0)) }:=by
  have h3 : (underlying t).run P w=.ok (.slice e) w:=run_underlying hu w
  obtain ⟨i,h4,h5,_⟩:=hi.get
  obtain ⟨r,h6,h7,h8⟩:=Great.fill_dense h0 (css.map fun c=>Value.agg c.toArray) 0 ((Array.range (m * sz)).map (zv.cells[· % zv.cells.size]!)) (by
    intro v hv
    obtain ⟨c,hc,rfl⟩:=List.mem_map.1 hv
    simp [Value.cells,hl c hc]) (by simp [hm])
  have hfl:=cY hl
  have hr : r=css.flatten.toArray:=by
    apply Array.ext_getElem?
    intro k
    rw [h8 k,List.length_map,Nat.zero_mul,Nat.zero_add,hm,show css.flatten.toArray[k]?=css.flatten[k]? from by simp]
    by_cases hk : k<m * sz
    · rw [if_pos ⟨Nat.zero_le _,hk⟩,gP hl h0 k,Nat.sub_zero,List.getElem?_map]
      cases css[k / sz]? with
      | none=>rfl
      | some c=>simp [Value.cells]
    · have e2 : css.flatten[k]?=none:=List.getElem?_eq_none (by rw [hfl,hm];omega)
      rw [if_neg (fun h=>hk h.2),e2]
      exact Array.getElem?_eq_none (by simp;omega)
  subst hr
  have h11 : (zeroValue e).run P w=.ok zv w:=by simp [zeroValue,typeInfo,h4,h5]
  have hpos : 0<m * sz:=Nat.mul_pos hm0 h0
  have h12 : ¬ (16777216<m * sz):=by omega
  have h13 : ¬ (m=0):=by omega
  have h15 : ¬ (sz=0):=by omega
  have h16 : ¬ (m * sz=0):=by omega
  simp [Instr.buildSlice,Sem.run_bind,h3,br hi.sz,h11,h12,h13,h15,h16,h6,newRow,newObj,Sem.run]
theorem JL.xl {xs : List Operand} {ps : Array (Nat × Operand)} {css : List (List Value)} {m : Nat} (hu : P.underlying t=some (.slice e)) (hi : EI P e zv sz by') (hz : zv.cells.size=sz) (h0 : 0<sz) (hps : ps=(pairs 0 xs).toArray) (hx : eO E xs=some (css.map fun c=>Value.agg c.toArray)) (hl : ∀ c ∈ css,c.length=sz) (hm : css.length=m) (hm0 : 0<m) (hsm : m * sz≤16777216) (hd : Nat.blt d n=true)
    (k : ∀ b,w0.heap.size≤b→JL P n w0 S ops Q l ((d,.slice (some ⟨b,0,none⟩) m m)::E) (⟨b,Row e css.flatten,true⟩::M)) : JL P n w0 S ops Q (⟨some d,.buildSlice t m ps,ty,pos,aft,none⟩::l) E M:=
  ⟨fun a w ha hw=>wpList_plain rfl fun K hK=>by
    unfold Oper.wp
    have hm' : ps.map (fun (i,x)=>(i,a.eval x))=(((css.map fun c=>Value.agg c.toArray).zipIdx 0).map fun x=>(x.2,x.1)).toArray:=by
      rw [hps,List.map_toArray,← gN ha 0 hx]
    simp only [execOp,hm',Sem.run_bind,me hu hi hz h0 hl hm hm0 hsm,Result.andThen_ok]
    exact hK _ _ ((k w.heap.size hw.aS.size).go _ _ (ha.put d _ hd) (hw.push _ rfl rfl rfl rfl rfl))⟩
end
theorem si {e : TypeId} {sz k cap j : Nat} {xs : List Value} (hj : j≤k) : ∀ o,Sl.aO e sz k cap xs o→Sl.aO e sz j cap (xs.take (j * sz)) o:=by
  rintro o ⟨sp,rfl,h1,h2,h3⟩
  have hm : j * sz≤k * sz:=Nat.mul_le_mul_right _ hj
  refine ⟨xs.drop (j * sz)++sp,by rw [← List.append_assoc,List.take_append_drop],?_,?_,by omega⟩
  · rw [List.length_append] at h1 ⊢
    rw [List.length_take,List.length_append,List.length_drop]
    omega
  · rw [List.length_take]
    omega
end Sl
end
section
namespace aA
abbrev By:=BitVec 8
def bl (c : By) : Bool:=c == 32 || c == 9
def yI (c : By) : Bool:=decide (33≤c.toNat) && decide (c.toNat≤126) && !(c == 58)
def x5 (c : By) : Bool:=c == 9 || (decide (32≤c.toNat) && decide (c.toNat≤126))
def vA (s : List By) : Bool:=s.all yI && decide (1≤s.length) && decide (s.length≤64)
def x6 (s : List By) : Bool:=s.all x5 && decide (s.length≤8192) && (decide (s.length=0) || (!bl (s.getD 0 0) && !bl (s.getD (s.length - 1) 0)))
def small (c : By) : By:=if 65≤c.toNat∧c.toNat≤90 then c+32 else c
def eo (a b : List By) : Bool:=decide (a.map small=b.map small)
def tn (v : List By) (i : Nat) : Bool:=decide (0<i) && (bl (v.getD i 0) && !bl (v.getD (i - 1) 0))
def scan (v : List By) (i : Nat) : Nat:=if h : i<v.length then (if tn v i then i else scan v (i+1)) else v.length
termination_by v.length - i
def st (n v : List By) : Nat→List By × Nat
  | 0=>(n++[58,32],n.length+2)
  | i+1=>if tn v i=true∧76<(st n v i).2+scan v (i+1) - i then ((st n v i).1++[13,10,v.getD i 0],1) else ((st n v i).1++[v.getD i 0],(st n v i).2+1)
inductive Fo : List By→List By→Prop
  | nil : Fo [] []
  | byte (c : By) (v L : List By) : x5 c=true→Fo v L→Fo (c::v) (c::L)
  | fold (c : By) (e v L : List By) : bl c=true→(e=[10]∨e=[13,10])→Fo v L→Fo (c::v) (e++c::L)
theorem bO (v : List By) {i : Nat} (h : i<v.length) : v.take (i+1)=v.take i++[v.getD i 0]:=by
  rw [List.take_add_one,List.getD_eq_getElem?_getD,List.getElem?_eq_getElem h];rfl
def o6 (b : List By) : List By:=b.takeWhile (· != 10)
def x7 (l : List By) : List By:=if l.getLast?=some 13 then l.dropLast else l
def cut (b : List By) : Option (List By × List By):=if (o6 b).length<b.length then some (x7 (o6 b),b.drop ((o6 b).length+1)) else none
theorem sj {b l r : List By} (h : cut b=some (l,r)) : r.length<b.length:=by
  unfold cut at h
  split at h
  · cases h
    rw [List.length_drop];omega
  · cases h
def vB (b : List By) : Option (List By × List By):=
  if bl (b.getD 0 0)=true∧b≠[] then
    match h : cut b with
    | none=>none
    | some (l,r)=>(vB r).map fun q=>(l++q.1,q.2)
  else some ([],b)
termination_by b.length
decreasing_by exact sj h
def hend (b : List By) : Option Nat:=
  match h : cut b with
  | none=>none
  | some (l,r)=>if l=[] then some (b.length - r.length) else (hend r).map (·+(b.length - r.length))
termination_by b.length
decreasing_by exact sj h
def bB (v : List By) : List By:=v.dropWhile bl
def trim (v : List By) : List By:=(bB (bB v).reverse).reverse
def rd (k : Nat) (b : List By) : Except Nat (List (List By × List By) × List By):=
  match h : cut b with
  | none=>.error 3
  | some (l,r)=>
    if l=[] then .ok ([],r)
    else if (l.takeWhile (· != 58)).length=l.length∨¬ vA (l.takeWhile (· != 58))=true then .error 3
    else if k=200 then .error 4
    else match h2 : vB r with
      | none=>.error 3
      | some (vs,r')=>
        if 8192<(trim (l.drop ((l.takeWhile (· != 58)).length+1)++vs)).length then .error 4
        else if ¬ (trim (l.drop ((l.takeWhile (· != 58)).length+1)++vs)).all x5=true then .error 3
        else if hr : r'.length<b.length then (rd (k+1) r').map fun q=>((l.takeWhile (· != 58),trim (l.drop ((l.takeWhile (· != 58)).length+1)++vs))::q.1,q.2)
        else .error 3
termination_by b.length
def yJ (e : List By) : Prop:=e=[10]∨e=[13,10]
end aA
end
section
namespace bE
abbrev By:=BitVec 8
theorem n10 (X : Prop) : ¬ (((10 : By)=10∧(13 : By)≠13)∨((10 : By)=13∧X)):=fun h=>h.elim (fun h=>h.2 rfl) (fun h=>absurd h.1 (by decide))
def sp (s : List (List By) × List By) (c : By) : List (List By) × List By:=if c=10∧s.2.getLast?=some 13 then (s.1++[s.2.dropLast],[]) else (s.1,s.2++[c])
def bK (l : List By) : List (List By) × List By:=l.foldl sp ([],[])
def aG (ls : List (List By)) : List By:=ls.flatMap fun l=>l++[13,10]
theorem cN (a b : List (List By)) : aG (a++b)=aG a++aG b:=List.flatMap_append ..
theorem uJ (s : List (List By) × List By) (c : By) : aG (sp s c).1++(sp s c).2=aG s.1++s.2++[c]:=by
  unfold sp
  split
  · next h=>
    obtain ⟨h1,h2⟩:=h
    subst h1
    have e : s.2=s.2.dropLast++[13]:=by
      have hne : s.2≠[]:=fun e=>by rw [e] at h2;cases h2
      have h3:=List.getLast?_eq_some_getLast hne
      rw [h2] at h3
      have h4:=List.dropLast_concat_getLast hne
      rw [← Option.some.inj h3] at h4
      exact h4.symm
    rw [cN]
    show aG s.1++((s.2.dropLast++[13,10])++[])++[]=aG s.1++s.2++[10]
    rw [e]
    simp
  · simp
theorem iW : ∀ (l : List By) (s : List (List By) × List By),aG (l.foldl sp s).1++(l.foldl sp s).2=aG s.1++s.2++l
  | [],s=>by simp
  | c::l,s=>by
    rw [List.foldl_cons,iW l,uJ]
    simp
theorem dr (l : List By) : aG (bK l).1++(bK l).2=l:=by
  have:=iW l ([],[])
  simpa [bK,aG] using this
end bE
end
section
namespace bE
def gQ (l : List By) : List By:=if l.head?=some 46 then 46::l else l
def dm (l : List By) : List By:=if l.head?=some 46 then l.tail else l
def fY : List (List By)→Option (List (List By) × List (List By))
  | []=>none
  | l::r=>if l=[46] then some ([],r) else (fY r).map fun p=>(dm l::p.1,p.2)
def eY (b : List By) : Option (List By × List By):=(fY (bK b).1).map fun p=>(aG p.1,aG p.2++(bK b).2)
theorem oa {w : List By} (h1 : w.getLast?=some 10) (h2 : w.dropLast.getLast?=some 13) : w=w.dropLast.dropLast++[13,10]:=by
  have n1 : w≠[]:=fun e=>by rw [e] at h1;cases h1
  have n2 : w.dropLast≠[]:=fun e=>by rw [e] at h2;cases h2
  have e1:=List.dropLast_concat_getLast n1
  have e2:=List.dropLast_concat_getLast n2
  rw [List.getLast?_eq_some_getLast n1] at h1
  rw [List.getLast?_eq_some_getLast n2] at h2
  rw [Option.some.inj h1] at e1
  rw [Option.some.inj h2] at e2
  rw [← e2] at e1
  rw [← e1]
  simp
theorem iX : ∀ (ls : List (List By)),(∀ l ∈ ls,l≠[46])→fY ls=none
  | [],_=>rfl
  | l::ls,h=>by
    show (if l=[46] then _ else (fY ls).map fun p=>(dm l::p.1,p.2))=_
    rw [if_neg (h l (List.mem_cons_self ..)),iX ls fun x hx=>h x (List.mem_cons_of_mem _ hx)];rfl
end bE
end
section
namespace Tok
open aA
def xm (c : By) (s : List By) : Bool:=s.any fun d=>d == c
def spec : List By:=[40,41,60,62,64,44,59,58,92,34,47,91,93,63,61,46]
def cO (c : By) : Bool:=decide (33≤c.toNat) && decide (c.toNat≤126) && !xm c spec
def eJ (s : List By) : Bool:=s.all cO && decide (0<s.length)
def aN : List By→Nat→Bool→List By→List By × Nat
  | [],d,q,o=>if 0<d∨q=true then ([],3) else (o,0)
  | c::r,d,q,o=>
    if c=92∧(0<d∨q=true) then
      match r with
      | []=>([],3)
      | c2::r'=>aN r' d q (if q then o++[c,c2] else o)
    else if q then aN r d (!(c == 34)) (o++[c])
    else if c=40 then (if 9<d+1 then ([],5) else aN r (d+1) q o)
    else if c=41 then (if d=0 then ([],3) else aN r (d - 1) q (if d - 1=0 then o++[32] else o))
    else if d=0 then aN r d (c == 34) (o++[c])
    else aN r d q o
def c8 (s : List By) : List By × Nat:=aN s 0 false []
def iY : List By→By→Bool
  | [],l=>!(l == 46)
  | c::r,l=>if (c=46∧l=46)∨(¬ c=46∧cO c=false) then false else iY r c
def cK (s : List By) : Bool:=iY s 46
def fst (c : By) (s : List By) : Nat:=(s.takeWhile fun d=>!(d == c)).length
def wU (s : List By) : List By:=(s.reverse.takeWhile fun d=>!(d == 60)).reverse
def dh (s : List By) : List By × Nat:=
  if fst 64 s=s.length∨cK (s.take (fst 64 s))=false∨cK (s.drop (fst 64 s+1))=false then ([],3)
  else (s.take (fst 64 s+1)++(s.drop (fst 64 s+1)).map small,0)
def iZ (s : List By) : List By × Nat:=
  if 0<s.length∧s.getD (s.length - 1) 0=62 then
    (if 60 ∈ s then dh (trim (wU s.dropLast)) else ([],3))
  else dh s
def b6 (s : List By) : List By × Nat:=if (c8 s).2=0 then iZ (trim (c8 s).1) else ([],(c8 s).2)
theorem dw (c : aA.By) (r : List aA.By) (d : Nat) (q : Bool) (o : List aA.By) (h : ¬ (c=92∧(0<d∨q=true))) : aN (c::r) d q o=if q then aN r d (!(c == 34)) (o++[c])
    else if c=40 then (if 9<d+1 then ([],5) else aN r (d+1) q o)
    else if c=41 then (if d=0 then ([],3) else aN r (d - 1) q (if d - 1=0 then o++[32] else o))
    else if d=0 then aN r d (c == 34) (o++[c])
    else aN r d q o:=by
  conv=>lhs;rw [aN.eq_def]
  dsimp only
  rw [if_neg h]
theorem jb (c2 : aA.By) (r : List aA.By) (d : Nat) (o : List aA.By) : aN (92::c2::r) d true o=aN r d true (o++[92]++[c2]):=by simp [aN]
theorem gR (d : Nat) (o : List aA.By) : aN [92] d true o=([],3):=by simp [aN]
theorem kS {c : aA.By} (h : ¬ c=92) (r : List aA.By) (d : Nat) (o : List aA.By) : aN (c::r) d true o=aN r d (!(c == 34)) (o++[c]):=by rw [dw _ _ _ _ _ (fun k=>h k.1),if_pos rfl]
theorem jc {d : Nat} (h : 0<d) (c2 : aA.By) (r : List aA.By) (o : List aA.By) : aN (92::c2::r) d false o=aN r d false o:=by simp [aN,h]
theorem gS {d : Nat} (h : 0<d) (o : List aA.By) : aN [92] d false o=([],3):=by simp [aN,h]
theorem gx (r : List aA.By) (d : Nat) (o : List aA.By) : aN (40::r) d false o=if 9<d+1 then ([],5) else aN r (d+1) false o:=by
  rw [dw _ _ _ _ _ (by rintro ⟨h,_⟩;revert h;decide),if_neg (by decide),if_pos rfl]
theorem iH (r : List aA.By) (d : Nat) (o : List aA.By) : aN (41::r) d false o=if d=0 then ([],3) else aN r (d - 1) false (if d - 1=0 then o++[32] else o):=by
  rw [dw _ _ _ _ _ (by rintro ⟨h,_⟩;revert h;decide),if_neg (by decide),if_neg (by decide),if_pos rfl]
theorem jd {c : aA.By} (h1 : ¬ c=40) (h2 : ¬ c=41) (r : List aA.By) (o : List aA.By) : aN (c::r) 0 false o=aN r 0 (c == 34) (o++[c]):=by
  rw [dw _ _ _ _ _ (by rintro ⟨_,h | h⟩;exact absurd h (by decide);cases h),if_neg (by decide),if_neg h1,if_neg h2,if_pos rfl]
theorem sn {c : aA.By} {d : Nat} (h0 : ¬ c=92) (h1 : ¬ c=40) (h2 : ¬ c=41) (hd : ¬ d=0) (r : List aA.By) (o : List aA.By) : aN (c::r) d false o=aN r d false o:=by
  rw [dw _ _ _ _ _ (fun k=>h0 k.1),if_neg (by decide),if_neg h1,if_neg h2,if_neg hd]
theorem cu (d : Nat) (q : Bool) (o : List aA.By) : aN [] d q o=if (decide ((0 : Int)<(d : Int)) || q)=true then ([],3) else (o,0):=by
  rw [aN]
  congr 1
  rw [Bool.or_eq_true,decide_eq_true_eq]
  exact propext (or_congr (by omega) Iff.rfl)
theorem so : ∀ (n : Nat) (r : List aA.By) (d : Nat) (q : Bool) (o : List aA.By),r.length≤n→(aN r d q o).1.length≤o.length+r.length:=by
  intro n
  induction n with
  | zero=>
    intro r d q o h
    obtain rfl : r=[]:=List.eq_nil_of_length_eq_zero (by omega)
    rw [cu]
    split <;> simp
  | succ n ih=>
    intro r d q o h
    match r,h with
    | [],_=>rw [cu];split <;> simp
    | c::r,h=>
      simp only [List.length_cons] at h ⊢
      by_cases h9 : c=92∧(0<d∨q=true)
      · obtain ⟨rfl,hq⟩:=h9
        match r,h with
        | [],_=>
          cases q
          · rw [gS (by simpa using hq)];simp
          · rw [gR];simp
        | c2::r,h=>
          simp only [List.length_cons] at h ⊢
          cases q
          · rw [jc (by simpa using hq)]
            have:=ih r d false o (by omega)
            omega
          · rw [jb]
            have:=ih r d true (o++[92]++[c2]) (by omega)
            simp only [List.length_append,List.length_cons,List.length_nil] at this
            omega
      · rw [dw c r d q o h9]
        have h0:=ih r d (!(c == 34)) (o++[c]) (by omega)
        have h1:=ih r (d+1) q o (by omega)
        have h2:=ih r (d - 1) q (if d - 1=0 then o++[32] else o) (by omega)
        have h3:=ih r d (c == 34) (o++[c]) (by omega)
        have h4:=ih r d q o (by omega)
        have h5 : (if d - 1=0 then o++[32] else o).length≤o.length+1:=by split <;> simp
        simp only [List.length_append,List.length_cons,List.length_nil] at h0 h3
        generalize (if d - 1=0 then o++[32] else o)=o2 at h2 h5 ⊢
        split
        · omega
        split
        · split
          · simp
          · omega
        split
        · split
          · simp
          · omega
        split
        · omega
        · omega
theorem j4 (s : List aA.By) : (c8 s).1.length≤s.length:=by
  have:=so s.length s 0 false [] (Nat.le_refl _)
  simp only [List.length_nil,Nat.zero_add] at this
  exact this
end Tok
end
section
namespace dx
abbrev By:=BitVec 8
def bT : List By:=[72,69,76,79]
def bU : List By:=[77,65,73,76,32,70,82,79,77,58]
def cm : List By:=[82,67,80,84,32,84,79,58]
def bP : List By:=[68,65,84,65]
def cq : List By:=[82,83,69,84]
def cr : List By:=[81,85,73,84]
def oc : List By:=[50,50,49,32,98,121,101]
def er : List By:=[50,53,48,32,111,107]
def xU : List By:=[51,53,52,32,103,111]
def o7 : List By:=[52,53,50,32,109,97,110,121]
def dG : List By:=[53,48,48,32,119,104,97,116]
def cV : List By:=[53,48,49,32,102,111,114,109]
def bQ : List By:=[53,48,51,32,111,114,100,101,114]
structure Ml where
  fr : List By
  to : List (List By)
  b : List By
structure Po where
  st : Nat
  fr : List By
  to : List (List By)
  ln : List By
  dt : List By
  ms : List Ml
def new : Po:=⟨0,[],[],[],[],[]⟩
def ig (a : List By) : Bool:=decide ((Tok.b6 a).2=0) && decide ((Tok.b6 a).1=a)
def dH (s : List By) : Option (List By):=if s.head?=some 60∧s.tail.getLast?=some 62∧ig s.tail.dropLast=true then some s.tail.dropLast else none
def au (w l : List By) : Bool:=decide (w.length≤l.length) && aA.eo (l.take w.length) w
def bL (S : Po) (st : Nat) : Po:=⟨st,[],[],S.ln,[],S.ms⟩
def cZ (S : Po) (t : List By) : Po × List By:=if t.head?=some 32 then (bL S 1,er) else (S,cV)
def bM (S : Po) (t : List By) : Po × List By:=match dH t with
  | none=>(S,cV)
  | some a=>if S.st=1 then (⟨2,a,S.to,S.ln,S.dt,S.ms⟩,er) else (S,bQ)
def c9 (S : Po) (t : List By) : Po × List By:=match dH t with
  | none=>(S,cV)
  | some a=>if S.st=2∨S.st=3 then (if S.to.length=10 then (S,o7) else (⟨3,S.fr,S.to++[a],S.ln,S.dt,S.ms⟩,er)) else (S,bQ)
def cx (S : Po) (t : List By) : Po × List By:=if t=[] then (if S.st=3 then (⟨4,S.fr,S.to,S.ln,S.dt,S.ms⟩,xU) else (S,bQ)) else (S,cV)
def ct (S : Po) (t : List By) : Po × List By:=if t=[] then (if S.st=0 then (S,er) else (bL S 1,er)) else (S,cV)
def eK (S : Po) (t : List By) : Po × List By:=if t=[] then (bL S 5,oc) else (S,cV)
def aX (S : Po) (l : List By) : Po × List By:=
  if 512<l.length then (S,dG)
  else if au bT l then cZ S (l.drop 4)
  else if au bU l then bM S (l.drop 10)
  else if au cm l then c9 S (l.drop 8)
  else if au bP l then cx S (l.drop 4)
  else if au cq l then ct S (l.drop 4)
  else if au cr l then eK S (l.drop 4)
  else (S,dG)
def bG (d : List By) : List By:=((bE.eY (d++[46,13,10])).map Prod.fst).getD []
def fo (S : Po) : Po × List By:=(⟨1,[],[],S.ln,[],S.ms++[⟨S.fr,S.to,bG S.dt⟩]⟩,er)
def aV (S : Po) (l : List By) : Po × List By:=
  if S.st=4 then (if l=[46] then ((fo S).1,(fo S).2++[13,10]) else (⟨S.st,S.fr,S.to,S.ln,S.dt++(l++[13,10]),S.ms⟩,[]))
  else ((aX S l).1,(aX S l).2++[13,10])
def ends (l : List By) : Bool:=decide (l.getLast?=some 10) && decide (l.dropLast.getLast?=some 13)
def bg (S : Po) (x : List By) : Po × List By:=
  if ends (S.ln++x) then aV ⟨S.st,S.fr,S.to,[],S.dt,S.ms⟩ (S.ln++x).dropLast.dropLast else (⟨S.st,S.fr,S.to,S.ln++x,S.dt,S.ms⟩,[])
def aY (P : Po × List By) (c : By) : Po × List By:=if P.1.st=5 then P else ((bg P.1 [c]).1,P.2++(bg P.1 [c]).2)
def an (S : Po) (b : List By) : Po × List By:=b.foldl aY (S,[])
theorem fq (l : List By) : ends (l++[13,10])=true:=by
  have h1 : (l++[13,10]).getLast?=some (10 : By):=by simp
  have h2 : (l++[13,10]).dropLast.getLast?=some (13 : By):=by
    rw [show l++[(13 : By),10]=(l++[13])++[10] by simp,List.dropLast_concat];simp
  unfold ends
  rw [h1,h2]
  rfl
theorem iI {l : List By} (h : ends l=true) : l=l.dropLast.dropLast++[13,10]:=by
  unfold ends at h
  rw [Bool.and_eq_true,decide_eq_true_iff,decide_eq_true_iff] at h
  exact bE.oa h.1 h.2
theorem vC (l : List By) : (l++[(13 : By),10]).dropLast.dropLast=l:=by
  rw [show l++[(13 : By),10]=(l++[13])++[10] by simp,List.dropLast_concat,List.dropLast_concat]
theorem fu {l : List By} (h : ends l=true) : l.dropLast.dropLast.length+2=l.length:=by
  have:=congrArg List.length (iI h)
  rw [List.length_append] at this
  exact this.symm
theorem uK {l : List By} (c : By) (h : c≠10) : ends (l++[c])=false:=by
  unfold ends
  have : (l++[c]).getLast?≠some (10 : By):=by rw [List.getLast?_concat];exact fun e=>h (Option.some.inj e)
  rw [decide_eq_false this,Bool.false_and]
theorem dy : ∀ (b : List By) (S : Po) (o : List By),b.foldl aY (S,o)=((an S b).1,o++(an S b).2)
  | [],S,o=>by simp [an]
  | c::b,S,o=>by
    have e : ∀ o',(c::b).foldl aY (S,o')=b.foldl aY (aY (S,o') c):=fun _=>rfl
    have h : ∀ o',aY (S,o') c=((aY (S,[]) c).1,o'++(aY (S,[]) c).2):=by
      intro o'
      unfold aY
      dsimp only
      split <;> simp
    unfold an
    rw [e,e,h o,dy b (aY (S,[]) c).1 (o++(aY (S,[]) c).2),← Prod.eta (aY (S,[]) c),dy b (aY (S,[]) c).1 (aY (S,[]) c).2]
    dsimp only
    rw [List.append_assoc]
theorem dc (S : Po) (a b : List By) : an S (a++b)=((an (an S a).1 b).1,(an S a).2++(an (an S a).1 b).2):=by
  unfold an
  rw [List.foldl_append,← Prod.eta (a.foldl aY (S,[]))]
  exact dy b _ _
theorem fZ {S : Po} (h : S.st=5) : ∀ b : List By,an S b=(S,[])
  | []=>rfl
  | c::b=>by
    have e : an S (c::b)=b.foldl aY (aY (S,[]) c):=rfl
    rw [e]
    have : aY (S,[]) c=(S,[]):=by unfold aY;rw [if_pos h]
    rw [this]
    exact fZ h b
theorem je : ∀ (x : List By) (S : Po),S.st≠5→(∀ c ∈ x,c≠10)→an S x=(⟨S.st,S.fr,S.to,S.ln++x,S.dt,S.ms⟩,[])
  | [],S,_,_=>by simp [an]
  | c::x,S,h5,hx=>by
    have e : an S (c::x)=x.foldl aY (aY (S,[]) c):=rfl
    have hc:=uK (l:=S.ln) c (hx c List.mem_cons_self)
    have : aY (S,[]) c=(⟨S.st,S.fr,S.to,S.ln++[c],S.dt,S.ms⟩,[]):=by
      unfold aY bg
      rw [if_neg h5]
      dsimp only
      rw [hc]
      rfl
    rw [e,this]
    have:=je x ⟨S.st,S.fr,S.to,S.ln++[c],S.dt,S.ms⟩ h5 (fun d hd=>hx d (List.mem_cons_of_mem _ hd))
    unfold an at this
    rw [this]
    simp
theorem jf (x : List By) (S : Po) (h5 : S.st≠5) (h0 : x≠[]) (hx : ∀ c ∈ x.dropLast,c≠10) : an S x=bg S x:=by
  obtain ⟨y,c,rfl⟩:=(List.eq_nil_or_concat x).resolve_left h0
  rw [List.concat_eq_append] at *
  rw [List.dropLast_concat] at hx
  rw [dc,je y S h5 hx]
  dsimp only
  have e : ∀ T : Po,T.st≠5→an T [c]=bg T [c]:=by
    intro T hT
    show aY (T,[]) c=_
    unfold aY
    rw [if_neg hT]
    dsimp only
    rw [List.nil_append]
  rw [e ⟨S.st,S.fr,S.to,S.ln++y,S.dt,S.ms⟩ h5]
  have : bg ⟨S.st,S.fr,S.to,S.ln++y,S.dt,S.ms⟩ [c]=bg S (y++[c]):=by
    unfold bg
    dsimp only
    rw [List.append_assoc]
  rw [this,List.nil_append]
def Po.sz (S : Po) : Nat:=S.ln.length+S.dt.length+S.ms.length
structure Po.fit (S : Po) (n : Nat) : Prop where
  sz : S.sz≤n
  to : S.to.length≤10
theorem qo (S : Po) (t : List By) : (bM S t).1.to=S.to∧(bM S t).1.sz=S.sz∧(bM S t).1.ln=S.ln:=by
  unfold bM Po.sz
  repeat' split
  all_goals exact ⟨rfl,rfl,rfl⟩
theorem uL (S : Po) (t : List By) (h : S.to.length≤10) : (c9 S t).1.to.length≤10∧(c9 S t).1.sz=S.sz∧(c9 S t).1.ln=S.ln:=by
  unfold c9 Po.sz
  repeat' split
  all_goals (refine ⟨?_,rfl,rfl⟩;first | exact h|(show (S.to++[_]).length≤10;rw [List.length_append,List.length_singleton];omega))
theorem kT (S : Po) (k : Nat) : (bL S k).to.length≤10∧(bL S k).sz≤S.sz∧(bL S k).ln=S.ln:=by
  refine ⟨by show 0≤10;omega,?_,rfl⟩
  unfold bL Po.sz
  simp only [List.length_nil]
  omega
theorem jg (S : Po) (l : List By) (h : S.to.length≤10) : (aX S l).1.to.length≤10∧(aX S l).1.sz≤S.sz∧(aX S l).1.ln=S.ln:=by
  have h0 : S.to.length≤10∧S.sz≤S.sz∧S.ln=S.ln:=⟨h,Nat.le_refl _,rfl⟩
  unfold aX
  split
  · exact h0
  split
  · unfold cZ
    split
    · exact kT S 1
    · exact h0
  split
  · obtain ⟨a,b,c⟩:=qo S (l.drop 10)
    exact ⟨a ▸ h,by omega,c⟩
  split
  · obtain ⟨a,b,c⟩:=uL S (l.drop 8) h
    exact ⟨a,by omega,c⟩
  split
  · unfold cx
    repeat' split
    all_goals exact h0
  split
  · unfold ct
    repeat' split
    all_goals first | exact h0 | exact kT S 1
  split
  · unfold eK
    split
    · exact kT S 5
    · exact h0
  · exact h0
theorem jh (S : Po) (l : List By) (n : Nat) (h : S.fit n) : (aV S l).1.fit (n+l.length+2)∧(aV S l).1.ln=S.ln:=by
  unfold aV
  split
  · split
    · refine ⟨⟨?_,by show 0≤10;omega⟩,rfl⟩
      have:=h.sz
      unfold fo Po.sz at *
      simp only [List.length_append,List.length_cons,List.length_nil]
      omega
    · refine ⟨⟨?_,h.to⟩,rfl⟩
      have:=h.sz
      unfold Po.sz at *
      simp only [List.length_append,List.length_cons,List.length_nil]
      omega
  · obtain ⟨a,b,c⟩:=jg S l h.to
    exact ⟨⟨by have:=h.sz;show (aX S l).1.sz≤_;omega,a⟩,c⟩
theorem gT (S : Po) (x : List By) (n : Nat) (h : S.fit n) : (bg S x).1.fit (n+x.length):=by
  unfold bg
  split
  · rename_i he
    have hl:=fu he
    have h1:=h.sz
    unfold Po.sz at h1
    rw [List.length_append] at hl
    have h2:=(jh ⟨S.st,S.fr,S.to,[],S.dt,S.ms⟩ (S.ln++x).dropLast.dropLast (S.dt.length+S.ms.length) ⟨by unfold Po.sz;simp,h.to⟩).1
    exact ⟨by have:=h2.sz;omega,h2.to⟩
  · refine ⟨?_,h.to⟩
    have:=h.sz
    unfold Po.sz at *
    simp only [List.length_append]
    omega
theorem ji : ∀ (b : List By) (S : Po) (n : Nat),S.fit n→(an S b).1.fit (n+b.length)
  | [],S,n,h=>by simpa [an] using h
  | c::b,S,n,h=>by
    have e : an S (c::b)=b.foldl aY (aY (S,[]) c):=rfl
    have h1 : (aY (S,[]) c).1.fit (n+1):=by
      unfold aY
      dsimp only
      split
      · exact ⟨Nat.le_succ_of_le h.sz,h.to⟩
      · exact gT S [c] n h
    rw [e,← Prod.eta (aY (S,[]) c),dy]
    have:=ji b (aY (S,[]) c).1 (n+1) h1
    rw [List.length_cons,Nat.add_comm b.length 1,← Nat.add_assoc]
    exact this
end dx
end
section
set_option maxRecDepth 10000
open Sl
namespace dx
structure Mz where
  qt : Acc
  qb : Acc
  m : Ml
  ht : qt=none→m.to=[]
  hb : qb=none→m.b=[]
def Mz.cs (z : Mz) : List Value:=[Z z.m.fr,ag z.qt z.m.to.length,ag z.qb z.m.b.length]
def Mz.E (z : Mz) : List aF:=ay 9 z.qt (z.m.to.map Z)++ay 5 z.qb (z.m.b.map U8)
structure Pw where
  st : Nat
  fr : List Bt
  qt : Acc
  to : List (List Bt)
  ql : Acc
  ln : List Bt
  qd : Acc
  dt : List Bt
  qm : Acc
  zs : List Mz
structure Pw.ok (z : Pw) : Prop where
  t : z.qt=none→z.to=[]
  l : z.ql=none→z.ln=[]
  d : z.qd=none→z.dt=[]
  m : z.qm=none→z.zs=[]
def Pw.cs (z : Pw) : List Value:=[N z.st,Z z.fr,ag z.qt z.to.length,ag z.ql z.ln.length,ag z.qd z.dt.length,ag z.qm z.zs.length]
def Pw.T (z : Pw) : List aF:=ay 9 z.qt (z.to.map Z)
def Pw.L (z : Pw) : List aF:=ay 5 z.ql (z.ln.map U8)
def Pw.D (z : Pw) : List aF:=ay 5 z.qd (z.dt.map U8)
def Pw.M (z : Pw) : List aF:=cg 38 3 z.qm (z.zs.map Mz.cs)++z.zs.flatMap Mz.E
def Pw.R (z : Pw) : List aF:=z.T++(z.L++(z.D++z.M))
def Pw.E (b : Nat) (z : Pw) : List aF:=⟨b,Row 75 z.cs,true⟩::z.R
theorem xo (z : Mz) : ∀ e ∈ z.E,e.wr=true:=by
  intro e he
  rcases List.mem_append.1 he with h | h
  · exact b8 _ _ _ e h
  · exact b8 _ _ _ e h
theorem od (zs : List Mz) : ∀ e ∈ zs.flatMap Mz.E,e.wr=true:=by
  intro e he
  obtain ⟨z,_,hz⟩:=List.mem_flatMap.1 he
  exact xo z e hz
theorem Pw.wr (b : Nat) (z : Pw) : ∀ e ∈ z.E b,e.wr=true:=by
  intro e he
  rcases List.mem_cons.1 he with rfl | he
  · rfl
  rcases List.mem_append.1 he with h | he
  · exact b8 _ _ _ e h
  rcases List.mem_append.1 he with h | he
  · exact b8 _ _ _ e h
  rcases List.mem_append.1 he with h | he
  · exact b8 _ _ _ e h
  rcases List.mem_append.1 he with h | he
  · exact iG _ _ _ _ e h
  · exact od _ e he
def tr (l : List Bt) : List Bt:=if 515<l.length then l.take 513++l.drop (l.length - 2) else l
def oe (S : Po) : List Bt:=if S.st=4 then S.ln else tr S.ln
structure Pw.is (z : Pw) (S : Po) : Prop where
  st : z.st=S.st
  fr : z.fr=S.fr
  to : z.to=S.to
  ln : z.ln=oe S
  dt : z.dt=S.dt
  ms : z.zs.map Mz.m=S.ms
theorem wo : tr []=[]:=rfl
theorem gy {S : Po} (h : S.ln=[]) : oe S=[]:=by
  unfold oe
  rw [h,wo]
  split <;> rfl
theorem xp : nJ Tryz.prog 38=true:=by kernel_rfl
theorem wV : EI Tryz.prog 38 (.agg #[Z [],.slice none 0 0,.slice none 0 0]) 3 64:=by unfold EI;kernel_rfl
theorem bV : eu Tryz.prog 3=true:=by kernel_rfl
theorem fy : eu Tryz.prog 9=true:=by kernel_rfl
theorem de : eu Tryz.prog 30=true:=by kernel_rfl
theorem cW : eu Tryz.prog 22=true:=by kernel_rfl
theorem o8 : eu Tryz.prog 31=true:=by kernel_rfl
theorem sr : e6 Tryz.prog 3=some 1:=by kernel_rfl
theorem mg : e6 Tryz.prog 9=some 1:=by kernel_rfl
theorem su : e6 Tryz.prog 30=some 1:=by kernel_rfl
theorem mh : e6 Tryz.prog 22=some 1:=by kernel_rfl
theorem vD : e6 Tryz.prog 31=some 1:=by kernel_rfl
theorem dN (q : Acc) (k : Nat) : (ag q k).oneCell'=true:=by cases q <;> rfl
theorem dz (q : Acc) (k : Nat) : (ag q k).cells=#[ag q k]:=by cases q <;> rfl
section
variable {n : Nat} {w0 : World} {S : List Nat} {ops : Array Oper} {Q : Exit→Act→World→Prop} {l : List Oper} {E : Env} {M : List aF} {pos : String} {aft : Array Edge} {ty : TypeId} {x y : Operand} {b : Nat} {z : Pw} {rest : List aF}
theorem JL.jj (k : Nat) (hx : ev E x=some (Pt b 0)) (hy : ev E y=some (N k)) (hk : JL Tryz.prog n w0 S ops Q l E (⟨b,Row 75 (Pw.cs { z with st:=k }),true⟩::rest)) : JL Tryz.prog n w0 S ops Q (⟨none,.store 3 x y,ty,pos,aft,none⟩::l) E (⟨b,Row 75 z.cs,true⟩::rest):=
  JL.bJ (b:=b) (r:=z.cs) sr hx hy rfl rfl .here (show 0<6 by decide) rfl hk
theorem JL.sw (s : List Bt) (hx : ev E x=some (Pt b 1)) (hy : ev E y=some (Z s)) (hk : JL Tryz.prog n w0 S ops Q l E (⟨b,Row 75 (Pw.cs { z with fr:=s }),true⟩::rest)) : JL Tryz.prog n w0 S ops Q (⟨none,.store 9 x y,ty,pos,aft,none⟩::l) E (⟨b,Row 75 z.cs,true⟩::rest):=
  JL.bJ (b:=b) (r:=z.cs) mg hx hy rfl rfl .here (show 1<6 by decide) rfl hk
theorem JL.o9 (q : Acc) (to : List (List Bt)) (hx : ev E x=some (Pt b 2)) (hy : ev E y=some (ag q to.length)) (hk : JL Tryz.prog n w0 S ops Q l E (⟨b,Row 75 (Pw.cs { z with qt:=q,to:=to }),true⟩::rest)) : JL Tryz.prog n w0 S ops Q (⟨none,.store 30 x y,ty,pos,aft,none⟩::l) E (⟨b,Row 75 z.cs,true⟩::rest):=
  JL.bJ (b:=b) (r:=z.cs) su hx hy (dN _ _) (dz _ _) .here (show 2<6 by decide) rfl hk
theorem JL.sx (q : Acc) (s : List Bt) (hx : ev E x=some (Pt b 3)) (hy : ev E y=some (ag q s.length)) (hk : JL Tryz.prog n w0 S ops Q l E (⟨b,Row 75 (Pw.cs { z with ql:=q,ln:=s }),true⟩::rest)) : JL Tryz.prog n w0 S ops Q (⟨none,.store 22 x y,ty,pos,aft,none⟩::l) E (⟨b,Row 75 z.cs,true⟩::rest):=
  JL.bJ (b:=b) (r:=z.cs) mh hx hy (dN _ _) (dz _ _) .here (show 3<6 by decide) rfl hk
theorem JL.pe (q : Acc) (s : List Bt) (hx : ev E x=some (Pt b 4)) (hy : ev E y=some (ag q s.length)) (hk : JL Tryz.prog n w0 S ops Q l E (⟨b,Row 75 (Pw.cs { z with qd:=q,dt:=s }),true⟩::rest)) : JL Tryz.prog n w0 S ops Q (⟨none,.store 22 x y,ty,pos,aft,none⟩::l) E (⟨b,Row 75 z.cs,true⟩::rest):=
  JL.bJ (b:=b) (r:=z.cs) mh hx hy (dN _ _) (dz _ _) .here (show 4<6 by decide) rfl hk
end
end dx
end
section
set_option maxRecDepth 10000
open Sl
section
variable {P : Program} {n : Nat} {w0 : World} {S : List Nat} {ops : Array Oper} {Q : Exit→Act→World→Prop} {l : List Oper} {E : Env} {M : List aF} {C : World→Prop}
variable {dst : Option Tmp} {d : Nat} {t t' e ty : TypeId} {pos : String} {aft : Array Edge} {g : Option (Nat × Bool)} {x y : Operand}
theorem JL.fQ {ι : Type} {X M0 : List aF} (vf : ι→Value) (Yf : ι→List aF) {f : FuncId} {xs : List Operand} {ats : Array TypeId} {vs : List Value} (hg : aK P f) (hx : eO E xs=some vs) (hd : Nat.blt d n=true) (hX : ∀ e ∈ X,e.wr=true) (hY : ∀ i,∀ e ∈ Yf i,e.wr=true)
    (hc : ∀ w,aa w0 S (X++M0) w→aa w (keys X) X w→Calls P f vs.toArray w fun e w'=>∃ i,e=.returned (vf i)∧aa w (keys X) (Yf i) w')
    (k : ∀ i,JL P n w0 S ops Q l ((d,vf i)::E) (Yf i++M0)) : JL P n w0 S ops Q (⟨some d,.call ⟨.value (.func f),xs.toArray,ats⟩,ty,pos,aft,none⟩::l) E (X++M0):=
  JL.call (ι:=ι) vf (fun i=>Yf i++M0) hg hx hd (fun w hw=>(hc w hw (hw.own.weak (c6 _ _))).mono fun _ _ ⟨i,h1,h2⟩=>⟨i,h1,hw.vz h2 hX (hY i)⟩) k
theorem OQ.kU {ad : Option Addr} {k cap : Nat} (hu : P.underlying t=some (.slice e)) (hx : ev E x=some (.slice ad k cap)) (hy : ev E y=some (.slice none 0 0)) :
    OQ P n E C ⟨dst,.binOp .eql t x y t',ty,pos,aft,g⟩ (.bool ad.isNone):=
  OQ.run fun c ha w _=>by
    have h1:=ha.eval hx
    have h2:=ha.eval hy
    have h4 : (binOp .eql t (.slice ad k cap) (.slice none 0 0)).run P w=.ok (.bool ad.isNone) w:=by
      show (do pure (.bool (← Op.equal t (.slice ad k cap) (.slice none 0 0))) : Sem Value).run P w=_
      simp [Sem.run_bind,run_equal_slice_nil w t e ad k cap hu]
    simp [execOp,h1,h2,eqGuard,h4]
theorem OQ.cX {k : IntKind} {len cap b j i sz : Nat} (hu : P.underlying t=some (.slice e)) (hz : e6 P e=some sz) (hx : ev E x=some (.slice (some ⟨b,j,none⟩) len cap)) (hy : ev E y=some (.int k (i : Int))) (hi : i<len) :
    OQ P n E C ⟨dst,.indexAddr t x y,ty,pos,aft,g⟩ (.pointer (some ⟨b,j+i * sz,none⟩)):=
  OQ.run fun a ha w _=>by
    have h1:=ha.eval hx
    have h2:=ha.eval hy
    have h3 : (underlying t).run P w=.ok (.slice e) w:=run_underlying hu w
    simp [execOp,h1,h2,Instr.indexAt,asIntOf,Sem.run_bind,h3,hi,br hz,bW]
end
theorem mj {w0 w : World} {S : List Nat} {X M : List aF} {b : Nat} {A : Obj→Prop} {wr : Bool} (hw : aa w0 S (X++M) w) (hM : Has M b A wr) : b ∉ keys X:=by
  have hn:=hw.nodup
  rw [List.map_append,List.nodup_append] at hn
  intro hm
  exact hn.2.2 b hm b (List.mem_map_of_mem (f:=aF.b) hM.mem) rfl
end
section
namespace aA
inductive Hd : List (List By × List By)→List By→Prop
  | nil : Hd [] []
  | cons (n v L e : List By) (fs : List (List By × List By)) (H : List By) : vA n=true→x6 v=true→Fo (32::v) L→yJ e→Hd fs H→Hd ((n,v)::fs) (n++58::L++e++H)
end aA
end
section
namespace aA
end aA
end
section
namespace aA
def bN (l : List By) : List UInt8:=l.map UInt8.ofBitVec
theorem dA (l : List By) : (bu l).data.toList=bN l:=rfl
theorem pg (l : List By) : (⟨(bN l).toArray⟩ : ByteArray)=bu l:=rfl
theorem mq (p : UInt8→Bool) : ∀ l : List By,(bN l).dropWhile p=bN (l.dropWhile fun c=>p (UInt8.ofBitVec c))
  | []=>rfl
  | c::l=>by
    show (UInt8.ofBitVec c::bN l).dropWhile p=_
    rw [List.dropWhile_cons,List.dropWhile_cons]
    cases h : p (UInt8.ofBitVec c) with
    | true=>exact mq p l
    | false=>rfl
theorem pn (l : List By) : (bN l).reverse=bN l.reverse:=by unfold bN;rw [List.map_reverse]
theorem sy (c : By) : (bN [32,9]).contains (UInt8.ofBitVec c)=bl c:=by
  have h : ∀ c : Fin 256,(bN [32,9]).contains (UInt8.ofBitVec (BitVec.ofNat 8 c.val))=bl (BitVec.ofNat 8 c.val):=by decide +kernel
  simpa using h ⟨c.toNat,c.isLt⟩
theorem mu (l : List By) : Go.Lib.trimLeftS (bN l) (bN [32,9])=bN (bB l):=by
  unfold Go.Lib.trimLeftS
  rw [mq]
  congr 1
  unfold bB
  congr 1
  funext c
  exact sy c
def ij (v : List By) : List By:=(bB v.reverse).reverse
theorem jk (c : By) (r : List By) : ij (c::r)=if ij r=[]∧bl c=true then [] else c::ij r:=by
  unfold ij bB
  rw [List.reverse_cons,List.dropWhile_append]
  by_cases h : (r.reverse.dropWhile bl)=[]
  · rw [h]
    cases hc : bl c <;> simp [hc]
  · have h2 : (r.reverse.dropWhile bl).isEmpty=false:=by simpa using h
    rw [h2,if_neg (by decide),if_neg (by rintro ⟨k,_⟩;exact h (by simpa using k)),List.reverse_append]
    rfl
theorem j5 : ∀ v : List By,bB (ij v)=ij (bB v)
  | []=>rfl
  | c::r=>by
    have ih:=j5 r
    rw [jk]
    cases hc : bl c with
    | true=>
      have e : bB (c::r)=bB r:=by simp [bB,hc]
      rw [e,← ih]
      by_cases h : ij r=[]
      · rw [if_pos ⟨h,rfl⟩,h]
      · rw [if_neg (fun k=>h k.1)]
        simp [bB,hc]
    | false=>
      have e : bB (c::r)=c::r:=by simp [bB,hc]
      rw [if_neg (by rintro ⟨_,k⟩;cases k),e,jk,if_neg (by rintro ⟨_,k⟩;rw [hc] at k;cases k)]
      simp [bB,hc]
theorem uM (l : List By) : Go.Lib.trimS (bN l) (bN [32,9])=bN (trim l):=by
  have h1 : Go.Lib.trimRightS (bN l) (bN [32,9])=bN (ij l):=by
    unfold Go.Lib.trimRightS
    rw [pn]
    have:=mu l.reverse
    unfold Go.Lib.trimLeftS at this
    rw [this,pn]
    rfl
  unfold Go.Lib.trimS
  rw [h1,mu,j5]
  rfl
def fi (c : By) (s : List By) : Nat:=(s.takeWhile (· != c)).length
theorem mw (c : By) (s : List By) : fi c s≤s.length:=(List.takeWhile_sublist _).length_le
theorem dn (c d : By) (r : List By) : fi c (d::r)=if d=c then 0 else fi c r+1:=by
  unfold fi
  rw [List.takeWhile_cons]
  by_cases h : d=c
  · simp [h]
  · simp [h]
theorem sA : ∀ (c : By) (s : List By),fi c s<s.length→s.getD (fi c s) 0=c
  | c,[],h=>by simp [fi] at h
  | c,d::r,h=>by
    rw [dn] at h ⊢
    by_cases hd : d=c
    · rw [if_pos hd];exact hd
    · rw [if_neg hd] at h ⊢
      exact sA c r (by simpa using h)
theorem fF : ∀ (c : By) (s : List By) {j : Nat},j<fi c s→¬ s.getD j 0=c
  | c,[],j,h=>by simp [fi] at h
  | c,d::r,j,h=>by
    rw [dn] at h
    by_cases hd : d=c
    · rw [if_pos hd] at h;omega
    · rw [if_neg hd] at h
      cases j with
      | zero=>exact hd
      | succ j=>exact fF c r (by omega)
theorem vE (c : By) (s : List By) : fi c s<s.length↔c ∈ s:=by
  induction s with
  | nil=>simp [fi]
  | cons d r ih=>
    rw [dn]
    by_cases h : d=c
    · simp [h]
    · have h' : ¬ c=d:=fun e=>h e.symm
      rw [if_neg h,List.length_cons,List.mem_cons]
      constructor
      · intro k;exact .inr (ih.1 (by omega))
      · rintro (k | k)
        · exact absurd k h'
        · have:=ih.2 k;omega
def gI (c : By) (s : List By) : Int:=if fi c s<s.length then (fi c s : Int) else -1
theorem uN (s : List By) {i : Nat} (h : i<s.length) : (bu s)[i]! = UInt8.ofBitVec (s.getD i 0):=by
  have hs : i<(bu s).size:=by rw [bn];exact h
  rw [getElem!_pos (bu s) i hs]
  show (bu s).data[i]'_=_
  show ((bN s).toArray)[i]'_=_
  simp [bN,List.getD_eq_getElem?_getD,List.getElem?_eq_getElem h]
theorem sB (s : List By) (c : By) : firstIdx (bu s) ((c.toNat : Int)).toNat.toUInt8=gI c s:=by
  have hc : ((c.toNat : Int)).toNat.toUInt8=UInt8.ofBitVec c:=by
    rw [Int.toNat_natCast]
    apply UInt8.toBitVec_inj.1
    apply BitVec.eq_of_toNat_eq
    simp [Nat.toUInt8,UInt8.ofNat]
  rw [hc]
  unfold firstIdx
  rw [bn]
  have hp : ∀ i,i<s.length→((bu s)[i]! == UInt8.ofBitVec c)=decide (s.getD i 0=c):=by
    intro i hi
    rw [uN s hi]
    by_cases h : s.getD i 0=c
    · rw [h];simp
    · rw [decide_eq_false h]
      refine beq_eq_false_iff_ne.2 fun k=>h ?_
      have:=congrArg UInt8.toBitVec k
      exact this
  unfold gI
  by_cases h : fi c s<s.length
  · rw [if_pos h]
    have hf : (List.range s.length).find? (fun i=>(bu s)[i]! == UInt8.ofBitVec c)=some (fi c s):=by
      rw [List.find?_range_eq_some]
      refine ⟨?_,by simpa using h,?_⟩
      · rw [hp _ h,decide_eq_true (sA c s h)]
      · intro j hj
        rw [hp j (by omega),decide_eq_false (fF c s hj)]
        rfl
    rw [hf]
  · rw [if_neg h]
    have hf : (List.range s.length).find? (fun i=>(bu s)[i]! == UInt8.ofBitVec c)=none:=by
      rw [List.find?_range_eq_none]
      intro j hj
      have:=mw c s
      rw [hp j hj,decide_eq_false (fF c s (by omega))]
      rfl
    rw [hf]
def la (c : By) (s : List By) : Nat:=(s.reverse.takeWhile fun d=>!(d == c)).length
def qp (c : By) (s : List By) : Int:=(s.length : Int) - 1 - la c s
theorem uO (c : By) (s : List By) (d : By) : la c (s++[d])=if d=c then 0 else la c s+1:=by
  unfold la
  rw [List.reverse_append,List.reverse_singleton,List.singleton_append,List.takeWhile_cons]
  by_cases h : d=c
  · simp [h]
  · simp [h]
theorem xq (c : By) (s : List By) : la c s≤s.length:=by
  unfold la
  have:=(List.takeWhile_sublist (fun d=>!(d == c)) (l:=s.reverse)).length_le
  simpa using this
theorem xu (c : By) (s : List By) : la c s<s.length↔c ∈ s:=by
  have h:=vE c s.reverse
  have e : fi c s.reverse=la c s:=by
    unfold fi la
    congr 1
  rw [e] at h
  simpa using h
end aA
end
section
set_option maxRecDepth 10000
open Sl aA Go.Shelf
theorem j6 {w w' : World} (h : RowKit.Below w.heap.size w w') : Ext w w':=⟨h.os,h.tape,h.output,h.size,fun k hk _=>h.block k hk⟩
theorem sC : (Tryz.prog.info? 264).map (fun i=>(i.zero,i.size))=some (some (.agg (Array.replicate 256 (.bool false))),256):=by kernel_rfl
theorem og : ∀ (j : Nat) b,(bu [32,9]).data.toList[j]?=some b→b.toNat<128:=ascii_of_all (by decide)
def mA : Ren:=⟨fun | 160=>177 | 232=>212 | 231=>211 | 227=>213 | 234=>215 | 233=>214 | 236=>217 | 235=>216 | 228=>243 | 271=>245 | 151=>244 | 197=>165 | 120=>266 | 152=>265 | 260=>196 | 137=>269 | 119=>278 | 224=>184 | 225=>198 | 217=>197 | 266=>232 | n=>n,
  fun | 9=>9 | 4=>4 | 3=>3 | 5=>5 | 117=>265 | 116=>264 | 0=>0 | 124=>268 | 21=>21 | 105=>225 | 46=>189 | 119=>280 | 139=>283 | 138=>282 | n=>n,
  fun | 3=>3 | 4=>4 | n=>n⟩
theorem sD : Lays.n160 Tryz.prog mA:={
  mixed:=by kernel_rfl
  f119:=Tryz.func278.trans (congrArg some (by kernel_rfl))
  f120:=Tryz.func266.trans (congrArg some (by kernel_rfl))
  f137:=Tryz.func269.trans (congrArg some (by kernel_rfl))
  f151:=Tryz.func244.trans (congrArg some (by kernel_rfl))
  f152:=Tryz.func265.trans (congrArg some (by kernel_rfl))
  f160:=Tryz.func177.trans (congrArg some (by kernel_rfl))
  f197:=Tryz.func165.trans (congrArg some (by kernel_rfl))
  f217:=Tryz.func197.trans (congrArg some (by kernel_rfl))
  f224:=Tryz.func184.trans (congrArg some (by kernel_rfl))
  f225:=Tryz.func198.trans (congrArg some (by kernel_rfl))
  f227:=Tryz.func213.trans (congrArg some (by kernel_rfl))
  f228:=Tryz.func243.trans (congrArg some (by kernel_rfl))
  f231:=Tryz.func211.trans (congrArg some (by kernel_rfl))
  f232:=Tryz.func212.trans (congrArg some (by kernel_rfl))
  f233:=Tryz.func214.trans (congrArg some (by kernel_rfl))
  f234:=Tryz.func215.trans (congrArg some (by kernel_rfl))
  f235:=Tryz.func216.trans (congrArg some (by kernel_rfl))
  f236:=Tryz.func217.trans (congrArg some (by kernel_rfl))
  f260:=Tryz.func196.trans (congrArg some (by kernel_rfl))
  f266:=Tryz.func232.trans (congrArg some (by kernel_rfl))
  f271:=Tryz.func245.trans (congrArg some (by kernel_rfl))
  t0:=Tryz.underlying0
  a0:=Tryz.isAgg0
  z0:=Tryz.sizeOf0
  v0:=Tryz.zeroValue0
  t3:=Tryz.underlying3
  a3:=Tryz.isAgg3
  z3:=Tryz.sizeOf3
  v3:=Tryz.zeroValue3
  t4:=Tryz.underlying4
  a4:=Tryz.isAgg4
  z4:=Tryz.sizeOf4
  v4:=Tryz.zeroValue4
  t5:=Tryz.underlying5
  a5:=Tryz.isAgg5
  z5:=Tryz.sizeOf5
  v5:=Tryz.zeroValue5
  t9:=Tryz.underlying9
  a9:=Tryz.isAgg9
  z9:=Tryz.sizeOf9
  v9:=Tryz.zeroValue9
  t21:=Tryz.underlying21
  a21:=Tryz.isAgg21
  z21:=Tryz.sizeOf21
  v21:=Tryz.zeroValue21
  t46:=Tryz.underlying189
  a46:=Tryz.isAgg189
  z46:=Tryz.sizeOf189
  v46:=Tryz.zeroValue189
  t105:=Tryz.underlying225
  a105:=Tryz.isAgg225
  z105:=Tryz.sizeOf225
  v105:=Tryz.zeroValue225
  t116:=Tryz.underlying264
  a116:=Tryz.isAgg264
  z116:=Tryz.sizeOf264
  t117:=Tryz.underlying265
  a117:=Tryz.isAgg265
  z117:=Tryz.sizeOf265
  v117:=Tryz.zeroValue265
  t119:=Tryz.underlying280
  a119:=Tryz.isAgg280
  z119:=Tryz.sizeOf280
  t124:=Tryz.underlying268
  a124:=Tryz.isAgg268
  z124:=Tryz.sizeOf268
  v124:=Tryz.zeroValue268
  t138:=Tryz.underlying282
  a138:=Tryz.isAgg282
  z138:=Tryz.sizeOf282
  v138:=Tryz.zeroValue282
  t139:=Tryz.underlying283
  a139:=Tryz.isAgg283
  z139:=Tryz.sizeOf283
  v139:=Tryz.zeroValue283
  g3:=by kernel_rfl
  g4:=by kernel_rfl }
theorem ga : aK Tryz.prog 177:=⟨_,Tryz.func177,rfl,by kernel_rfl⟩
theorem j7 (s : List Bt) (w : World) (hl : s.length<9223372036854775808) : Calls Tryz.prog 177 [Z s,Z [32,9]].toArray w fun e w'=>e=.returned (Z (trim s))∧Ext w w':=
  (Any.strings_Trim_laid sD sC (bu s) (bu [32,9]) w (by rw [bn];omega) (by decide) og).mono fun e w' ⟨h1,h2⟩=>⟨by
    rw [h1,dA,dA,uM,pg],j6 h2⟩
structure kV (P : Program) (f : FuncId) : Prop where
  go : ∃ fn,P.funcs[f]?=some fn∧(fn.name == "runtime.NumGoroutine")=false∧fn.body.isNone=true∧Extern.findNext fn=none∧Extern.find fn=some Extern.BytealgIndexByte.indexByte
theorem OQ.idxs {P : Program} {n : Nat} {E : Env} {C : World→Prop} {dst : Option Tmp} {ty : TypeId} {pos : String} {aft : Array Edge} {g : Option (Nat × Bool)} {f : FuncId} {ats : Array TypeId} {x y : Operand} {s : List Bt} {c : Bt} (hf : kV P f) (hx : ev E x=some (Z s)) (hy : ev E y=some (U8 c)) :
    OQ P n E C ⟨dst,.call ⟨.value (.func f),#[x,y],ats⟩,ty,pos,aft,g⟩ (I (gI c s)):=by
  refine ⟨fun ac hk w hw=>?_⟩
  obtain ⟨fn,h1,h2,h3,h4,h5⟩:=hf.go
  have r:=run_callFunc_extern h1 h2 h3 h4 h5 #[Z s,U8 c] w
  rw [run_indexByte_string,sB] at r
  unfold Oper.quietAt
  have r' : (execOp ac.eval ⟨dst,.call ⟨.value (.func f),#[x,y],ats⟩,ty,pos,aft,g⟩).run P w=.ok (.value (I (gI c s))) w:=by
    simp only [Result.andThen] at r
    have k1:=hk.eval hx
    have k2:=hk.eval hy
    have e : (.ok (.value (I (gI c s))) w : Result Next)=(callFunc f #[Z s,U8 c]).run P w:=r.symm
    rw [e]
    simp [execOp,resolve,Sem.run_bind,Act.eval,Deferred.ofValue,invoke,k1,k2]
    simp [Act.eval] at k1 k2
    simp [k1,k2]
  rw [r']
  exact ⟨rfl,rfl⟩
theorem uP : kV Tryz.prog 232:=⟨_,Tryz.func232,rfl,rfl,by kernel_rfl,by kernel_rfl⟩
theorem j8 : aK Tryz.prog 197:=⟨_,Tryz.func197,rfl,by kernel_rfl⟩
theorem qq : aK Tryz.prog 269:=⟨_,Tryz.func269,rfl,by kernel_rfl⟩
theorem mB (s : List Bt) (c : Bt) (w : World) : Calls Tryz.prog 197 [Z s,U8 c].toArray w fun e w'=>e=.returned (I (gI c s))∧Ext w w':=by
  refine enter (n:=8) Tryz.func197 rfl rfl rfl (aa.start w []) ?_
  repeat (first | refine JL.q (by first|(apply OQ.idxs;exact uP;rfl;rfl)|(apply OQ.move;rfl)|(apply OQ.assign;rfl)) rfl ?_ | refine JC.seq ?_ | refine JC.region ?_ | refine JL.nil ?_ | refine JE.next ?_)
  exact JC.ret (JE.aE rfl (RV.tmp rfl) fun w' hw=>⟨rfl,hw.aS⟩)
theorem sE (s : List Bt) (c : Bt) (w : World) : Calls Tryz.prog 269 [Z s,U8 c].toArray w fun e w'=>e=.returned (I (gI c s))∧Ext w w':=by
  refine enter (n:=8) Tryz.func269 rfl rfl rfl (aa.start w []) ?_
  repeat (first | refine JL.q (by first|(apply OQ.ak;exact j8;rfl;exact (fun w' _=>mB s c w'))|(apply OQ.move;rfl)|(apply OQ.assign;rfl)) rfl ?_ | refine JC.seq ?_ | refine JC.region ?_ | refine JL.nil ?_ | refine JE.next ?_)
  exact JC.ret (JE.aE rfl (RV.tmp rfl) fun w' hw=>⟨rfl,hw.aS⟩)
theorem iq : aK Tryz.prog 167:=⟨_,Tryz.func167,rfl,by kernel_rfl⟩
theorem j9 : aK Tryz.prog 220:=⟨_,Tryz.func220,rfl,by kernel_rfl⟩
theorem cE : aK Tryz.prog 180:=⟨_,Tryz.func180,rfl,by kernel_rfl⟩
theorem uR (c : Bt) : gI c [c]=0:=by simp [gI,fi]
theorem jl (s : List Bt) (c : Bt) (w : World) : Calls Tryz.prog 167 [Z s,Z [c]].toArray w fun e w'=>e=.returned (I (gI c s))∧Ext w w':=by
  refine enter (n:=143) Tryz.func167 rfl rfl rfl (aa.start w []) ?_
  cases h : decide ([c]=s)
  · repeat (first | refine JL.q (by first|(apply OQ.bw;exact Tryz.underlying9;rfl)|(apply OQ.gH (a:=1) (b:=0);rfl;rfl;rfl)|(apply OQ.en;rfl;rfl;exact h)|(apply OQ.aB;rfl;rfl)|(apply OQ.move;rfl)|(apply OQ.assign;rfl)) rfl ?_ | refine JC.seq ?_ | refine JC.region ?_ | refine JC.block ?_ | refine JL.nil ?_ | refine JE.next ?_ | refine JL.aT rfl rfl ?_)
    refine JC.cond rfl (fun h=>by cases h) (fun _=>?_)
    repeat (first | refine JL.q (by first|(apply OQ.gH (a:=1) (b:=1);rfl;rfl;rfl)|(apply OQ.move;rfl)|(apply OQ.assign;rfl)) rfl ?_ | refine JC.seq ?_ | refine JC.region ?_ | refine JL.nil ?_ | refine JE.next ?_)
    refine JC.cond rfl (fun _=>?_) (fun h=>by cases h)
    repeat (first | refine JL.q (by first|(apply OQ.jR (l:=[c]) (i:=0);exact Tryz.underlying9;rfl;rfl;exact (Nat.zero_lt_succ 0))|(apply OQ.ak (vs:=[Z s,U8 c]);exact j8;rfl;exact (fun w' _=>mB s c w'))|(apply OQ.move;rfl)|(apply OQ.assign;rfl)) rfl ?_ | refine JC.seq ?_ | refine JC.region ?_ | refine JL.nil ?_ | refine JE.next ?_)
    refine JC.ret ?_
    repeat (first | refine JE.ah ?_ | refine JE.aZ ?_)
    exact JE.aE rfl (RV.tmp rfl) fun w' hw=>⟨rfl,hw.aS⟩
  · obtain rfl:=of_decide_eq_true h
    rw [uR]
    repeat (first | refine JL.q (by first|(apply OQ.bw;exact Tryz.underlying9;rfl)|(apply OQ.gH (a:=1) (b:=0);rfl;rfl;rfl)|(apply OQ.en;rfl;rfl;exact h)|(apply OQ.aB;rfl;rfl)|(apply OQ.move;rfl)|(apply OQ.assign;rfl)) rfl ?_ | refine JC.seq ?_ | refine JC.region ?_ | refine JC.block ?_ | refine JL.nil ?_ | refine JE.next ?_ | refine JL.aT rfl rfl ?_)
    refine JC.cond rfl (fun _=>?_) (fun h=>by cases h)
    repeat (first | refine JL.q (by (apply OQ.assign;rfl)) rfl ?_ | refine JC.seq ?_ | refine JC.region ?_ | refine JL.nil ?_ | refine JE.next ?_)
    refine JC.ret ?_
    repeat (first | refine JE.ah ?_ | refine JE.aZ ?_)
    exact JE.aE rfl (RV.tmp rfl) fun w' hw=>⟨rfl,hw.aS⟩
def cutV (c : Bt) (s : List Bt) : Value:=if fi c s<s.length then .tuple #[Z (s.take (fi c s)),Z (s.drop (fi c s+1)),.bool true] else .tuple #[Z s,Z [],.bool false]
theorem sF (s : List Bt) (c : Bt) (w : World) (hl : s.length<9223372036854775807) : Calls Tryz.prog 220 [Z s,Z [c]].toArray w fun e w'=>e=.returned (cutV c s)∧Ext w w':=by
  refine enter (n:=23) Tryz.func220 rfl rfl rfl (aa.start w []) ?_
  by_cases h : fi c s<s.length
  · have e1 : gI c s=(fi c s : Nat):=if_pos h
    have hq : ∀ w',Calls Tryz.prog 167 [Z s,Z [c]].toArray w' fun e w2=>e=.returned (N (fi c s))∧Ext w' w2:=fun w'=>by
      have:=jl s c w'
      rw [e1] at this
      exact this
    have hle : fi c s≤s.length:=by omega
    have hle1 : fi c s+1≤s.length:=h
    rw [show cutV c s=_ from if_pos h]
    generalize fi c s=k at hq hle hle1
    repeat (first | refine JL.q (by first|(apply OQ.ak (vs:=[Z s,Z [c]]);exact iq;rfl;exact (fun w' _=>hq w'))|(apply OQ.move;rfl)|(apply OQ.assign;rfl)) rfl ?_ | refine JC.seq ?_ | refine JC.region ?_ | refine JL.nil ?_ | refine JE.next ?_)
    repeat (first | refine JL.q (by (apply OQ.w5;rfl;rfl)) rfl ?_ | refine JL.nil ?_ | refine JE.next ?_)
    refine JC.cond_true rfl (decide_eq_true (Nat.zero_le _)) ?_
    refine JC.seq (JC.quiet ei (by kernel_rfl) ?_)
    repeat (refine JQ.q (by first|(apply OQ.cw;exact Tryz.underlying9;rfl;rfl;exact hle)|(apply OQ.bw;exact Tryz.underlying9;rfl)|(apply OQ.bh (b:=1);rfl;rfl;exact (by omega))|(apply OQ.bH;exact Tryz.underlying9;rfl;rfl;exact hle1)|(apply OQ.move;rfl)|(apply OQ.assign;rfl)) rfl ?_)
    refine JQ.nil (JE.next ?_)
    refine JC.ret ?_
    repeat (refine JE.ah ?_)
    exact JE.l8 rfl (RV.tmp rfl) (RV.tmp rfl) (RV.tmp rfl) fun w' hw=>⟨rfl,hw.aS⟩
  · have e1 : gI c s=-1:=if_neg h
    have hq : ∀ w',Calls Tryz.prog 167 [Z s,Z [c]].toArray w' fun e w2=>e=.returned (I (-1))∧Ext w' w2:=fun w'=>by
      have:=jl s c w'
      rw [e1] at this
      exact this
    rw [show cutV c s=_ from if_neg h]
    repeat (first | refine JL.q (by first|(apply OQ.ak (vs:=[Z s,Z [c]]);exact iq;rfl;exact (fun w' _=>hq w'))|(apply OQ.move;rfl)|(apply OQ.assign;rfl)) rfl ?_ | refine JC.seq ?_ | refine JC.region ?_ | refine JL.nil ?_ | refine JE.next ?_)
    repeat (first | refine JL.q (by (apply OQ.cJ (a:=-1) (b:=0);rfl;rfl;rfl)) rfl ?_ | refine JL.nil ?_ | refine JE.next ?_)
    refine JC.cond_false rfl rfl ?_
    repeat (first | refine JL.q (by first|(apply OQ.move;rfl)|(apply OQ.assign;rfl)) rfl ?_ | refine JC.seq ?_ | refine JC.region ?_ | refine JC.skip ?_ | refine JL.nil ?_ | refine JE.next ?_)
    refine JC.ret ?_
    skip
    exact JE.l8 rfl (RV.tmp rfl) (RV.tmp rfl) (RV.tmp rfl) fun w' hw=>⟨rfl,hw.aS⟩
theorem mC (s : List Bt) (c : Bt) (w : World) (hl : s.length<9223372036854775807) : Calls Tryz.prog 180 [Z s,Z [c]].toArray w fun e w'=>e=.returned (cutV c s)∧Ext w w':=by
  refine enter (n:=13) Tryz.func180 rfl rfl rfl (aa.start w []) ?_
  have hq:=fun w'=>sF s c w' hl
  unfold cutV at hq ⊢
  by_cases h : fi c s<s.length
  · simp only [h,if_true] at hq ⊢
    repeat (first | refine JL.q (by first|(apply OQ.ak (vs:=[Z s,Z [c]]);exact j9;rfl;exact (fun w' _=>hq w'))|(apply OQ.extract;rfl;rfl)|(apply OQ.move;rfl)|(apply OQ.assign;rfl)) rfl ?_ | refine JC.seq ?_ | refine JC.region ?_ | refine JL.nil ?_ | refine JE.next ?_)
    exact JC.ret (JE.l8 rfl (RV.tmp rfl) (RV.tmp rfl) (RV.tmp rfl) fun w' hw=>⟨rfl,hw.aS⟩)
  · simp only [h,if_false] at hq ⊢
    repeat (first | refine JL.q (by first|(apply OQ.ak (vs:=[Z s,Z [c]]);exact j9;rfl;exact (fun w' _=>hq w'))|(apply OQ.extract;rfl;rfl)|(apply OQ.move;rfl)|(apply OQ.assign;rfl)) rfl ?_ | refine JC.seq ?_ | refine JC.region ?_ | refine JL.nil ?_ | refine JE.next ?_)
    exact JC.ret (JE.l8 rfl (RV.tmp rfl) (RV.tmp rfl) (RV.tmp rfl) fun w' hw=>⟨rfl,hw.aS⟩)
end
section
namespace Tok
open aA
def Inv (o : List By) (q : Bool) : Prop:=∀ r : List By,aN (o++r) 0 false []=aN r 0 q o
theorem Inv.q {o : List By} {c : By} (h : Inv o true) (hc : ¬ c=92) : Inv (o++[c]) (!(c == 34)):=fun r=>by
  rw [List.append_assoc,h,List.singleton_append,kS hc]
theorem Inv.n {o : List By} {c : By} (h : Inv o false) (h1 : ¬ c=40) (h2 : ¬ c=41) : Inv (o++[c]) (c == 34):=fun r=>by
  rw [List.append_assoc,h,List.singleton_append,jd h1 h2]
end Tok
end
section
namespace Tok
open aA
end Tok
end
section
namespace Tok
open aA
end Tok
end
section
namespace Tok
open aA
end Tok
end
section
namespace Tok
open aA
end Tok
end
section
namespace Tok
open aA
def bz : List aA.By→Nat→Nat→Except Nat Nat
  | [],_,_=>.error 3
  | c::r,d,k=>
    if c=40 then (if 8<d then .error 5 else bz r (d+1) (k+1))
    else if c=41 then (if d - 1=0 then .ok (k+1) else bz r (d - 1) (k+1))
    else if c=92 then
      match r with
      | []=>.error 3
      | _::r'=>bz r' d (k+2)
    else bz r d (k+1)
theorem fG (r : List aA.By) (d k : Nat) : bz (40::r) d k=if 8<d then .error 5 else bz r (d+1) (k+1):=by
  rw [bz.eq_def];rfl
theorem iJ (r : List aA.By) (d k : Nat) : bz (41::r) d k=if d - 1=0 then .ok (k+1) else bz r (d - 1) (k+1):=by
  rw [bz.eq_def];rfl
theorem jm (d k : Nat) : bz [92] d k=.error 3:=by rw [bz.eq_def];rfl
theorem kW (c : aA.By) (r : List aA.By) (d k : Nat) : bz (92::c::r) d k=bz r d (k+2):=by
  conv=>lhs;rw [bz.eq_def]
  rfl
theorem oh {c : aA.By} (h1 : ¬ c=40) (h2 : ¬ c=41) (h3 : ¬ c=92) (r : List aA.By) (d k : Nat) : bz (c::r) d k=bz r d (k+1):=by
  conv=>lhs;rw [bz.eq_def]
  dsimp only
  rw [if_neg h1,if_neg h2,if_neg h3]
theorem gU (d k : Nat) : bz [] d k=.error 3:=by rw [bz.eq_def]
theorem ke : ∀ (n : Nat) (r : List aA.By) (d k : Nat) (o : List aA.By),r.length≤n→0<d→
    (∀ e,bz r d k=.error e→aN r d false o=([],e))∧(∀ m,bz r d k=.ok m→k<m∧m≤k+r.length∧aN r d false o=aN (r.drop (m - k)) 0 false (o++[32])):=by
  intro n
  induction n with
  | zero=>
    intro r d k o h hd
    obtain rfl : r=[]:=List.eq_nil_of_length_eq_zero (by omega)
    rw [gU,cu]
    refine ⟨fun e he=>?_,fun m hm=>by cases hm⟩
    cases he
    rw [decide_eq_true (by omega),Bool.true_or,if_pos rfl]
  | succ n ih=>
    intro r d k o h hd
    match r,h with
    | [],_=>
      rw [gU,cu]
      refine ⟨fun e he=>?_,fun m hm=>by cases hm⟩
      cases he
      rw [decide_eq_true (by omega),Bool.true_or,if_pos rfl]
    | c::r,h=>
      simp only [List.length_cons] at h ⊢
      have step : ∀ (r' : List aA.By) (j d' : Nat) (o' : List aA.By),r'.length≤n→0<d'→(∀ x,(c::r).drop (j+x)=r'.drop x)→j+r'.length=r.length+1→0<j→o'=o→aN (c::r) d false o=aN r' d' false o'→
          bz (c::r) d k=bz r' d' (k+j)→
          (∀ e,bz (c::r) d k=.error e→aN (c::r) d false o=([],e))∧(∀ m,bz (c::r) d k=.ok m→k<m∧m≤k+(r.length+1)∧aN (c::r) d false o=aN ((c::r).drop (m - k)) 0 false (o++[32])):=by
        intro r' j d' o' hl hd' hdr hjl hj ho hb hc
        subst ho
        obtain ⟨i1,i2⟩:=ih r' d' (k+j) o' hl hd'
        rw [hb,hc]
        refine ⟨i1,fun m hm=>?_⟩
        obtain ⟨a1,a2,a3⟩:=i2 m hm
        refine ⟨by omega,by omega,?_⟩
        rw [a3,show m - k=j+(m - (k+j)) by omega,hdr]
      by_cases h40 : c=40
      · subst h40
        by_cases h8 : 8<d
        · rw [fG,if_pos h8]
          refine ⟨fun e he=>?_,fun m hm=>by cases hm⟩
          cases he
          rw [gx,if_pos (by omega)]
        · exact step r 1 (d+1) o (by omega) (by omega) (fun x=>by rw [Nat.add_comm];rfl) (by omega) (by omega) rfl (by rw [gx,if_neg (by omega)]) (by rw [fG,if_neg h8])
      · by_cases h41 : c=41
        · subst h41
          by_cases h1 : d - 1=0
          · rw [iJ,if_pos h1]
            refine ⟨fun e he=>by (cases he),fun m hm=>?_⟩
            cases hm
            refine ⟨by omega,by omega,?_⟩
            rw [iH,if_neg (by omega),if_pos h1,h1,show k+1 - k=1 by omega]
            rfl
          · exact step r 1 (d - 1) o (by omega) (by omega) (fun x=>by rw [Nat.add_comm];rfl) (by omega) (by omega) rfl (by rw [iH,if_neg (by omega),if_neg h1]) (by rw [iJ,if_neg h1])
        · by_cases h92 : c=92
          · subst h92
            match r,h with
            | [],_=>
              rw [jm,gS hd]
              exact ⟨fun e he=>by cases he;rfl,fun m hm=>by cases hm⟩
            | c2::r,h=>
              simp only [List.length_cons] at h
              exact step r 2 d o (by omega) hd (fun x=>by rw [Nat.add_comm];rfl) (by simp only [List.length_cons];omega) (by omega) rfl (jc hd c2 r o) (kW c2 r d k)
          · exact step r 1 d o (by omega) hd (fun x=>by rw [Nat.add_comm];rfl) (by omega) (by omega) rfl (sn h92 h40 h41 (by omega) r o) (oh h40 h41 h92 r d k)
def bq : List aA.By→Nat→Nat
  | [],_=>0
  | c::r,k=>
    if c=92 then
      match r with
      | []=>0
      | _::r'=>bq r' (k+2)
    else if c=34 then k+1 else bq r (k+1)
theorem kX (k : Nat) : bq [] k=0:=by rw [bq.eq_def]
theorem pq (r : List aA.By) (k : Nat) : bq (34::r) k=k+1:=by rw [bq.eq_def];rfl
theorem mD (k : Nat) : bq [92] k=0:=by rw [bq.eq_def];rfl
theorem pz (c : aA.By) (r : List aA.By) (k : Nat) : bq (92::c::r) k=bq r (k+2):=by
  conv=>lhs;rw [bq.eq_def]
  rfl
theorem sG {c : aA.By} (h1 : ¬ c=34) (h2 : ¬ c=92) (r : List aA.By) (k : Nat) : bq (c::r) k=bq r (k+1):=by
  conv=>lhs;rw [bq.eq_def]
  dsimp only
  rw [if_neg h2,if_neg h1]
theorem kg : ∀ (n : Nat) (r : List aA.By) (k : Nat) (o : List aA.By),r.length≤n→
    (bq r k=0→aN r 0 true o=([],3))∧(bq r k≠0→k<bq r k∧bq r k≤k+r.length∧aN r 0 true o=aN (r.drop (bq r k - k)) 0 false (o++r.take (bq r k - k))):=by
  intro n
  induction n with
  | zero=>
    intro r k o h
    obtain rfl : r=[]:=List.eq_nil_of_length_eq_zero (by omega)
    rw [kX,cu]
    exact ⟨fun _=>rfl,fun h=>absurd rfl h⟩
  | succ n ih=>
    intro r k o h
    match r,h with
    | [],_=>
      rw [kX,cu]
      exact ⟨fun _=>rfl,fun h=>absurd rfl h⟩
    | c::r,h=>
      simp only [List.length_cons] at h ⊢
      by_cases h92 : c=92
      · subst h92
        match r,h with
        | [],_=>
          rw [mD,gR]
          exact ⟨fun _=>rfl,fun h=>absurd rfl h⟩
        | c2::r,h=>
          simp only [List.length_cons] at h ⊢
          obtain ⟨i1,i2⟩:=ih r (k+2) (o++[92]++[c2]) (by omega)
          rw [pz,jb]
          refine ⟨i1,fun hn=>?_⟩
          obtain ⟨a1,a2,a3⟩:=i2 hn
          refine ⟨by omega,by omega,?_⟩
          rw [a3,show bq r (k+2) - k=(bq r (k+2) - (k+2))+1+1 by omega,List.drop_succ_cons,List.drop_succ_cons,List.take_succ_cons,List.take_succ_cons]
          simp
      · by_cases h34 : c=34
        · subst h34
          rw [pq]
          refine ⟨fun h=>absurd h (by omega),fun _=>⟨by omega,by omega,?_⟩⟩
          rw [kS (by decide),show k+1 - k=0+1 by omega,List.drop_succ_cons,List.take_succ_cons]
          rfl
        · obtain ⟨i1,i2⟩:=ih r (k+1) (o++[c]) (by omega)
          rw [sG h34 h92,kS h92]
          have hb : (!(c == 34))=true:=by
            rw [Bool.not_eq_true',beq_eq_false_iff_ne]
            exact h34
          rw [hb]
          refine ⟨i1,fun hn=>?_⟩
          obtain ⟨a1,a2,a3⟩:=i2 hn
          refine ⟨by omega,by omega,?_⟩
          rw [a3,show bq r (k+1) - k=(bq r (k+1) - (k+1))+1 by omega,List.drop_succ_cons,List.take_succ_cons]
          simp
theorem qs {r : List aA.By} {e : Nat} (o : List aA.By) (h : bz (40::r) 0 0=.error e) : aN (40::r) 0 false o=([],e):=by
  rw [fG,if_neg (by omega)] at h
  rw [gx,if_neg (by omega)]
  exact (ke r.length r 1 1 o (Nat.le_refl _) (by omega)).1 e h
theorem kY {r : List aA.By} {m : Nat} (o : List aA.By) (h : bz (40::r) 0 0=.ok m) : 0<m∧m≤r.length+1∧aN (40::r) 0 false o=aN ((40::r).drop m) 0 false (o++[32]):=by
  rw [fG,if_neg (by omega)] at h
  rw [gx,if_neg (by omega)]
  obtain ⟨h1,h2,h3⟩:=(ke r.length r 1 1 o (Nat.le_refl _) (by omega)).2 m h
  refine ⟨by omega,by omega,?_⟩
  rw [h3]
  obtain ⟨m',rfl⟩ : ∃ m',m=m'+1:=⟨m - 1,by omega⟩
  rfl
theorem qu {r : List aA.By} (o : List aA.By) (h : bq r 1=0) : aN (34::r) 0 false o=([],3):=by
  rw [jd (by decide) (by decide)]
  exact (kg r.length r 1 _ (Nat.le_refl _)).1 h
theorem kZ {r : List aA.By} (o : List aA.By) (h : bq r 1≠0) : 1<bq r 1∧bq r 1≤r.length+1∧aN (34::r) 0 false o=aN ((34::r).drop (bq r 1)) 0 false (o++(34::r).take (bq r 1)):=by
  rw [jd (by decide) (by decide)]
  obtain ⟨h1,h2,h3⟩:=(kg r.length r 1 (o++[34]) (Nat.le_refl _)).2 h
  refine ⟨h1,by omega,?_⟩
  show aN r 0 true (o++[34])=_
  rw [h3]
  generalize bq r 1=m at h1 ⊢
  obtain ⟨m',rfl⟩ : ∃ m',m=m'+1:=⟨m - 1,by omega⟩
  simp
def gV (p : aA.By→Bool) (s : List aA.By) : Nat:=(s.takeWhile p).length
theorem gW (p : aA.By→Bool) (c : aA.By) (s : List aA.By) : gV p (c::s)=if p c then gV p s+1 else 0:=by
  unfold gV
  rw [List.takeWhile_cons]
  cases p c <;> simp
theorem qv (p : aA.By→Bool) : ∀ s : List aA.By,s.take (gV p s)=s.takeWhile p
  | []=>rfl
  | c::s=>by
    rw [gW,List.takeWhile_cons]
    cases p c with
    | true=>simp [qv p s]
    | false=>simp
theorem mE (p : aA.By→Bool) : ∀ s : List aA.By,(gV p s=s.length)↔s.all p=true
  | []=>by simp [gV]
  | c::s=>by
    rw [gW,List.all_cons,List.length_cons]
    have ih:=mE p s
    cases p c with
    | true=>simpa using ih
    | false=>simp
theorem sH (s : List aA.By) : eJ s=(decide (s≠[]) && decide (gV cO s=s.length)):=by
  unfold eJ
  rw [Bool.eq_iff_iff,Bool.and_eq_true,Bool.and_eq_true,decide_eq_true_eq,decide_eq_true_eq,decide_eq_true_eq,mE,List.length_pos_iff]
  exact and_comm
end Tok
end
section
set_option maxRecDepth 10000
open Sl aA Tok
theorem sI : aK Tryz.prog 186:=⟨_,Tryz.func186,rfl,by kernel_rfl⟩
theorem mF : aK Tryz.prog 150:=⟨_,Tryz.func150,rfl,by kernel_rfl⟩
theorem mG : aK Tryz.prog 114:=⟨_,Tryz.func114,rfl,by kernel_rfl⟩
theorem bY {s : List aA.By} {i : Nat} (h : i<s.length) {n : Nat} {E : Env} {C : World→Prop} {dst : Option Tmp} {ty : TypeId} {pos : String} {aft : Array Edge} {g : Option (Nat × Bool)} {x y : Operand} (hx : ev E x=some (Z s)) (hy : ev E y=some (N i)) : OQ Tryz.prog n E C ⟨dst,.index 9 x y,ty,pos,aft,g⟩ (U8 (s.getD i 0)):=OQ.jR Tryz.underlying9 hx hy h
theorem gX (c d : aA.By) : decide ((d.toNat : Int)=(c.toNat : Int))=(d == c):=by
  by_cases h : d=c
  · subst h;simp
  · rw [decide_eq_false (gr h)];simp [h]
set_option maxHeartbeats 8000000 in
theorem uS (c : aA.By) (s : List aA.By) (w : World) (hl : s.length<9223372036854775808) : Calls Tryz.prog 186 [U8 c,Z s].toArray w fun e w'=>e=.returned (.bool (xm c s))∧Ext w w':=by
  refine enter (n:=17) Tryz.func186 rfl rfl rfl (aa.start w []) ?_
  repeat (first | refine JL.q (by (apply OQ.assign;rfl)) rfl ?_ | refine JC.seq ?_ | refine JC.region ?_ | refine JC.block ?_ | refine JL.nil ?_ | refine JE.next ?_)
  refine JC.loop (fun i : Nat=>[(0,U8 c),(1,Z s),(5,N i)]) (fun _=>[]) (fun i=>s.length - i) (fun i=>i≤s.length∧xm c s=(s.drop i).any fun d=>d == c) 0 ⟨Nat.zero_le _,rfl⟩ (by repeat (first | exact af.nil | refine af.cons _ _ _ rfl ?_)) (av.refl _) ?_
  rintro i ⟨hi,ha⟩
  repeat (first | refine JL.q (by first|(apply OQ.bw;exact Tryz.underlying9;rfl)|(apply OQ.move;rfl)|(apply OQ.dV;rfl;rfl)) rfl ?_ | refine JC.seq ?_ | refine JC.region ?_ | refine JL.nil ?_ | refine JE.next ?_)
  refine JC.cond rfl (fun h=>?_) (fun h=>?_)
  · have hi' : i<s.length:=of_decide_eq_true h
    clear h hi
    have hd : (s.drop i).any (fun d=>d == c)=((s.getD i 0 == c) || (s.drop (i+1)).any fun d=>d == c):=by
      rw [List.drop_eq_getElem_cons hi',List.any_cons,List.getD_eq_getElem?_getD,List.getElem?_eq_getElem hi']
      rfl
    have hidx:=fun {n : Nat} {E : Env} {C : World→Prop} {dst : Option Tmp} {ty : TypeId} {pos : String} {aft : Array Edge} {g : Option (Nat × Bool)} {x y : Operand}=>bY hi' (n:=n) (E:=E) (C:=C) (dst:=dst) (ty:=ty) (pos:=pos) (aft:=aft) (g:=g) (x:=x) (y:=y)
    have he:=gX c (s.getD i 0)
    generalize s.getD i 0=d at hidx hd he
    cases h1 : decide ((d.toNat : Int)=(c.toNat : Int))
    all_goals (rw [h1] at he;rw [hd,← he] at ha;repeat (first | refine JL.q (by first|(apply hidx;rfl;rfl)|(apply OQ.gH;rfl;rfl;exact h1)|(apply OQ.move;rfl)) rfl ?_ | refine JC.seq ?_ | refine JC.region ?_ | refine JC.block ?_ | refine JC.skip ?_ | refine JL.nil ?_ | refine JE.next ?_))
    all_goals refine JC.cond rfl (fun h=>?_) (fun h=>?_)
    all_goals first|(exfalso;revert h;decide) | skip
    all_goals (clear h)
    · repeat (first | refine JL.q (by first|(apply OQ.move;rfl)|(apply OQ.assign;rfl)|(apply OQ.bh;rfl;rfl;exact (by (try simp only []);omega))) rfl ?_ | refine JC.region ?_ | refine JC.skip ?_ | refine JL.nil ?_ | refine JE.next ?_ | refine JE.ai ?_)
      exact JE.again (i:=i) (i+1) ⟨hi',by rw [ha,Bool.false_or]⟩ (by omega) (by repeat (first | exact af.nil | refine af.cons _ _ _ rfl ?_)) (av.refl _)
    · rw [ha,Bool.true_or]
      repeat (first | refine JL.q (by (apply OQ.assign;rfl)) rfl ?_ | refine JC.seq ?_ | refine JC.region ?_ | refine JL.nil ?_ | refine JE.next ?_)
      refine JC.ret ?_
      repeat (first | refine JE.ah ?_ | refine JE.aZ ?_)
      exact JE.aE rfl (RV.tmp rfl) fun w' hw=>⟨rfl,hw.aS⟩
  · have hi' : ¬ i<s.length:=of_decide_eq_false h
    obtain rfl : i=s.length:=by omega
    rw [List.drop_length] at ha
    rw [ha]
    repeat (first | refine JL.q (by (apply OQ.assign;rfl)) rfl ?_ | refine JC.seq ?_ | refine JC.region ?_ | refine JC.exit ?_ | refine JL.nil ?_ | refine JE.next ?_ | refine JE.ax ?_ | refine JE.aI ?_)
    refine JC.ret ?_
    exact JE.aE rfl (RV.tmp rfl) fun w' hw=>⟨rfl,hw.aS⟩
theorem x8 (c : aA.By) : cO c=(decide (33≤(c.toNat : Int)) && decide ((c.toNat : Int)≤126) && !xm c spec):=by
  unfold cO
  congr 1
  congr 1
  · exact decide_eq_decide.2 (by omega)
  · exact decide_eq_decide.2 (by omega)
set_option maxHeartbeats 8000000 in
theorem om (c : aA.By) (w : World) : Calls Tryz.prog 150 [U8 c].toArray w fun e w'=>e=.returned (.bool (cO c))∧Ext w w':=by
  refine enter (n:=14) Tryz.func150 rfl rfl rfl (aa.start w []) ?_
  have cI:=fun w'=>uS c spec w' (by decide)
  rw [x8]
  generalize xm c spec=x at cI ⊢
  cases h1 : decide ((33 : Int)≤(c.toNat : Int)) <;> cases h2 : decide ((c.toNat : Int)≤126) <;> cases h3 : x
  all_goals subst h3
  all_goals (repeat (first | refine JL.q (by first|(apply OQ.o4 (vs:=[U8 c,Z spec]);exact sI;rfl;exact cI;rfl)|(apply OQ.cJ (b:=33);rfl;rfl;exact h1)|(apply OQ.qh (b:=126);rfl;rfl;exact h2)|(apply OQ.not;rfl)|(apply OQ.az;rfl;rfl)|(apply OQ.aB;rfl;rfl)|(apply OQ.move;rfl)|(apply OQ.assign;rfl)) rfl ?_ | refine JC.seq ?_ | refine JC.region ?_ | refine JL.nil ?_ | refine JE.next ?_ | refine JL.aT rfl rfl ?_ | refine JL.aU rfl rfl rfl rfl ?_))
  all_goals exact JC.ret (JE.aE rfl (RV.tmp rfl) fun w' hw=>⟨rfl,hw.aS⟩)
set_option maxHeartbeats 8000000 in
theorem oo (s : List aA.By) (w : World) (hl : s.length<140737488351233) : Calls Tryz.prog 114 [Z s].toArray w fun e w'=>e=.returned (Z (s.map small))∧Ext w w':=by
  refine enter (n:=30) Tryz.func114 rfl rfl rfl (aa.start w []) ?_
  repeat (first | refine JL.q (by (apply OQ.assign;rfl)) rfl ?_ | refine JC.seq ?_ | refine JC.region ?_ | refine JL.nil ?_ | refine JE.next ?_)
  refine JL.oW Tryz.underlying22 cc rfl fun b0 _=>?_
  repeat (first | refine JL.q (by (apply OQ.assign;rfl)) rfl ?_ | refine JC.seq ?_ | refine JC.region ?_ | refine JC.block ?_ | refine JL.nil ?_ | refine JE.next ?_)
  refine JC.loop (fun q : Nat × Nat × Nat=>[(0,Z s),(3,.slice (some ⟨q.2.1,0,none⟩) q.1 q.2.2),(4,N q.1)]) (fun q=>[⟨q.2.1,Sl.aO 5 1 q.1 q.2.2 (((s.take q.1).map small).map U8),true⟩]) (fun q=>s.length - q.1) (fun q=>q.1≤s.length) (0,b0,0) (Nat.zero_le _) (by repeat (first | exact af.nil | refine af.cons _ _ _ rfl ?_)) (av.refl _) ?_
  rintro ⟨i,b,cap⟩ hi
  simp only at hi
  dsimp only
  repeat (first | refine JL.q (by first|(apply OQ.bw;exact Tryz.underlying9;rfl)|(apply OQ.move;rfl)|(apply OQ.dV;rfl;rfl)) rfl ?_ | refine JC.seq ?_ | refine JC.region ?_ | refine JL.nil ?_ | refine JE.next ?_)
  refine JC.cond rfl (fun h=>?_) (fun h=>?_)
  · have hi' : i<s.length:=of_decide_eq_true h
    clear h hi
    have hx:=bO s hi'
    have hlen : ((s.take i).map small).length=i:=by rw [List.length_map,List.length_take];omega
    have hidx:=fun {n : Nat} {E : Env} {C : World→Prop} {dst : Option Tmp} {ty : TypeId} {pos : String} {aft : Array Edge} {g : Option (Nat × Bool)} {x y : Operand}=>bY hi' (n:=n) (E:=E) (C:=C) (dst:=dst) (ty:=ty) (pos:=pos) (aft:=aft) (g:=g) (x:=x) (y:=y)
    generalize s.getD i 0=c at hx hidx
    have hs : small c=if decide ((65 : Int)≤(c.toNat : Int)) && decide ((c.toNat : Int)≤90) then c+32 else c:=by
      unfold small
      by_cases h : 65≤c.toNat∧c.toNat≤90
      · rw [if_pos h,if_pos (by simp;omega)]
      · rw [if_neg h,if_neg (by simp;omega)]
    generalize hT : (s.take i).map small=T at hlen ⊢
    have hT2 : (s.take (i+1)).map small=T++[small c]:=by rw [hx,List.map_append,hT];rfl
    generalize small c=d at hs hT2
    cases h1 : decide ((65 : Int)≤(c.toNat : Int)) <;> cases h2 : decide ((c.toNat : Int)≤90)
    all_goals (
      rw [h1,h2] at hs
      (repeat (first | refine JL.q (by first|(apply hidx;rfl;rfl)|(apply OQ.cJ (b:=65);rfl;rfl;exact h1)|(apply OQ.qh (b:=90);rfl;rfl;exact h2)|(apply OQ.az;rfl;rfl)|(apply OQ.aB;rfl;rfl)|(apply OQ.move;rfl)|(apply OQ.assign;rfl)) rfl ?_ | refine JC.seq ?_ | refine JC.region ?_ | refine JC.block ?_ | refine JC.skip ?_ | refine JL.nil ?_ | refine JE.next ?_ | refine JL.aT rfl rfl ?_ | refine JL.aU rfl rfl rfl rfl ?_))
      refine JC.join (ι:=Unit) (fun _=>[(0,Z s),(3,.slice (some ⟨b,0,none⟩) i cap),(4,N i),(5,U8 d)]) (fun _=>[⟨b,Sl.aO 5 1 i cap (T.map U8),true⟩]) (fun _=>True) ?_ ?_
      · subst hs
        refine JC.cond rfl (fun h=>?_) (fun h=>?_)
        all_goals first|(exfalso;revert h;decide) | skip
        all_goals (clear h;repeat (first | refine JL.q (by first|(apply OQ.xe (b:=32#8);rfl;rfl)|(apply OQ.move;rfl)|(apply OQ.assign;rfl)) rfl ?_ | refine JC.region ?_ | refine JC.skip ?_ | refine JL.nil ?_))
        all_goals exact JE.mid () trivial (by repeat (first | exact af.nil | refine af.cons _ _ _ rfl ?_)) (av.refl _)
      · rintro ⟨⟩ _
        (repeat (first | refine JL.q (by (apply OQ.move;rfl)) rfl ?_ | refine JC.region ?_))
        refine JL.fj (xs:=T.map U8) (fun b' cap'=>[⟨b',Sl.aO 5 1 (i+1) cap' (T.map U8++[U8 d]),true⟩]) Tryz.underlying22 cc rfl rfl rfl rfl (fun _=>rfl) (by intro _ _;repeat (first | exact aL.here | apply aL.there)) (by omega) (by omega) rfl rfl fun bl b' cap'=>?_
        (repeat (first | refine JL.q (by first|(apply OQ.move;rfl)|(apply OQ.assign;rfl)|(apply OQ.bh;rfl;rfl;exact (by (try simp only []);omega))) rfl ?_ | refine JC.region ?_ | refine JL.nil ?_ | refine JE.next ?_ | refine JE.ai ?_))
        refine JE.again (i:=(i,b,cap)) (i+1,b',cap') hi' (by show s.length - (i+1)<s.length - i;omega) (by repeat (first | exact af.nil | refine af.cons _ _ _ rfl ?_)) (.keep _ _ _ _ _ _ (fun o h=>?_) (.nil _))
        dsimp only
        rw [hT2,List.map_append]
        exact h)
  · have hi' : ¬ i<s.length:=of_decide_eq_false h
    obtain rfl : i=s.length:=by omega
    clear h hi hi'
    rw [List.take_length]
    have hY : s.length=(s.map small).length:=(List.length_map _).symm
    generalize s.map small=Y at hY ⊢
    rw [hY]
    repeat (first | refine JL.q (by first|(apply OQ.nF (s:=⟨some ⟨b,0,none⟩,cap,Y⟩);exact Tryz.underlying22;exact Tryz.underlying5;exact Tryz.underlying9;rfl;exact (fun w' hw'=>dM hw' .here))|(apply OQ.move;rfl)|(apply OQ.assign;rfl)) rfl ?_ | refine JC.seq ?_ | refine JC.region ?_ | refine JC.exit ?_ | refine JL.nil ?_ | refine JE.next ?_ | refine JE.ax ?_ | refine JE.aI ?_)
    refine JC.ret ?_
    skip
    exact JE.aE rfl (RV.tmp rfl) fun w' hw=>⟨rfl,hw.aS⟩
end
section
set_option maxRecDepth 10000
open Sl aA Tok
theorem OQ.ck {P : Program} {n : Nat} {E : Env} {C : World→Prop} {dst : Option Tmp} {t t' ty : TypeId} {pos : String} {aft : Array Edge} {g : Option (Nat × Bool)} {x y : Operand} {a b : BitVec 8} {c : Bool} (hx : ev E x=some (U8 a)) (hy : ev E y=some (U8 b)) (h : decide (a=b)=c) : OQ P n E C ⟨dst,.binOp .eql t x y t',ty,pos,aft,g⟩ (.bool c):=h ▸ OQ.xZ hx hy
theorem sJ : eu Tryz.prog 9=true:=by kernel_rfl
def wq (but : List aA.By) (c : aA.By) : Bool:=(decide ((33 : Int)≤(c.toNat : Int)) && decide ((c.toNat : Int)≤126)) && decide (gI c but<0)
def eA : List aA.By:=[40,41,60,62,64,44,59,92,34,91,93,61,47,58,63,46]
theorem sK : wq eA=cO:=by
  funext c
  have h : ∀ c : Fin 256,wq eA (BitVec.ofNat 8 c.val)=cO (BitVec.ofNat 8 c.val):=by decide +kernel
  simpa using h ⟨c.toNat,c.isLt⟩
theorem k6 : aK Tryz.prog 248:=⟨_,Tryz.func248,rfl,by kernel_rfl⟩
theorem jT : aK Tryz.prog 268:=⟨_,Tryz.func268,rfl,by kernel_rfl⟩
theorem sL : aK Tryz.prog 267:=⟨_,Tryz.func267,rfl,by kernel_rfl⟩
theorem qw : aK Tryz.prog 247:=⟨_,Tryz.func247,rfl,by kernel_rfl⟩
theorem jn : aK Tryz.prog 222:=⟨_,Tryz.func222,rfl,by kernel_rfl⟩
theorem gz : aK Tryz.prog 209:=⟨_,Tryz.func209,rfl,by kernel_rfl⟩
theorem ir : aK Tryz.prog 210:=⟨_,Tryz.func210,rfl,by kernel_rfl⟩
theorem jo : aK Tryz.prog 176:=⟨_,Tryz.func176,rfl,by kernel_rfl⟩
set_option maxHeartbeats 4000000 in
theorem ld (but : List aA.By) (b : Nat) (c : Bt) (w : World) (hc : w.cell? ⟨b,0,none⟩=some (Z but)) : Calls Tryz.prog 268 [U8 c,Pt b 0].toArray w fun e w'=>e=.returned (.bool (wq but c))∧Ext w w':=by
  refine enter (n:=16) Tryz.func268 rfl rfl rfl (aa.start w []) ?_
  unfold wq
  cases h1 : decide ((33 : Int)≤(c.toNat : Int)) <;> cases h2 : decide ((c.toNat : Int)≤126) <;> cases h3 : decide (gI c but<0)
  all_goals (repeat (first | refine JL.q (by first|(apply OQ.cJ (b:=33);rfl;rfl;exact h1)|(apply OQ.qh (b:=126);rfl;rfl;exact h2)|(apply OQ.aq;exact sJ;rfl;exact (block_lt_of_cell hc);exact (by simp);exact hc)|(apply OQ.ak (vs:=[Z but,U8 c]);exact qq;rfl;exact (fun w' _=>sE but c w'))|(apply OQ.cU (b:=0);rfl;rfl;exact h3)|(apply OQ.az;rfl;rfl)|(apply OQ.aB;rfl;rfl)|(apply OQ.move;rfl)|(apply OQ.assign;rfl)) rfl ?_ | refine JC.seq ?_ | refine JC.region ?_ | refine JL.nil ?_ | refine JE.next ?_ | refine JL.aT rfl rfl ?_ | refine JL.aU rfl rfl rfl rfl ?_))
  all_goals exact JC.ret (JE.aE rfl (RV.tmp rfl) fun w' hw=>⟨rfl,hw.aS⟩)
@[reducible] def xw (b : Nat) : Value:=.func (.func 268) #[] [Pt b 0].toArray
theorem mH {w0 w : World} {S : List Nat} {M : List aF} {b : Nat} {but : List aA.By} {wr : Bool} (hw : aa w0 S M w) (hM : Has M b (Row 9 [Z but]) wr) : jS Tryz.prog w (xw b) (wq but):=by
  refine ⟨_,[Pt b 0],rfl,jT,fun c w' hx=>ld but b c w' ?_⟩
  obtain ⟨o,ho,hA⟩:=hw.get hM
  have hlt : b<w.heap.size:=hw.lt hM.mem
  exact cell_of ((hx.block b hlt (by simp)).trans ho) (Row.cell rfl o hA)
theorem mI (but : List aA.By) (w : World) : Calls Tryz.prog 248 [Z but].toArray w fun e w'=>∃ b,e=.returned (xw b)∧aa w [] [⟨b,Row 9 [Z but],true⟩] w':=by
  refine enter (n:=4) Tryz.func248 rfl rfl rfl (aa.start w []) ?_
  refine JC.seq (JC.region (JL.box (r:=[Z but]) rfl rfl rfl fun b _=>?_))
  repeat (first | refine JL.q (by first|(apply OQ.yG (caps:=[Pt b 0]);rfl)|(apply OQ.assign;rfl)) rfl ?_ | refine JC.seq ?_ | refine JC.region ?_ | refine JL.nil ?_ | refine JE.next ?_)
  exact JC.ret (JE.aE rfl (RV.tmp rfl) fun w' hw=>⟨b,rfl,hw⟩)
set_option maxHeartbeats 4000000 in
theorem lf (s : List Bt) (fv : Value) (p : Bt→Bool) (w : World) (hF : jS Tryz.prog w fv p) (hl : s.length<9223372036854775808) : Calls Tryz.prog 267 [Z s,fv].toArray w fun e w'=>e=.returned (N (gV p s))∧Ext w w':=by
  refine enter (n:=21) Tryz.func267 rfl rfl rfl (aa.start w []) ?_
  repeat (first | refine JL.q (by first|(apply OQ.bw;exact Tryz.underlying9;rfl)|(apply OQ.move;rfl)|(apply OQ.assign;rfl)) rfl ?_ | refine JC.seq ?_ | refine JC.region ?_ | refine JC.block ?_ | refine JL.nil ?_ | refine JE.next ?_)
  refine JC.loop (fun i : Nat=>[(0,Z s),(1,fv),(7,N s.length),(8,N i)]) (fun _=>[]) (fun i=>s.length - i) (fun i=>i≤s.length∧gV p s=i+gV p (s.drop i)) 0 ⟨Nat.zero_le _,by simp⟩ (by repeat (first | exact af.nil | refine af.cons _ _ _ rfl ?_)) (av.refl _) ?_
  rintro i ⟨hi,ha⟩
  repeat (first | refine JL.q (by (apply OQ.dV;rfl;rfl)) rfl ?_ | refine JC.seq ?_ | refine JC.region ?_ | refine JL.nil ?_ | refine JE.next ?_)
  refine JC.cond rfl (fun h=>?_) (fun h=>?_)
  · have hi' : i<s.length:=of_decide_eq_true h
    clear h hi
    have hd : s.drop i=s.getD i 0::s.drop (i+1):=by rw [List.drop_eq_getElem_cons hi',List.getD_eq_getElem?_getD,List.getElem?_eq_getElem hi'];rfl
    rw [hd,gW] at ha
    have i0:=fun {n : Nat} {E : Env} {C : World→Prop} {dst : Option Tmp} {ty : TypeId} {pos : String} {aft : Array Edge} {g : Option (Nat × Bool)} {x y : Operand}=>bY hi' (n:=n) (E:=E) (C:=C) (dst:=dst) (ty:=ty) (pos:=pos) (aft:=aft) (g:=g) (x:=x) (y:=y)
    generalize s.getD i 0=c at ha i0
    cases h1 : p c
    · rw [h1,if_neg (by decide),Nat.add_zero] at ha
      rw [ha]
      repeat (first | refine JL.q (by first|(apply i0;rfl;rfl)|(apply OQ.vw;exact hF;rfl;rfl;exact h1)|(apply OQ.not;rfl)|(apply OQ.move;rfl)|(apply OQ.assign;rfl)) rfl ?_ | refine JC.seq ?_ | refine JC.region ?_ | refine JC.block ?_ | refine JC.skip ?_ | refine JL.nil ?_ | refine JE.next ?_)
      refine JC.cond rfl (fun _=>?_) (fun h=>by cases h)
      repeat (first | refine JL.q (by first|(apply OQ.move;rfl)|(apply OQ.assign;rfl)) rfl ?_ | refine JC.seq ?_ | refine JC.region ?_ | refine JL.nil ?_ | refine JE.next ?_)
      refine JC.ret ?_
      repeat (first | refine JE.ah ?_ | refine JE.aZ ?_)
      exact JE.aE rfl (RV.tmp rfl) fun w' hw=>⟨rfl,hw.aS⟩
    · rw [h1,if_pos rfl] at ha
      repeat (first | refine JL.q (by first|(apply i0;rfl;rfl)|(apply OQ.vw;exact hF;rfl;rfl;exact h1)|(apply OQ.not;rfl)|(apply OQ.move;rfl)|(apply OQ.assign;rfl)) rfl ?_ | refine JC.seq ?_ | refine JC.region ?_ | refine JC.block ?_ | refine JC.skip ?_ | refine JL.nil ?_ | refine JE.next ?_)
      refine JC.cond rfl (fun h=>by cases h) (fun _=>?_)
      repeat (first | refine JL.q (by first|(apply OQ.move;rfl)|(apply OQ.bh;rfl;rfl;exact (by (try simp only []);omega))) rfl ?_ | refine JC.region ?_ | refine JC.skip ?_ | refine JL.nil ?_ | refine JE.next ?_ | refine JE.ai ?_)
      exact JE.again (i:=i) (i+1) ⟨hi',by omega⟩ (by omega) (by repeat (first | exact af.nil | refine af.cons _ _ _ rfl ?_)) (av.refl _)
  · have hi' : ¬ i<s.length:=of_decide_eq_false h
    obtain rfl : i=s.length:=by omega
    clear h hi hi'
    rw [List.drop_length] at ha
    have : gV p s=s.length:=ha
    rw [this]
    repeat (first | refine JL.q (by first|(apply OQ.bw;exact Tryz.underlying9;rfl)|(apply OQ.move;rfl)|(apply OQ.assign;rfl)) rfl ?_ | refine JC.seq ?_ | refine JC.region ?_ | refine JC.exit ?_ | refine JL.nil ?_ | refine JE.next ?_ | refine JE.ax ?_ | refine JE.aI ?_)
    refine JC.ret ?_
    exact JE.aE rfl (RV.tmp rfl) fun w' hw=>⟨rfl,hw.aS⟩
def pE (p : aA.By→Bool) (s : List aA.By) : Bool:=!decide (s=[]) && decide ((gV p s : Int)=(s.length : Int))
set_option maxHeartbeats 4000000 in
theorem sM (s : List Bt) (fv : Value) (p : Bt→Bool) (w : World) (hF : jS Tryz.prog w fv p) (hl : s.length<9223372036854775808) : Calls Tryz.prog 247 [Z s,fv].toArray w fun e w'=>e=.returned (.bool (pE p s))∧Ext w w':=by
  refine enter (n:=15) Tryz.func247 rfl rfl rfl (aa.start w []) ?_
  unfold pE
  cases h1 : decide (s=[]) <;> cases h2 : decide ((gV p s : Int)=(s.length : Int))
  all_goals (repeat (first | refine JL.q (by first|(apply OQ.gv (r:=[]);rfl;rfl;exact h1)|(apply OQ.ak (vs:=[Z s,fv]);exact sL;rfl;exact (fun w' hw'=>lf s fv p w' (hF.holds hw') hl))|(apply OQ.bw;exact Tryz.underlying9;rfl)|(apply OQ.gH;rfl;rfl;exact h2)|(apply OQ.az;rfl;rfl)|(apply OQ.aB;rfl;rfl)|(apply OQ.move;rfl)|(apply OQ.assign;rfl)) rfl ?_ | refine JC.seq ?_ | refine JC.region ?_ | refine JL.nil ?_ | refine JE.next ?_ | refine JL.aT rfl rfl ?_ | refine JL.aU rfl rfl rfl rfl ?_))
  all_goals exact JC.ret (JE.aE rfl (RV.tmp rfl) fun w' hw=>⟨rfl,hw.aS⟩)
theorem qx (s : List aA.By) : pE (wq eA) s=eJ s:=by
  rw [sH,sK]
  unfold pE
  congr 1
  · cases s <;> simp
  · exact decide_eq_decide.2 (by omega)
set_option maxHeartbeats 4000000 in
theorem qy (s : List Bt) (w : World) (hl : s.length<9223372036854775808) : Calls Tryz.prog 222 [Z s].toArray w fun e w'=>e=.returned (.bool (eJ s))∧Ext w w':=by
  refine enter (n:=6) Tryz.func222 rfl rfl rfl (aa.start w []) ?_
  rw [← qx]
  repeat (first | refine JL.q (by first|(apply OQ.move;rfl)|(apply OQ.assign;rfl)) rfl ?_ | refine JC.seq ?_ | refine JC.region ?_ | refine JL.nil ?_ | refine JE.next ?_)
  refine JL.dD (ι:=Nat) (vs:=[Z eA]) xw (fun b=>[⟨b,Row 9 [Z eA],true⟩]) k6 rfl rfl (fun b e he=>by rw [List.mem_singleton.1 he]) (fun w' _=>mI eA w') fun b=>?_
  repeat (first | refine JL.q (by first|(apply OQ.ak (vs:=[Z s,xw b]);exact qw;rfl;exact (fun w' hw'=>sM s (xw b) (wq eA) w' (mH hw' .here) hl))|(apply OQ.assign;rfl)) rfl ?_ | refine JL.nil ?_ | refine JE.next ?_)
  exact JC.ret (JE.aE rfl (RV.tmp rfl) fun w' hw=>⟨rfl,hw.aS⟩)
end
section
set_option maxRecDepth 10000
open Sl aA Tok
theorem jq {e : TypeId} (p : Nat × Nat) (o : List Bt) : ay e (some p) (o.map U8)=[⟨p.1,Sl.aO e 1 o.length p.2 (o.map U8),true⟩]:=by
  show [(⟨p.1,Sl.aO e 1 (o.map U8).length p.2 (o.map U8),true⟩ : aF)]=_
  rw [List.length_map]
theorem JC.wu {P : Program} {n : Nat} {w0 : World} {S : List Nat} {Q : Exit→Act→World→Prop} {E : Env} {M : List aF} {ι : Type} (l : Nat) (Ei : ι→Env) (Mi : ι→List aF) (μ : ι→Nat) (I : ι→Prop) {c rest : Code} (hf : findLabel c l=some (.seq .skip rest))
    (pass : ∀ i,I i→JC P n w0 S (Exit.jump l (uI n w0 S Ei Mi fun j=>I j∧μ j<μ i) Q) rest (Ei i) (Mi i))
    (first : (∀ i,I i→JC P n w0 S (Exit.jump l (uI n w0 S Ei Mi I) Q) rest (Ei i) (Mi i))→JC P n w0 S (Exit.jump l (uI n w0 S Ei Mi I) Q) c E M) : JC P n w0 S Q (.scope c) E M:=
  JC.scope l Ei Mi μ I hf (first fun i hi=>(pass i hi).mono fun e a w hq=>by
    cases e with
    | goto l'=>exact ⟨hq.1,let ⟨j,h1,h2⟩:=hq.2;⟨j,h1.1,h2⟩⟩
    | _=>exact hq) fun i hi=>JC.seq (JC.skip (JE.next (pass i hi)))
def yK (o : Except Nat Nat) : Value:=match o with
  | .ok m=>.tuple #[N m,N 0]
  | .error e=>.tuple #[N 0,N e]
set_option maxHeartbeats 16000000 in
theorem mJ (r : List Bt) (w : World) (hl : r.length<9223372036854770000) : Calls Tryz.prog 209 [Z (40::r)].toArray w fun e w'=>e=.returned (yK (bz (40::r) 0 0))∧Ext w w':=by
  refine enter (n:=32) Tryz.func209 rfl rfl rfl (aa.start w []) ?_
  generalize hs : 40::r=s
  have hsl : s.length<9223372036854770001:=by rw [← hs,List.length_cons];omega
  have hs0 : s.getD 0 0=40:=by rw [← hs];rfl
  clear hs
  repeat (refine JL.q (by fail) rfl ?_)
  refine JC.seq (JC.region ?_)
  repeat (refine JL.q (by (apply OQ.assign;rfl)) rfl ?_)
  refine JL.nil (JE.next ?_)
  refine JC.wu (ι:=Nat × Nat) 0 (fun i=>[(0,Z s),(4,N i.1),(5,N i.2)]) (fun _=>[]) (fun i=>s.length+1 - i.1) (fun i=>i.1≤s.length+1∧i.2≤9∧(0<i.2∨i.1=0)∧bz (s.drop i.1) i.2 i.1=bz s 0 0) rfl ?_ ?_
  · rintro ⟨k,d⟩ ⟨hk,hd,h0,hc⟩
    dsimp only at hk hd h0 hc ⊢
    repeat (first | refine JL.q (by first|(apply OQ.bw;exact Tryz.underlying9;rfl)|(apply OQ.move;rfl)|(apply OQ.w5;rfl;rfl)) rfl ?_ | refine JC.seq ?_ | refine JC.region ?_ | refine JL.nil ?_ | refine JE.next ?_)
    refine JC.cond rfl (fun h=>?_) (fun h=>?_)
    · have hk' : s.length≤k:=of_decide_eq_true h
      rw [List.drop_eq_nil_of_le hk',gU] at hc
      rw [← hc]
      repeat (first | refine JL.q (by (apply OQ.assign;rfl)) rfl ?_ | refine JC.seq ?_ | refine JC.region ?_ | refine JL.nil ?_ | refine JE.next ?_)
      refine JC.ret (JE.ah (JE.fm ?_))
      exact JE.bI rfl (RV.tmp rfl) (RV.tmp rfl) fun w' hw=>⟨rfl,hw.aS⟩
    · have hk' : k<s.length:=by have:=of_decide_eq_false h;omega
      clear h hk
      have hdr : s.drop k=s.getD k 0::s.drop (k+1):=by rw [List.drop_eq_getElem_cons hk',List.getD_eq_getElem?_getD,List.getElem?_eq_getElem hk'];rfl
      have h0' : 0<d∨s.getD k 0=40:=h0.imp id fun h=>by rw [h];exact hs0
      clear h0
      rw [hdr] at hc
      have i0:=fun {n : Nat} {E : Env} {C : World→Prop} {dst : Option Tmp} {ty : TypeId} {pos : String} {aft : Array Edge} {g : Option (Nat × Bool)} {x y : Operand}=>bY hk' (n:=n) (E:=E) (C:=C) (dst:=dst) (ty:=ty) (pos:=pos) (aft:=aft) (g:=g) (x:=x) (y:=y)
      generalize s.getD k 0=c at hc i0 h0'
      cases h40 : decide (c=40)
      · cases h41 : decide (c=41)
        · cases h92 : decide (c=92)
          · rw [oh (of_decide_eq_false h40) (of_decide_eq_false h41) (of_decide_eq_false h92)] at hc
            have hd0 : 0<d:=h0'.resolve_right (of_decide_eq_false h40)
            repeat (first | refine JL.q (by first|(apply i0;rfl;rfl)|(apply OQ.ck (b:=40);rfl;rfl;exact h40)|(apply OQ.move;rfl)|(apply OQ.assign;rfl)) rfl ?_ | refine JC.seq ?_ | refine JC.region ?_ | refine JC.block ?_ | refine JC.skip ?_ | refine JL.nil ?_ | refine JE.next ?_)
            refine JC.cond rfl (fun h=>by cases h) (fun _=>?_)
            repeat (first | refine JL.q (by first|(apply OQ.ck (b:=41);rfl;rfl;exact h41)|(apply OQ.assign;rfl)) rfl ?_ | refine JC.seq ?_ | refine JC.region ?_ | refine JL.nil ?_ | refine JE.next ?_)
            refine JC.cond rfl (fun h=>by cases h) (fun _=>?_)
            repeat (first | refine JL.q (by first|(apply OQ.ck (b:=92);rfl;rfl;exact h92)|(apply OQ.assign;rfl)) rfl ?_ | refine JC.seq ?_ | refine JC.region ?_ | refine JL.nil ?_ | refine JE.next ?_)
            refine JC.cond rfl (fun h=>by cases h) (fun _=>?_)
            repeat (first | refine JL.q (by first|(apply OQ.move;rfl)|(apply OQ.assign;rfl)|(apply OQ.bh;rfl;rfl;exact (by (try simp only []);omega))|(apply OQ.kL;rfl;rfl)) rfl ?_ | refine JC.seq ?_ | refine JC.region ?_ | refine JC.skip ?_ | refine JL.nil ?_ | refine JE.next ?_ | refine JE.ai ?_)
            refine JC.cond rfl (fun _=>JC.goto (JE.fE ?_)) (fun h=>absurd hd0 (of_decide_eq_false h))
            exact JE.fD (k+1,d) ⟨⟨by dsimp only;omega,hd,Or.inl hd0,hc⟩,by dsimp only;omega⟩ (by repeat (first | exact af.nil | refine af.cons _ _ _ rfl ?_)) (av.refl _)
          · rw [of_decide_eq_true h92] at hc
            have hd0 : 0<d:=h0'.resolve_right (of_decide_eq_false h40)
            have hc' : bz (s.drop (k+2)) d (k+2)=bz s 0 0:=by
              by_cases he : k+1<s.length
              · have hdr' : s.drop (k+1)=s.getD (k+1) 0::s.drop (k+2):=by rw [List.drop_eq_getElem_cons he,List.getD_eq_getElem?_getD,List.getElem?_eq_getElem he];rfl
                rw [hdr',kW] at hc
                exact hc
              · rw [List.drop_eq_nil_of_le (by omega),jm] at hc
                rw [List.drop_eq_nil_of_le (by omega),gU]
                exact hc
            repeat (first | refine JL.q (by first|(apply i0;rfl;rfl)|(apply OQ.ck (b:=40);rfl;rfl;exact h40)|(apply OQ.move;rfl)|(apply OQ.assign;rfl)) rfl ?_ | refine JC.seq ?_ | refine JC.region ?_ | refine JC.block ?_ | refine JC.skip ?_ | refine JL.nil ?_ | refine JE.next ?_)
            refine JC.cond rfl (fun h=>by cases h) (fun _=>?_)
            repeat (first | refine JL.q (by first|(apply OQ.ck (b:=41);rfl;rfl;exact h41)|(apply OQ.assign;rfl)) rfl ?_ | refine JC.seq ?_ | refine JC.region ?_ | refine JL.nil ?_ | refine JE.next ?_)
            refine JC.cond rfl (fun h=>by cases h) (fun _=>?_)
            repeat (first | refine JL.q (by first|(apply OQ.ck (b:=92);rfl;rfl;exact h92)|(apply OQ.assign;rfl)) rfl ?_ | refine JC.seq ?_ | refine JC.region ?_ | refine JL.nil ?_ | refine JE.next ?_)
            refine JC.cond rfl (fun _=>?_) (fun h=>by cases h)
            repeat (first | refine JL.q (by first|(apply OQ.move;rfl)|(apply OQ.assign;rfl)|(apply OQ.bh;rfl;rfl;exact (by (try simp only []);omega))|(apply OQ.kL;rfl;rfl)) rfl ?_ | refine JC.seq ?_ | refine JC.region ?_ | refine JL.nil ?_ | refine JE.next ?_ | refine JE.ai ?_)
            refine JC.cond rfl (fun _=>JC.goto (JE.fE ?_)) (fun h=>absurd hd0 (of_decide_eq_false h))
            exact JE.fD (k+2,d) ⟨⟨by dsimp only;omega,hd,Or.inl hd0,hc'⟩,by dsimp only;omega⟩ (by repeat (first | exact af.nil | refine af.cons _ _ _ rfl ?_)) (av.refl _)
        · have h40' : ¬ c=40:=of_decide_eq_false h40
          rw [of_decide_eq_true h41,iJ] at hc
          have hd0 : 0<d:=h0'.resolve_right h40'
          repeat (first | refine JL.q (by first|(apply i0;rfl;rfl)|(apply OQ.ck (b:=40);rfl;rfl;exact h40)|(apply OQ.move;rfl)|(apply OQ.assign;rfl)) rfl ?_ | refine JC.seq ?_ | refine JC.region ?_ | refine JC.block ?_ | refine JC.skip ?_ | refine JL.nil ?_ | refine JE.next ?_)
          refine JC.cond rfl (fun h=>by cases h) (fun _=>?_)
          repeat (first | refine JL.q (by first|(apply OQ.ck (b:=41);rfl;rfl;exact h41)|(apply OQ.assign;rfl)) rfl ?_ | refine JC.seq ?_ | refine JC.region ?_ | refine JL.nil ?_ | refine JE.next ?_)
          refine JC.cond rfl (fun _=>?_) (fun h=>by cases h)
          repeat (first | refine JL.q (by first|(apply OQ.move;rfl)|(apply OQ.assign;rfl)|(apply OQ.bh;rfl;rfl;exact (by (try simp only []);omega))|(apply OQ.eP;rfl;rfl;exact (by (try simp only []);omega);exact (by (try simp only []);omega))|(apply OQ.kL;rfl;rfl)) rfl ?_ | refine JC.seq ?_ | refine JC.region ?_ | refine JL.nil ?_ | refine JE.next ?_ | refine JE.ai ?_)
          refine JC.cond rfl (fun h=>?_) (fun h=>?_)
          · have hd1 : 0<d - 1:=of_decide_eq_true h
            rw [if_neg (by omega)] at hc
            refine JC.goto (JE.fE ?_)
            exact JE.fD (k+1,d - 1) ⟨⟨by dsimp only;omega,by dsimp only;omega,Or.inl hd1,hc⟩,by dsimp only;omega⟩ (by repeat (first | exact af.nil | refine af.cons _ _ _ rfl ?_)) (av.refl _)
          · have hd1 : ¬ 0<d - 1:=of_decide_eq_false h
            rw [if_pos (by omega)] at hc
            rw [← hc]
            repeat (first | refine JL.q (by first|(apply OQ.move;rfl)|(apply OQ.assign;rfl)) rfl ?_ | refine JC.seq ?_ | refine JC.region ?_ | refine JC.skip ?_ | refine JL.nil ?_ | refine JE.next ?_)
            refine JC.ret (JE.fm ?_)
            exact JE.bI rfl (RV.tmp rfl) (RV.tmp rfl) fun w' hw=>⟨rfl,hw.aS⟩
      · rw [of_decide_eq_true h40,fG] at hc
        clear h0'
        by_cases h8 : 8<d
        · rw [if_pos h8] at hc
          rw [← hc]
          repeat (first | refine JL.q (by first|(apply i0;rfl;rfl)|(apply OQ.ck (b:=40);rfl;rfl;exact h40)|(apply OQ.move;rfl)|(apply OQ.assign;rfl)) rfl ?_ | refine JC.seq ?_ | refine JC.region ?_ | refine JC.block ?_ | refine JC.skip ?_ | refine JL.nil ?_ | refine JE.next ?_)
          refine JC.cond rfl (fun _=>?_) (fun h=>by cases h)
          repeat (first | refine JL.q (by first|(apply OQ.move;rfl)|(apply OQ.kL;rfl;rfl)) rfl ?_ | refine JC.seq ?_ | refine JC.region ?_ | refine JL.nil ?_ | refine JE.next ?_)
          refine JC.cond rfl (fun _=>?_) (fun h=>absurd h8 (of_decide_eq_false h))
          repeat (first | refine JL.q (by (apply OQ.assign;rfl)) rfl ?_ | refine JC.seq ?_ | refine JC.region ?_ | refine JL.nil ?_ | refine JE.next ?_)
          refine JC.ret ?_
          repeat (first | refine JE.ah ?_ | refine JE.aZ ?_)
          refine JE.fm ?_
          exact JE.bI rfl (RV.tmp rfl) (RV.tmp rfl) fun w' hw=>⟨rfl,hw.aS⟩
        · rw [if_neg h8] at hc
          repeat (first | refine JL.q (by first|(apply i0;rfl;rfl)|(apply OQ.ck (b:=40);rfl;rfl;exact h40)|(apply OQ.move;rfl)|(apply OQ.assign;rfl)) rfl ?_ | refine JC.seq ?_ | refine JC.region ?_ | refine JC.block ?_ | refine JC.skip ?_ | refine JL.nil ?_ | refine JE.next ?_)
          refine JC.cond rfl (fun _=>?_) (fun h=>by cases h)
          repeat (first | refine JL.q (by first|(apply OQ.move;rfl)|(apply OQ.kL;rfl;rfl)) rfl ?_ | refine JC.seq ?_ | refine JC.region ?_ | refine JL.nil ?_ | refine JE.next ?_)
          refine JC.cond rfl (fun h=>absurd (of_decide_eq_true h) h8) (fun _=>?_)
          repeat (first | refine JL.q (by first|(apply OQ.move;rfl)|(apply OQ.assign;rfl)|(apply OQ.bh;rfl;rfl;exact (by (try simp only []);omega))|(apply OQ.kL;rfl;rfl)) rfl ?_ | refine JC.seq ?_ | refine JC.region ?_ | refine JC.skip ?_ | refine JL.nil ?_ | refine JE.next ?_ | refine JE.ai ?_)
          refine JC.cond rfl (fun _=>JC.goto (JE.fE ?_)) (fun h=>absurd (Nat.succ_pos d) (of_decide_eq_false h))
          exact JE.fD (k+1,d+1) ⟨⟨by dsimp only;omega,by dsimp only;omega,Or.inl (Nat.succ_pos d),hc⟩,by dsimp only;omega⟩ (by repeat (first | exact af.nil | refine af.cons _ _ _ rfl ?_)) (av.refl _)
  · intro hp
    refine JC.seq (JC.region ?_)
    repeat (refine JL.q (by (apply OQ.assign;rfl)) rfl ?_)
    refine JL.nil (JE.next ?_)
    refine JC.seq (JC.region ?_)
    repeat (refine JL.q (by (apply OQ.assign;rfl)) rfl ?_)
    refine JL.nil (JE.next ?_)
    refine JC.seq (JC.label (JE.next ?_))
    exact (hp (0,0) ⟨Nat.zero_le _,Nat.zero_le _,Or.inr rfl,rfl⟩).weak (by repeat (first | exact af.nil | refine af.cons _ _ _ rfl ?_)) (av.refl _)
set_option maxHeartbeats 16000000 in
theorem oq (c0 : Bt) (r : List Bt) (w : World) (hl : r.length<9223372036854770000) : Calls Tryz.prog 210 [Z (c0::r)].toArray w fun e w'=>e=.returned (N (bq r 1))∧Ext w w':=by
  refine enter (n:=21) Tryz.func210 rfl rfl rfl (aa.start w []) ?_
  rw [show bq r 1=bq ((c0::r).drop 1) 1 from rfl]
  generalize hs : c0::r=s
  have hsl : s.length<9223372036854770001:=by rw [← hs,List.length_cons];omega
  clear hs
  repeat (first | refine JL.q (by (apply OQ.assign;rfl)) rfl ?_ | refine JC.seq ?_ | refine JC.region ?_ | refine JC.block ?_ | refine JL.nil ?_ | refine JE.next ?_)
  refine JC.loop (fun k : Nat=>[(0,Z s),(3,N k)]) (fun _=>[]) (fun k=>s.length+1 - k) (fun k=>k≤s.length+1∧bq (s.drop k) k=bq (s.drop 1) 1) 1 ⟨by omega,rfl⟩ (by repeat (first | exact af.nil | refine af.cons _ _ _ rfl ?_)) (av.refl _) ?_
  rintro k ⟨hk,hc⟩
  repeat (first | refine JL.q (by first|(apply OQ.bw;exact Tryz.underlying9;rfl)|(apply OQ.move;rfl)|(apply OQ.dV;rfl;rfl)) rfl ?_ | refine JC.seq ?_ | refine JC.region ?_ | refine JL.nil ?_ | refine JE.next ?_)
  refine JC.cond rfl (fun h=>?_) (fun h=>?_)
  · have hk' : k<s.length:=of_decide_eq_true h
    clear h hk
    have hdr : s.drop k=s.getD k 0::s.drop (k+1):=by rw [List.drop_eq_getElem_cons hk',List.getD_eq_getElem?_getD,List.getElem?_eq_getElem hk'];rfl
    rw [hdr] at hc
    have i0:=fun {n : Nat} {E : Env} {C : World→Prop} {dst : Option Tmp} {ty : TypeId} {pos : String} {aft : Array Edge} {g : Option (Nat × Bool)} {x y : Operand}=>bY hk' (n:=n) (E:=E) (C:=C) (dst:=dst) (ty:=ty) (pos:=pos) (aft:=aft) (g:=g) (x:=x) (y:=y)
    generalize s.getD k 0=c at hc i0
    cases h92 : decide (c=92)
    · cases h34 : decide (c=34)
      · rw [sG (of_decide_eq_false h34) (of_decide_eq_false h92)] at hc
        repeat (first | refine JL.q (by first|(apply i0;rfl;rfl)|(apply OQ.ck (b:=92);rfl;rfl;exact h92)|(apply OQ.move;rfl)|(apply OQ.assign;rfl)) rfl ?_ | refine JC.seq ?_ | refine JC.region ?_ | refine JC.block ?_ | refine JC.skip ?_ | refine JL.nil ?_ | refine JE.next ?_)
        refine JC.cond rfl (fun h=>by cases h) (fun _=>?_)
        repeat (first | refine JL.q (by first|(apply OQ.ck (b:=34);rfl;rfl;exact h34)|(apply OQ.assign;rfl)) rfl ?_ | refine JC.seq ?_ | refine JC.region ?_ | refine JL.nil ?_ | refine JE.next ?_)
        refine JC.cond rfl (fun h=>by cases h) (fun _=>?_)
        repeat (first | refine JL.q (by first|(apply OQ.move;rfl)|(apply OQ.assign;rfl)|(apply OQ.bh;rfl;rfl;exact (by (try simp only []);omega))) rfl ?_ | refine JC.region ?_ | refine JC.skip ?_ | refine JL.nil ?_ | refine JE.next ?_ | refine JE.ai ?_)
        exact JE.again (i:=k) (k+1) ⟨by omega,hc⟩ (by omega) (by repeat (first | exact af.nil | refine af.cons _ _ _ rfl ?_)) (av.refl _)
      · rw [of_decide_eq_true h34,pq] at hc
        rw [← hc]
        repeat (first | refine JL.q (by first|(apply i0;rfl;rfl)|(apply OQ.ck (b:=92);rfl;rfl;exact h92)|(apply OQ.move;rfl)|(apply OQ.assign;rfl)) rfl ?_ | refine JC.seq ?_ | refine JC.region ?_ | refine JC.block ?_ | refine JC.skip ?_ | refine JL.nil ?_ | refine JE.next ?_)
        refine JC.cond rfl (fun h=>by cases h) (fun _=>?_)
        repeat (first | refine JL.q (by first|(apply OQ.ck (b:=34);rfl;rfl;exact h34)|(apply OQ.assign;rfl)) rfl ?_ | refine JC.seq ?_ | refine JC.region ?_ | refine JL.nil ?_ | refine JE.next ?_)
        refine JC.cond rfl (fun _=>?_) (fun h=>by cases h)
        repeat (first | refine JL.q (by first|(apply OQ.move;rfl)|(apply OQ.assign;rfl)|(apply OQ.bh;rfl;rfl;exact (by (try simp only []);omega))) rfl ?_ | refine JC.seq ?_ | refine JC.region ?_ | refine JL.nil ?_ | refine JE.next ?_)
        refine JC.ret ?_
        repeat (first | refine JE.ah ?_ | refine JE.aZ ?_)
        exact JE.aE rfl (RV.tmp rfl) fun w' hw=>⟨rfl,hw.aS⟩
    · rw [of_decide_eq_true h92] at hc
      have hc' : bq (s.drop (k+2)) (k+2)=bq (s.drop 1) 1:=by
        by_cases he : k+1<s.length
        · have hdr' : s.drop (k+1)=s.getD (k+1) 0::s.drop (k+2):=by rw [List.drop_eq_getElem_cons he,List.getD_eq_getElem?_getD,List.getElem?_eq_getElem he];rfl
          rw [hdr',pz] at hc
          exact hc
        · rw [List.drop_eq_nil_of_le (by omega),mD] at hc
          rw [List.drop_eq_nil_of_le (by omega),kX]
          exact hc
      repeat (first | refine JL.q (by first|(apply i0;rfl;rfl)|(apply OQ.ck (b:=92);rfl;rfl;exact h92)|(apply OQ.move;rfl)|(apply OQ.assign;rfl)) rfl ?_ | refine JC.seq ?_ | refine JC.region ?_ | refine JC.block ?_ | refine JC.skip ?_ | refine JL.nil ?_ | refine JE.next ?_)
      refine JC.cond rfl (fun _=>?_) (fun h=>by cases h)
      repeat (first | refine JL.q (by first|(apply OQ.move;rfl)|(apply OQ.assign;rfl)|(apply OQ.bh;rfl;rfl;exact (by (try simp only []);omega))) rfl ?_ | refine JC.region ?_ | refine JL.nil ?_ | refine JE.next ?_ | refine JE.ai ?_)
      exact JE.again (i:=k) (k+2) ⟨by omega,hc'⟩ (by omega) (by repeat (first | exact af.nil | refine af.cons _ _ _ rfl ?_)) (av.refl _)
  · have hk' : s.length≤k:=by have:=of_decide_eq_false h;omega
    rw [List.drop_eq_nil_of_le hk',kX] at hc
    rw [← hc]
    repeat (first | refine JL.q (by (apply OQ.assign;rfl)) rfl ?_ | refine JC.seq ?_ | refine JC.region ?_ | refine JC.exit ?_ | refine JL.nil ?_ | refine JE.next ?_ | refine JE.ax ?_ | refine JE.aI ?_)
    refine JC.ret ?_
    exact JE.aE rfl (RV.tmp rfl) fun w' hw=>⟨rfl,hw.aS⟩
def wv : Nat→List (Nat × Nat)
  | 2=>[(0,25),(1,26)]
  | 5=>[(3,28),(4,29)]
  | 6=>[(2,27)]
  | 7=>[(5,30)]
  | _=>[]
def xy : Nat→List Nat
  | 2=>[8,1]
  | _=>[]
def xz : Nat→List Nat
  | 2=>[8]
  | _=>[]
def xA : Nat→Option Nat
  | 6=>some 2
  | _=>none
def sN : Nat→List (Nat × Nat)
  | 3=>[(1,40),(2,41)]
  | 4=>[(0,39),(3,42)]
  | 7=>[(5,44),(6,45)]
  | 8=>[(4,43)]
  | 9=>[(7,46)]
  | _=>[]
def vF : Nat→List Nat
  | 4=>[10]
  | _=>[]
def vG : Nat→List Nat
  | 4=>[10]
  | _=>[]
def vH : Nat→Option Nat
  | 8=>some 4
  | _=>none
theorem sO : ∀ (n : Nat) (r : List aA.By) (d k e : Nat),r.length≤n→bz r d k=.error e→decide ((e : Int)=0)=false:=by
  intro n
  induction n with
  | zero=>
    intro r d k e h hc
    obtain rfl : r=[]:=List.eq_nil_of_length_eq_zero (by omega)
    rw [gU] at hc
    cases hc
    rfl
  | succ n ih=>
    intro r d k e h hc
    match r,h with
    | [],_=>
      rw [gU] at hc
      cases hc
      rfl
    | c::r,h=>
      simp only [List.length_cons] at h
      by_cases h40 : c=40
      · rw [h40,fG] at hc
        split at hc
        · cases hc
          rfl
        · exact ih _ _ _ _ (by omega) hc
      by_cases h41 : c=41
      · rw [h41,iJ] at hc
        split at hc
        · cases hc
        · exact ih _ _ _ _ (by omega) hc
      by_cases h92 : c=92
      · rw [h92] at hc
        match r,h with
        | [],_=>
          rw [jm] at hc
          cases hc
          rfl
        | c2::r,h=>
          rw [kW] at hc
          simp only [List.length_cons] at h
          exact ih _ _ _ _ (by omega) hc
      · rw [oh h40 h41 h92] at hc
        exact ih _ _ _ _ (by omega) hc
structure wz where
  r : List Bt
  o : List Bt
  b : Nat
  cap : Nat
set_option maxHeartbeats 32000000 in
theorem qz (s : List Bt) (w : World) (hl : s.length<140000000) : Calls Tryz.prog 176 [Z s].toArray w fun e w'=>e=.returned (.tuple #[Z (c8 s).1,N (c8 s).2])∧Ext w w':=by
  refine enter (n:=49) Tryz.func176 rfl rfl rfl (aa.start w []) ?_
  repeat (first | refine JL.q (by first|(apply OQ.bw;exact Tryz.underlying9;rfl)|(apply OQ.move;rfl)|(apply OQ.assign;rfl)) rfl ?_ | refine JC.seq ?_ | refine JC.region ?_ | refine JL.nil ?_ | refine JE.next ?_)
  refine JL.xd (c:=s.length) Tryz.underlying22 cc rfl rfl (by omega) rfl fun b0 _=>?_
  repeat (first | refine JL.q (by (apply OQ.assign;rfl)) rfl ?_ | refine JC.seq ?_ | refine JC.block ?_ | refine JL.nil ?_ | refine JE.next ?_)
  refine JC.loop (fun z : wz=>[(0,Z z.r),(4,.slice (some ⟨z.b,0,none⟩) z.o.length z.cap)]) (fun z=>[⟨z.b,Sl.aO 5 1 z.o.length z.cap (z.o.map U8),true⟩]) (fun z=>z.r.length) (fun z=>z.r.length+z.o.length≤s.length∧c8 s=aN z.r 0 false z.o) ⟨s,[],b0,s.length⟩ ⟨Nat.le_refl _,rfl⟩ (by repeat (first | exact af.nil | refine af.cons _ _ _ rfl ?_)) (av.refl _) ?_
  rintro ⟨r,o,b,cap⟩ ⟨hlen,hc⟩
  dsimp only at hlen hc ⊢
  cases hr0 : decide (r=[])
  · obtain ⟨c,r,rfl⟩ : ∃ c r',r=c::r':=by
      cases r with
      | nil=>cases hr0
      | cons c r=>exact ⟨c,r,rfl⟩
    have hrl : r.length+1+o.length≤s.length:=by rw [List.length_cons] at hlen;exact hlen
    have i0:=fun {n : Nat} {E : Env} {C : World→Prop} {dst : Option Tmp} {ty : TypeId} {pos : String} {aft : Array Edge} {g : Option (Nat × Bool)} {x y : Operand}=>bY (s:=c::r) (i:=0) (Nat.succ_pos _) (n:=n) (E:=E) (C:=C) (dst:=dst) (ty:=ty) (pos:=pos) (aft:=aft) (g:=g) (x:=x) (y:=y)
    rw [List.getD_cons_zero] at i0
    repeat (first | refine JL.q (by first|(apply OQ.gv (r:=[]);rfl;rfl;exact hr0)|(apply OQ.move;rfl)) rfl ?_ | refine JC.seq ?_ | refine JC.region ?_ | refine JL.nil ?_ | refine JE.next ?_)
    refine JC.cond rfl (fun _=>?_) (fun h=>by cases h)
    cases h40 : decide (c=40)
    · cases h41 : decide (c=41)
      · cases h34 : decide (c=34)
        · rw [jd (of_decide_eq_false h40) (of_decide_eq_false h41),show (c == 34)=false from beq_eq_false_iff_ne.2 (of_decide_eq_false h34)] at hc
          replace hc : c8 s=aN ((c::r).drop 1) 0 false (o++(c::r).take 1):=hc
          repeat (first | refine JL.q (by first|(apply i0;rfl;rfl)|(apply OQ.ck (b:=40);rfl;rfl;exact h40)|(apply OQ.move;rfl)|(apply OQ.assign;rfl)) rfl ?_ | refine JC.seq ?_ | refine JC.region ?_ | refine JC.block ?_ | refine JC.skip ?_ | refine JL.nil ?_ | refine JE.next ?_)
          refine JC.cond rfl (fun h=>by cases h) (fun _=>?_)
          repeat (first | refine JL.q (by first|(apply OQ.ck (b:=41);rfl;rfl;exact h41)|(apply OQ.assign;rfl)) rfl ?_ | refine JC.seq ?_ | refine JC.region ?_ | refine JL.nil ?_ | refine JE.next ?_)
          refine JC.cond rfl (fun h=>by cases h) (fun _=>?_)
          repeat (first | refine JL.q (by first|(apply OQ.ck (b:=34);rfl;rfl;exact h34)|(apply OQ.assign;rfl)) rfl ?_ | refine JC.seq ?_ | refine JC.region ?_ | refine JL.nil ?_ | refine JE.next ?_)
          refine JC.cond rfl (fun h=>by cases h) (fun _=>?_)
          repeat (first | refine JC.skip ?_ | refine JE.next ?_ | refine JE.ai ?_)
          have hml : ((c::r).take 1).length=1:=by rw [List.length_take,List.length_cons];omega
          have hdl : ((c::r).drop 1).length=r.length+1 - 1:=by rw [List.length_drop,List.length_cons]
          have hne : (c::r).take 1≠[]:=fun h=>by rw [h] at hml;rw [List.length_nil] at hml;omega
          have hlm : 1≤(c::r).length:=by rw [List.length_cons];omega
          let vs : Nat→X→Value:=fun j x=>match j with
            | 0=>.slice (some ⟨b,0,none⟩) o.length cap
            | 1=>Z (c::r)
            | 2=>N 1
            | 3=>Z ((c::r).take 1)
            | 5=>Z (c::r)
            | 6=>N 1
            | 7=>Z ((c::r).drop 1)
            | 9=>Z ((c::r).drop 1)
            | _=>.slice (some ⟨x.1,0,none⟩) (o++(c::r).take 1).length x.2
          let Ms : Nat→X→List aF:=fun j x=>match j with
            | 4=>[⟨x.1,Sl.aO 5 1 (o++(c::r).take 1).length x.2 ((o++(c::r).take 1).map U8),true⟩]
            | 10=>[⟨b,Sl.aO 5 1 o.length cap (o.map U8),true⟩]
            | _=>[]
          refine JC.oU (g:=⟨[(5,N 1)],11,vs,Ms,sN,vF,vG,vH,fun j=>match j with | 0=>[(4,.slice (some ⟨b,0,none⟩) o.length cap)] | 1=>[(0,Z (c::r))] | 5=>[(0,Z (c::r))] | _=>[]⟩) [(8,4),(9,0)] [4] ei (by repeat (first | exact af.nil | refine af.cons _ _ _ rfl ?_)) (fun j _=>match j with | 0=>(by repeat (first | exact af.nil | refine af.cons _ _ _ rfl ?_)) | 1=>(by repeat (first | exact af.nil | refine af.cons _ _ _ rfl ?_)) | 2=>.nil | 3=>.nil | 4=>.nil | 5=>(by repeat (first | exact af.nil | refine af.cons _ _ _ rfl ?_)) | _+6=>.nil) (av.refl _) (by kernel_rfl) (by kernel_rfl) (by kernel_rfl) ?_ ?_
          · refine ⟨?_,?_,?_,?_,?_,?_,?_,?_,?_,?_,trivial⟩
            iterate 4 (focus (intro x EF MF Q kk;(try refine JL.aT rfl rfl ?_);exact JL.q (by first|(apply OQ.cw;exact Tryz.underlying9;rfl;rfl;exact hlm)|(apply OQ.move;rfl)) rfl (JL.nil (kk default nofun))))
            · intro x EF MF Q kk
              refine JL.ek (M':=ay 5 (some (b,cap)) (o.map U8)++MF) ?_ (by show av ([⟨b,Sl.aO 5 1 (o.map U8).length cap (o.map U8),true⟩]++MF) _;rw [List.length_map];exact av.refl _)
              refine JL.fC (r:=(c::r).take 1) (xs:=o.map U8) (M:=MF) (some (b,cap)) Tryz.underlying22 Tryz.underlying9 cc (fun h=>by cases h) (by rw [List.length_map];rfl) rfl hne (by rw [List.length_map];omega) rfl fun p=>JL.nil ?_
              rw [← List.map_append,List.length_map,jq]
              exact kk p (fun k h=>by cases h)
            iterate 3 (focus (intro x EF MF Q kk;(try refine JL.aT rfl rfl ?_);exact JL.q (by first|(apply OQ.bH;exact Tryz.underlying9;rfl;rfl;exact hlm)|(apply OQ.move;rfl)) rfl (JL.nil (kk default nofun))))
            · intro x EF MF Q kk
              exact JL.q (OQ.assign rfl) rfl (JL.nil (kk (x 4) (fun k h=>by cases h;rfl)))
            · (intro x EF MF Q kk;(try refine JL.aT rfl rfl ?_);exact JL.q (by (apply OQ.assign;rfl)) rfl (JL.nil (kk default nofun)))
          · intro x hx'
            have h84:=hx' 8 4 (by decide) rfl
            show JE _ _ _ _ _ [(4,.slice (some ⟨(x 8).1,0,none⟩) (o++(c::r).take 1).length (x 8).2),(0,Z ((c::r).drop 1)),(5,N 1)] [⟨(x 4).1,Sl.aO 5 1 (o++(c::r).take 1).length (x 4).2 ((o++(c::r).take 1).map U8),true⟩]
            rw [h84]
            obtain ⟨b',cap'⟩:=x 4
            clear hx' h84 x vs Ms
            dsimp only
            repeat (refine JE.ai ?_)
            exact JE.again (i:=wz.mk (c::r) o b cap) (wz.mk ((c::r).drop 1) (o++(c::r).take 1) b' cap') ⟨by dsimp only;rw [List.length_append];omega,hc⟩ (by dsimp only;rw [List.length_cons];omega) (by repeat (first | exact af.nil | refine af.cons _ _ _ rfl ?_)) (av.refl _)
        · obtain rfl : c=34:=of_decide_eq_true h34
          have cQ:=fun w'=>oq 34 r w' (by omega)
          cases hq : decide ((bq r 1 : Int)=0)
          · have hqn : bq r 1≠0:=by have:=of_decide_eq_false hq;omega
            obtain ⟨m0,m1,hb⟩:=kZ o hqn
            rw [hb] at hc
            generalize bq r 1=m at cQ hq m0 m1 hc
            clear hb hqn
            repeat (first | refine JL.q (by first|(apply i0;rfl;rfl)|(apply OQ.ck (b:=40);rfl;rfl;exact h40)|(apply OQ.move;rfl)|(apply OQ.assign;rfl)) rfl ?_ | refine JC.seq ?_ | refine JC.region ?_ | refine JC.block ?_ | refine JC.skip ?_ | refine JL.nil ?_ | refine JE.next ?_)
            refine JC.cond rfl (fun h=>by cases h) (fun _=>?_)
            repeat (first | refine JL.q (by first|(apply OQ.ck (b:=41);rfl;rfl;exact h41)|(apply OQ.assign;rfl)) rfl ?_ | refine JC.seq ?_ | refine JC.region ?_ | refine JL.nil ?_ | refine JE.next ?_)
            refine JC.cond rfl (fun h=>by cases h) (fun _=>?_)
            repeat (first | refine JL.q (by first|(apply OQ.ck (b:=34);rfl;rfl;exact h34)|(apply OQ.assign;rfl)) rfl ?_ | refine JC.seq ?_ | refine JC.region ?_ | refine JL.nil ?_ | refine JE.next ?_)
            refine JC.cond rfl (fun _=>?_) (fun h=>by cases h)
            repeat (first | refine JL.q (by first|(apply OQ.ak (vs:=[Z (34::r)]);exact ir;rfl;exact (fun w' _=>cQ w'))|(apply OQ.gH (b:=0);rfl;rfl;exact hq)|(apply OQ.move;rfl)|(apply OQ.assign;rfl)) rfl ?_ | refine JC.seq ?_ | refine JC.region ?_ | refine JL.nil ?_ | refine JE.next ?_)
            refine JC.cond rfl (fun h=>by cases h) (fun _=>?_)
            repeat (first | refine JC.skip ?_ | refine JE.next ?_ | refine JE.ai ?_)
            have hml : ((34::r).take m).length=m:=by rw [List.length_take,List.length_cons];omega
            have hdl : ((34::r).drop m).length=r.length+1 - m:=by rw [List.length_drop,List.length_cons]
            have hne : (34::r).take m≠[]:=fun h=>by rw [h] at hml;rw [List.length_nil] at hml;omega
            have hlm : m≤(34::r).length:=by rw [List.length_cons];omega
            let vs : Nat→X→Value:=fun j x=>match j with
              | 0=>.slice (some ⟨b,0,none⟩) o.length cap
              | 1=>Z (34::r)
              | 2=>N m
              | 3=>Z ((34::r).take m)
              | 5=>Z (34::r)
              | 6=>N m
              | 7=>Z ((34::r).drop m)
              | 9=>Z ((34::r).drop m)
              | _=>.slice (some ⟨x.1,0,none⟩) (o++(34::r).take m).length x.2
            let Ms : Nat→X→List aF:=fun j x=>match j with
              | 4=>[⟨x.1,Sl.aO 5 1 (o++(34::r).take m).length x.2 ((o++(34::r).take m).map U8),true⟩]
              | 10=>[⟨b,Sl.aO 5 1 o.length cap (o.map U8),true⟩]
              | _=>[]
            refine JC.oU (g:=⟨[(5,N m)],11,vs,Ms,sN,vF,vG,vH,fun j=>match j with | 0=>[(4,.slice (some ⟨b,0,none⟩) o.length cap)] | 1=>[(0,Z (34::r))] | 5=>[(0,Z (34::r))] | _=>[]⟩) [(8,4),(9,0)] [4] ei (by repeat (first | exact af.nil | refine af.cons _ _ _ rfl ?_)) (fun j _=>match j with | 0=>(by repeat (first | exact af.nil | refine af.cons _ _ _ rfl ?_)) | 1=>(by repeat (first | exact af.nil | refine af.cons _ _ _ rfl ?_)) | 2=>.nil | 3=>.nil | 4=>.nil | 5=>(by repeat (first | exact af.nil | refine af.cons _ _ _ rfl ?_)) | _+6=>.nil) (av.refl _) (by kernel_rfl) (by kernel_rfl) (by kernel_rfl) ?_ ?_
            · refine ⟨?_,?_,?_,?_,?_,?_,?_,?_,?_,?_,trivial⟩
              iterate 4 (focus (intro x EF MF Q kk;(try refine JL.aT rfl rfl ?_);exact JL.q (by first|(apply OQ.cw;exact Tryz.underlying9;rfl;rfl;exact hlm)|(apply OQ.move;rfl)) rfl (JL.nil (kk default nofun))))
              · intro x EF MF Q kk
                refine JL.ek (M':=ay 5 (some (b,cap)) (o.map U8)++MF) ?_ (by show av ([⟨b,Sl.aO 5 1 (o.map U8).length cap (o.map U8),true⟩]++MF) _;rw [List.length_map];exact av.refl _)
                refine JL.fC (r:=(34::r).take m) (xs:=o.map U8) (M:=MF) (some (b,cap)) Tryz.underlying22 Tryz.underlying9 cc (fun h=>by cases h) (by rw [List.length_map];rfl) rfl hne (by rw [List.length_map];omega) rfl fun p=>JL.nil ?_
                rw [← List.map_append,List.length_map,jq]
                exact kk p (fun k h=>by cases h)
              iterate 3 (focus (intro x EF MF Q kk;(try refine JL.aT rfl rfl ?_);exact JL.q (by first|(apply OQ.bH;exact Tryz.underlying9;rfl;rfl;exact hlm)|(apply OQ.move;rfl)) rfl (JL.nil (kk default nofun))))
              · intro x EF MF Q kk
                exact JL.q (OQ.assign rfl) rfl (JL.nil (kk (x 4) (fun k h=>by cases h;rfl)))
              · (intro x EF MF Q kk;(try refine JL.aT rfl rfl ?_);exact JL.q (by (apply OQ.assign;rfl)) rfl (JL.nil (kk default nofun)))
            · intro x hx'
              have h84:=hx' 8 4 (by decide) rfl
              show JE _ _ _ _ _ [(4,.slice (some ⟨(x 8).1,0,none⟩) (o++(34::r).take m).length (x 8).2),(0,Z ((34::r).drop m)),(5,N m)] [⟨(x 4).1,Sl.aO 5 1 (o++(34::r).take m).length (x 4).2 ((o++(34::r).take m).map U8),true⟩]
              rw [h84]
              obtain ⟨b',cap'⟩:=x 4
              clear hx' h84 x vs Ms
              dsimp only
              repeat (refine JE.ai ?_)
              exact JE.again (i:=wz.mk (34::r) o b cap) (wz.mk ((34::r).drop m) (o++(34::r).take m) b' cap') ⟨by dsimp only;rw [List.length_append];omega,hc⟩ (by dsimp only;rw [List.length_cons];omega) (by repeat (first | exact af.nil | refine af.cons _ _ _ rfl ?_)) (av.refl _)
          · rw [qu o (by have:=of_decide_eq_true hq;omega)] at hc
            rw [hc]
            generalize bq r 1=m at cQ hq
            repeat (first | refine JL.q (by first|(apply i0;rfl;rfl)|(apply OQ.ck (b:=40);rfl;rfl;exact h40)|(apply OQ.move;rfl)|(apply OQ.assign;rfl)) rfl ?_ | refine JC.seq ?_ | refine JC.region ?_ | refine JC.block ?_ | refine JC.skip ?_ | refine JL.nil ?_ | refine JE.next ?_)
            refine JC.cond rfl (fun h=>by cases h) (fun _=>?_)
            repeat (first | refine JL.q (by first|(apply OQ.ck (b:=41);rfl;rfl;exact h41)|(apply OQ.assign;rfl)) rfl ?_ | refine JC.seq ?_ | refine JC.region ?_ | refine JL.nil ?_ | refine JE.next ?_)
            refine JC.cond rfl (fun h=>by cases h) (fun _=>?_)
            repeat (first | refine JL.q (by first|(apply OQ.ck (b:=34);rfl;rfl;exact h34)|(apply OQ.assign;rfl)) rfl ?_ | refine JC.seq ?_ | refine JC.region ?_ | refine JL.nil ?_ | refine JE.next ?_)
            refine JC.cond rfl (fun _=>?_) (fun h=>by cases h)
            repeat (first | refine JL.q (by first|(apply OQ.ak (vs:=[Z (34::r)]);exact ir;rfl;exact (fun w' _=>cQ w'))|(apply OQ.gH (b:=0);rfl;rfl;exact hq)|(apply OQ.move;rfl)|(apply OQ.assign;rfl)) rfl ?_ | refine JC.seq ?_ | refine JC.region ?_ | refine JL.nil ?_ | refine JE.next ?_)
            refine JC.cond rfl (fun _=>?_) (fun h=>by cases h)
            repeat (first | refine JL.q (by (apply OQ.assign;rfl)) rfl ?_ | refine JC.seq ?_ | refine JC.region ?_ | refine JL.nil ?_ | refine JE.next ?_)
            refine JC.ret ?_
            repeat (first | refine JE.ah ?_ | refine JE.aZ ?_)
            exact JE.bI rfl (RV.tmp rfl) (RV.tmp rfl) fun w' hw=>⟨rfl,hw.aS⟩
      · rw [of_decide_eq_true h41,iH,if_pos rfl] at hc
        rw [hc]
        repeat (first | refine JL.q (by first|(apply i0;rfl;rfl)|(apply OQ.ck (b:=40);rfl;rfl;exact h40)|(apply OQ.move;rfl)|(apply OQ.assign;rfl)) rfl ?_ | refine JC.seq ?_ | refine JC.region ?_ | refine JC.block ?_ | refine JC.skip ?_ | refine JL.nil ?_ | refine JE.next ?_)
        refine JC.cond rfl (fun h=>by cases h) (fun _=>?_)
        repeat (first | refine JL.q (by first|(apply OQ.ck (b:=41);rfl;rfl;exact h41)|(apply OQ.assign;rfl)) rfl ?_ | refine JC.seq ?_ | refine JC.region ?_ | refine JL.nil ?_ | refine JE.next ?_)
        refine JC.cond rfl (fun _=>?_) (fun h=>by cases h)
        repeat (first | refine JL.q (by (apply OQ.assign;rfl)) rfl ?_ | refine JC.seq ?_ | refine JC.region ?_ | refine JL.nil ?_ | refine JE.next ?_)
        refine JC.ret ?_
        repeat (first | refine JE.ah ?_ | refine JE.aZ ?_)
        exact JE.bI rfl (RV.tmp rfl) (RV.tmp rfl) fun w' hw=>⟨rfl,hw.aS⟩
    · obtain rfl : c=40:=of_decide_eq_true h40
      have cC:=fun w'=>mJ r w' (by omega)
      cases hcm : bz (40::r) 0 0 with
      | error e=>
        rw [hcm] at cC
        have he:=sO _ _ _ _ _ (Nat.le_refl _) hcm
        rw [qs o hcm] at hc
        rw [hc]
        repeat (first | refine JL.q (by first|(apply i0;rfl;rfl)|(apply OQ.ck (b:=40);rfl;rfl;exact h40)|(apply OQ.move;rfl)|(apply OQ.assign;rfl)) rfl ?_ | refine JC.seq ?_ | refine JC.region ?_ | refine JC.block ?_ | refine JC.skip ?_ | refine JL.nil ?_ | refine JE.next ?_)
        refine JC.cond rfl (fun _=>?_) (fun h=>by cases h)
        repeat (first | refine JL.q (by first|(apply OQ.ak (vs:=[Z (40::r)]);exact gz;rfl;exact (fun w' _=>cC w'))|(apply OQ.extract;rfl;rfl)|(apply OQ.nG (b:=0);rfl;rfl;exact he)|(apply OQ.move;rfl)|(apply OQ.assign;rfl)) rfl ?_ | refine JC.seq ?_ | refine JC.region ?_ | refine JL.nil ?_ | refine JE.next ?_)
        refine JC.cond rfl (fun _=>?_) (fun h=>by cases h)
        repeat (first | refine JL.q (by first|(apply OQ.move;rfl)|(apply OQ.assign;rfl)) rfl ?_ | refine JC.seq ?_ | refine JC.region ?_ | refine JL.nil ?_ | refine JE.next ?_)
        refine JC.ret ?_
        repeat (first | refine JE.ah ?_ | refine JE.aZ ?_)
        exact JE.bI rfl (RV.tmp rfl) (RV.tmp rfl) fun w' hw=>⟨rfl,hw.aS⟩
      | ok m=>
        rw [hcm] at cC
        obtain ⟨m0,m1,hb⟩:=kY o hcm
        rw [hb] at hc
        repeat (first | refine JL.q (by first|(apply i0;rfl;rfl)|(apply OQ.ck (b:=40);rfl;rfl;exact h40)|(apply OQ.move;rfl)|(apply OQ.assign;rfl)) rfl ?_ | refine JC.seq ?_ | refine JC.region ?_ | refine JC.block ?_ | refine JC.skip ?_ | refine JL.nil ?_ | refine JE.next ?_)
        refine JC.cond rfl (fun _=>?_) (fun h=>by cases h)
        repeat (first | refine JL.q (by first|(apply OQ.ak (vs:=[Z (40::r)]);exact gz;rfl;exact (fun w' _=>cC w'))|(apply OQ.extract;rfl;rfl)|(apply OQ.nG (b:=0) (c:=true);rfl;rfl;rfl)|(apply OQ.move;rfl)|(apply OQ.assign;rfl)) rfl ?_ | refine JC.seq ?_ | refine JC.region ?_ | refine JL.nil ?_ | refine JE.next ?_)
        refine JC.cond rfl (fun h=>by cases h) (fun _=>?_)
        repeat (first | refine JC.seq ?_ | refine JC.skip ?_ | refine JE.next ?_)
        have hdl : ((40::r).drop m).length=r.length+1 - m:=by rw [List.length_drop,List.length_cons]
        have hlm : m≤(40::r).length:=by rw [List.length_cons];omega
        let vs : Nat→X→Value:=fun j x=>match j with
          | 0=>.slice (some ⟨b,0,none⟩) o.length cap
          | 1=>.slice (some ⟨x.1,0,none⟩) 1 1
          | 3=>Z (40::r)
          | 4=>N m
          | 5=>Z ((40::r).drop m)
          | 7=>Z ((40::r).drop m)
          | _=>.slice (some ⟨x.1,0,none⟩) (o++[32]).length x.2
        let Ms : Nat→X→List aF:=fun j x=>match j with
          | 1=>[⟨x.1,Row 5 [U8 32],true⟩]
          | 2=>[⟨x.1,Sl.aO 5 1 (o++[32]).length x.2 ((o++[32]).map U8),true⟩]
          | 8=>[⟨b,Sl.aO 5 1 o.length cap (o.map U8),true⟩]
          | _=>[]
        refine JC.oU (g:=⟨[(6,N m)],9,vs,Ms,wv,xy,xz,xA,fun j=>match j with | 0=>[(4,.slice (some ⟨b,0,none⟩) o.length cap)] | 3=>[(0,Z (40::r))] | _=>[]⟩) [(6,4),(7,0)] [2] ei (by repeat (first | exact af.nil | refine af.cons _ _ _ rfl ?_)) (fun j _=>match j with | 0=>(by repeat (first | exact af.nil | refine af.cons _ _ _ rfl ?_)) | 1=>.nil | 2=>.nil | 3=>(by repeat (first | exact af.nil | refine af.cons _ _ _ rfl ?_)) | _+4=>.nil) (av.refl _) (by kernel_rfl) (by kernel_rfl) (by kernel_rfl) ?_ ?_
        · refine ⟨?_,?_,?_,?_,?_,?_,?_,?_,trivial⟩
          · (intro x EF MF Q kk;(try refine JL.aT rfl rfl ?_);exact JL.q (by (apply OQ.move;rfl)) rfl (JL.nil (kk default nofun)))
          · intro x EF MF Q kk
            exact JL.p9 Tryz.underlying22 cc rfl rfl rfl rfl fun b _=>JL.nil (kk (b,0) nofun)
          · intro x EF MF Q kk
            refine JL.ek (M':=ay 5 (some (b,cap)) (o.map U8)++⟨(x 1).1,Row 5 [U8 32],true⟩::MF) ?_ (by show av ([⟨b,Sl.aO 5 1 (o.map U8).length cap (o.map U8),true⟩]++⟨(x 1).1,Row 5 [U8 32],true⟩::MF) _;rw [List.length_map];exact av.refl _)
            refine JL.dj (cs:=[U8 32]) (m:=1) (ad:=some ⟨(x 1).1,0,none⟩) (sc:=1) (xs:=o.map U8) (M:=⟨(x 1).1,Row 5 [U8 32],true⟩::MF) (some (b,cap)) Tryz.underlying22 cc (fun h=>by cases h) (by rw [List.length_map];rfl) rfl rfl (fun w' hw'=>?_) (fun v hv=>by rw [List.mem_singleton.1 hv];rfl) rfl (by rw [List.length_map];omega) (by rw [List.length_map];omega) rfl fun q' hq'=>JL.nil ?_
            · have hw' : aa _ _ (⟨b,Sl.aO 5 1 (o.map U8).length cap (o.map U8),true⟩::⟨(x 1).1,Row 5 [U8 32],true⟩::MF) w':=hw'
              obtain ⟨o',ho,hA⟩:=hw'.get (.there .here)
              exact Reads.block ho (Row.all _ hA)
            · cases q' with
              | none=>exact absurd (hq' rfl) (by simp)
              | some p=>
                rw [show o.map U8++[U8 32]=(o++[32]).map U8 by rw [List.map_append];rfl,List.length_map,jq]
                exact kk p (fun k h=>by cases h)
          iterate 3 (focus (intro x EF MF Q kk;(try refine JL.aT rfl rfl ?_);exact JL.q (by first|(apply OQ.bH;exact Tryz.underlying9;rfl;rfl;exact hlm)|(apply OQ.move;rfl)) rfl (JL.nil (kk default nofun))))
          · intro x EF MF Q kk
            exact JL.q (OQ.assign rfl) rfl (JL.nil (kk (x 2) (fun k h=>by cases h;rfl)))
          · (intro x EF MF Q kk;(try refine JL.aT rfl rfl ?_);exact JL.q (by (apply OQ.assign;rfl)) rfl (JL.nil (kk default nofun)))
        · intro x hx'
          have h84:=hx' 6 2 (by decide) rfl
          show JE _ _ _ _ _ [(4,.slice (some ⟨(x 6).1,0,none⟩) (o++[32]).length (x 6).2),(0,Z ((40::r).drop m)),(6,N m)] [⟨(x 2).1,Sl.aO 5 1 (o++[32]).length (x 2).2 ((o++[32]).map U8),true⟩]
          rw [h84]
          obtain ⟨b',cap'⟩:=x 2
          clear hx' h84 x vs Ms
          dsimp only
          repeat (first | refine JC.exit ?_ | refine JE.next ?_ | refine JE.ax ?_ | refine JE.aI ?_ | refine JE.rO rfl ?_)
          exact JE.again (i:=wz.mk (40::r) o b cap) (wz.mk ((40::r).drop m) (o++[32]) b' cap') ⟨by dsimp only;rw [List.length_append,List.length_singleton];omega,hc⟩ (by dsimp only;rw [List.length_cons];omega) (by repeat (first | exact af.nil | refine af.cons _ _ _ rfl ?_)) (av.refl _)
  · obtain rfl : r=[]:=of_decide_eq_true hr0
    rw [cu,if_neg (by decide)] at hc
    rw [hc]
    repeat (first | refine JL.q (by first|(apply OQ.gv (r:=[]);rfl;rfl;exact hr0)|(apply OQ.move;rfl)) rfl ?_ | refine JC.seq ?_ | refine JC.region ?_ | refine JL.nil ?_ | refine JE.next ?_)
    refine JC.cond rfl (fun h=>by cases h) (fun _=>?_)
    repeat (first | refine JL.q (by first|(apply OQ.nF (s:=⟨some ⟨b,0,none⟩,cap,o⟩);exact Tryz.underlying22;exact Tryz.underlying5;exact Tryz.underlying9;rfl;exact (fun w' hw'=>dM hw' .here))|(apply OQ.move;rfl)|(apply OQ.assign;rfl)) rfl ?_ | refine JC.seq ?_ | refine JC.region ?_ | refine JC.exit ?_ | refine JL.nil ?_ | refine JE.next ?_ | refine JE.ax ?_ | refine JE.aI ?_)
    refine JC.ret ?_
    exact JE.bI rfl (RV.tmp rfl) (RV.tmp rfl) fun w' hw=>⟨rfl,hw.aS⟩
end
section
set_option maxRecDepth 10000
open Sl aA Go.Shelf
def jr : Ren:=⟨fun | 159=>182 | 165=>160 | 166=>161 | 167=>223 | 169=>163 | 230=>224 | 204=>225 | 240=>194 | 241=>195 | 197=>165 | 118=>249 | 168=>250 | 270=>251 | 262=>252 | 276=>230 | 277=>231 | 260=>196 | 242=>270 | 313=>271 | 278=>279 | 274=>280 | 275=>281 | n=>n,
  fun | 9=>9 | 4=>4 | 3=>3 | 5=>5 | 72=>224 | 0=>0 | 76=>160 | 75=>159 | 107=>272 | 70=>222 | 20=>20 | 37=>22 | 127=>250 | 21=>21 | 105=>225 | 164=>277 | 162=>311 | 203=>309 | 119=>280 | 46=>189 | 139=>283 | 138=>282 | 51=>176 | 160=>320 | 208=>329 | 206=>327 | 80=>132 | n=>n,
  fun | 13=>6 | 3=>3 | 4=>4 | n=>n⟩
theorem uU : Lays.n159 Tryz.prog jr:={
  mixed:=by kernel_rfl
  f118:=Tryz.func249.trans (congrArg some (by kernel_rfl))
  f159:=Tryz.func182.trans (congrArg some (by kernel_rfl))
  f165:=Tryz.func160.trans (congrArg some (by kernel_rfl))
  f166:=Tryz.func161.trans (congrArg some (by kernel_rfl))
  f167:=Tryz.func223.trans (congrArg some (by kernel_rfl))
  f168:=Tryz.func250.trans (congrArg some (by kernel_rfl))
  f169:=Tryz.func163.trans (congrArg some (by kernel_rfl))
  f197:=Tryz.func165.trans (congrArg some (by kernel_rfl))
  f204:=Tryz.func225.trans (congrArg some (by kernel_rfl))
  f230:=Tryz.func224.trans (congrArg some (by kernel_rfl))
  f240:=Tryz.func194.trans (congrArg some (by kernel_rfl))
  f241:=Tryz.func195.trans (congrArg some (by kernel_rfl))
  f242:=Tryz.func270.trans (congrArg some (by kernel_rfl))
  f260:=Tryz.func196.trans (congrArg some (by kernel_rfl))
  f262:=Tryz.func252.trans (congrArg some (by kernel_rfl))
  f270:=Tryz.func251.trans (congrArg some (by kernel_rfl))
  f274:=Tryz.func280.trans (congrArg some (by kernel_rfl))
  f275:=Tryz.func281.trans (congrArg some (by kernel_rfl))
  f276:=Tryz.func230.trans (congrArg some (by kernel_rfl))
  f277:=Tryz.func231.trans (congrArg some (by kernel_rfl))
  f278:=Tryz.func279.trans (congrArg some (by kernel_rfl))
  f313:=Tryz.func271.trans (congrArg some (by kernel_rfl))
  t0:=Tryz.underlying0
  a0:=Tryz.isAgg0
  z0:=Tryz.sizeOf0
  v0:=Tryz.zeroValue0
  t3:=Tryz.underlying3
  a3:=Tryz.isAgg3
  z3:=Tryz.sizeOf3
  v3:=Tryz.zeroValue3
  t4:=Tryz.underlying4
  a4:=Tryz.isAgg4
  z4:=Tryz.sizeOf4
  v4:=Tryz.zeroValue4
  t5:=Tryz.underlying5
  a5:=Tryz.isAgg5
  z5:=Tryz.sizeOf5
  v5:=Tryz.zeroValue5
  t9:=Tryz.underlying9
  a9:=Tryz.isAgg9
  z9:=Tryz.sizeOf9
  v9:=Tryz.zeroValue9
  t20:=Tryz.underlying20
  a20:=Tryz.isAgg20
  z20:=Tryz.sizeOf20
  v20:=Tryz.zeroValue20
  t21:=Tryz.underlying21
  a21:=Tryz.isAgg21
  z21:=Tryz.sizeOf21
  v21:=Tryz.zeroValue21
  t37:=Tryz.underlying22
  a37:=Tryz.isAgg22
  z37:=Tryz.sizeOf22
  v37:=Tryz.zeroValue22
  t46:=Tryz.underlying189
  a46:=Tryz.isAgg189
  z46:=Tryz.sizeOf189
  v46:=Tryz.zeroValue189
  t51:=Tryz.underlying176
  a51:=Tryz.isAgg176
  z51:=Tryz.sizeOf176
  v51:=Tryz.zeroValue176
  t70:=Tryz.underlying222
  a70:=Tryz.isAgg222
  z70:=Tryz.sizeOf222
  v70:=Tryz.zeroValue222
  t72:=Tryz.underlying224
  a72:=Tryz.isAgg224
  z72:=Tryz.sizeOf224
  v72:=Tryz.zeroValue224
  t75:=Tryz.underlying159
  a75:=Tryz.isAgg159
  z75:=Tryz.sizeOf159
  v75:=Tryz.zeroValue159
  t76:=Tryz.underlying160
  a76:=Tryz.isAgg160
  z76:=Tryz.sizeOf160
  v76:=Tryz.zeroValue160
  t105:=Tryz.underlying225
  a105:=Tryz.isAgg225
  z105:=Tryz.sizeOf225
  v105:=Tryz.zeroValue225
  t107:=Tryz.underlying272
  a107:=Tryz.isAgg272
  z107:=Tryz.sizeOf272
  v107:=Tryz.zeroValue272
  t119:=Tryz.underlying280
  a119:=Tryz.isAgg280
  z119:=Tryz.sizeOf280
  t127:=Tryz.underlying250
  a127:=Tryz.isAgg250
  z127:=Tryz.sizeOf250
  v127:=Tryz.zeroValue250
  t138:=Tryz.underlying282
  a138:=Tryz.isAgg282
  z138:=Tryz.sizeOf282
  v138:=Tryz.zeroValue282
  t139:=Tryz.underlying283
  a139:=Tryz.isAgg283
  z139:=Tryz.sizeOf283
  v139:=Tryz.zeroValue283
  t160:=Tryz.underlying320
  a160:=Tryz.isAgg320
  z160:=Tryz.sizeOf320
  v160:=Tryz.zeroValue320
  t162:=Tryz.underlying311
  a162:=Tryz.isAgg311
  z162:=Tryz.sizeOf311
  v162:=Tryz.zeroValue311
  t164:=Tryz.underlying277
  a164:=Tryz.isAgg277
  z164:=Tryz.sizeOf277
  v164:=Tryz.zeroValue277
  t203:=Tryz.underlying309
  a203:=Tryz.isAgg309
  z203:=Tryz.sizeOf309
  v203:=Tryz.zeroValue309
  t206:=Tryz.underlying327
  a206:=Tryz.isAgg327
  z206:=Tryz.sizeOf327
  v206:=Tryz.zeroValue327
  t208:=Tryz.underlying329
  a208:=Tryz.isAgg329
  z208:=Tryz.sizeOf329
  v208:=Tryz.zeroValue329
  g3:=by kernel_rfl
  g4:=by kernel_rfl
  g13:=by kernel_rfl }
theorem x9 : Builder.Extra Tryz.prog jr:={
  sizeBuilder:=by kernel_rfl
  liesBuilder:=by kernel_rfl
  t5:=Tryz.underlying5
  a5:=Tryz.isAgg5
  z5:=Tryz.sizeOf5
  v5:=Tryz.zeroValue5
  infoByte:=by kernel_rfl
  cellsByte:=by kernel_rfl
  sizeByte:=by kernel_rfl
  neB5:=by decide }
theorem wA (l : List aA.By) : Go.Lib.toLowerA (aA.bN l)=aA.bN (l.map small):=by
  have h : ∀ c : Fin 256,Go.Lib.lowerB (UInt8.ofBitVec (BitVec.ofNat 8 c.val))=UInt8.ofBitVec (small (BitVec.ofNat 8 c.val)):=by decide +kernel
  unfold Go.Lib.toLowerA aA.bN
  rw [List.map_map,List.map_map]
  refine List.map_congr_left fun c _=>?_
  simpa using h ⟨c.toNat,c.isLt⟩
theorem js : aK Tryz.prog 182:=⟨_,Tryz.func182,rfl,by kernel_rfl⟩
theorem ki (s : List Bt) (w : World) (hl : s.length≤140737488355328) (hs : ∀ c ∈ s,c.toNat<128) : Calls Tryz.prog 182 [Z s].toArray w fun e w'=>e=.returned (Z (s.map small))∧Ext w w':=
  (Any.strings_ToLower_ascii uU x9 (bu s) w (by rw [bn];exact hl) (fun j b hb=>by
    rw [dA] at hb
    obtain ⟨c,hc,rfl⟩:=List.mem_map.1 (List.mem_of_getElem? hb)
    exact hs c hc)).mono fun e w' ⟨h1,h2⟩=>⟨by rw [h1,dA,wA,pg],j6 h2⟩
namespace aA
def dO (c : aA.By) : List aA.By→List (List aA.By)
  | []=>[[]]
  | d::r=>if d=c then []::dO c r else match dO c r with
    | []=>[[d]]
    | x::L=>(d::x)::L
theorem ot (c : aA.By) : ∀ s,dO c s≠[]
  | []=>by simp [dO]
  | d::r=>by
    unfold dO
    split
    · simp
    · split <;> simp
theorem mK {c : aA.By} : ∀ {s : List aA.By},fi c s=s.length→dO c s=[s]
  | [],_=>rfl
  | d::r,h=>by
    rw [dn] at h
    by_cases hd : d=c
    · rw [if_pos hd] at h;simp at h
    · rw [if_neg hd] at h
      rw [dO,if_neg hd,mK (s:=r) (by simpa using h)]
theorem mL {c : aA.By} : ∀ {s : List aA.By},fi c s<s.length→dO c s=s.take (fi c s)::dO c (s.drop (fi c s+1))
  | [],h=>by simp [fi] at h
  | d::r,h=>by
    by_cases hd : d=c
    · rw [dn,if_pos hd,dO,if_pos hd]
      rfl
    · rw [dn,if_neg hd] at h ⊢
      rw [dO,if_neg hd,mL (s:=r) (by simpa using h)]
      rfl
theorem sP (c : aA.By) (s : List aA.By) : Go.Lib.index (aA.bN s) (aA.bN [c])=gI c s:=by
  show Go.Lib.index (aA.bN s) [UInt8.ofBitVec c]=_
  rw [Go.Lib.index_one,pF]
where
  pF {c : aA.By} : ∀ {l : List aA.By},Go.Lib.indexByte (aA.bN l) (UInt8.ofBitVec c)=gI c l
  | []=>rfl
  | d::r=>by
    show (if (UInt8.ofBitVec d == UInt8.ofBitVec c) then 0 else if Go.Lib.indexByte (aA.bN r) (UInt8.ofBitVec c) == -1 then -1 else Go.Lib.indexByte (aA.bN r) (UInt8.ofBitVec c)+1 : Int)=_
    rw [pF (c:=c) (l:=r)]
    unfold gI
    rw [dn]
    have hb : (UInt8.ofBitVec d == UInt8.ofBitVec c)=decide (d=c):=by
      by_cases h : d=c
      · subst h;simp
      · rw [decide_eq_false h]
        exact beq_eq_false_iff_ne.2 fun k=>h (congrArg UInt8.toBitVec k)
    rw [hb]
    by_cases hd : d=c
    · simp [hd]
    · simp only [hd,decide_false,Bool.false_eq_true,if_false,List.length_cons,Nat.add_lt_add_iff_right]
      by_cases h : fi c r<r.length
      · simp only [h,if_true]
        rw [if_neg (by rw [beq_iff_eq];omega)]
        omega
      · simp only [h,if_false]
        rfl
theorem gY (c : aA.By) : ∀ s : List aA.By,(aA.bN s).count (UInt8.ofBitVec c)=s.count c
  | []=>rfl
  | d::r=>by
    show (UInt8.ofBitVec d::aA.bN r).count _=_
    rw [List.count_cons,List.count_cons,gY c r]
    congr 1
    by_cases h : d=c
    · subst h;simp
    · have h2 : ¬ UInt8.ofBitVec d=UInt8.ofBitVec c:=fun k=>h (congrArg UInt8.toBitVec k)
      rw [if_neg (by simpa using h2),if_neg (by simpa using h)]
theorem fz {c : aA.By} : ∀ {s : List aA.By},(s.count c=0→fi c s=s.length)∧(s.count c≠0→fi c s<s.length∧s.count c=(s.drop (fi c s+1)).count c+1)
  | []=>by simp [fi]
  | d::r=>by
    obtain ⟨h1,h2⟩:=fz (c:=c) (s:=r)
    rw [dn,List.count_cons]
    by_cases hd : d=c
    · subst hd
      simp
    · have hdb : (d == c)=false:=beq_eq_false_iff_ne.2 hd
      simp only [hdb,hd,if_false,Bool.false_eq_true,Nat.add_zero,List.length_cons,Nat.add_lt_add_iff_right,List.drop_succ_cons]
      exact ⟨fun h=>by rw [h1 h],h2⟩
theorem kj (c : aA.By) : ∀ (k : Nat) (s : List aA.By),s.count c=k→Go.Lib.splitK (aA.bN [c]) 0 k (aA.bN s)=(dO c s).map aA.bN
  | 0,s,h=>by
    rw [mK (fz.1 h)]
    rfl
  | k+1,s,h=>by
    obtain ⟨h1,h2⟩:=(fz (c:=c) (s:=s)).2 (by omega)
    have hi : Go.Lib.index (aA.bN s) (aA.bN [c])=(fi c s : Nat):=by rw [sP,gI,if_pos h1]
    have hd : (aA.bN s).drop (fi c s+1)=aA.bN (s.drop (fi c s+1)):=by unfold aA.bN;rw [List.map_drop]
    have ht : (aA.bN s).take (fi c s)=aA.bN (s.take (fi c s)):=by unfold aA.bN;rw [List.map_take]
    show (if Go.Lib.index (aA.bN s) (aA.bN [c]) == -1 then [aA.bN s] else (aA.bN s).take ((Go.Lib.index (aA.bN s) (aA.bN [c])).toNat+0)::Go.Lib.splitK (aA.bN [c]) 0 k ((aA.bN s).drop ((Go.Lib.index (aA.bN s) (aA.bN [c])).toNat+(aA.bN [c]).length)))=_
    rw [hi,if_neg (by rw [beq_iff_eq];omega),Int.toNat_natCast,Nat.add_zero,show (aA.bN [c]).length=1 from rfl,hd,ht,kj c k _ (by omega),mL h1]
    rfl
end aA
theorem mM (c : Bt) (s : List Bt) : (Go.Lib.splitB (bu [c]) 0 (s.count c) (bu s)).map Value.string=(dO c s).map Z:=by
  have h1:=Go.Lib.splitB_data (bu [c]) 0 (s.count c) (bu s)
  rw [dA,dA,kj c _ s rfl] at h1
  have h2:=congrArg (List.map fun l : List UInt8=>Value.string ⟨l.toArray⟩) h1
  rw [List.map_map,List.map_map] at h2
  exact h2
def gA : Ren:=⟨fun | 221=>93 | 268=>129 | 138=>130 | 143=>131 | 195=>164 | 197=>165 | 218=>166 | 219=>167 | 260=>196 | 217=>197 | 225=>198 | 224=>184 | 267=>199 | 266=>232 | 314=>233 | n=>n,
  fun | 9=>9 | 3=>3 | 31=>30 | 4=>4 | 0=>0 | 105=>225 | 21=>21 | 5=>5 | 46=>189 | 119=>280 | 139=>283 | 138=>282 | 146=>246 | 51=>176 | n=>n,
  fun | 1=>0 | 3=>3 | 4=>4 | n=>n⟩
theorem gZ : Lays.n221 Tryz.prog gA:={
  mixed:=by kernel_rfl
  f138:=Tryz.func130.trans (congrArg some (by kernel_rfl))
  f143:=Tryz.func131.trans (congrArg some (by kernel_rfl))
  f195:=Tryz.func164.trans (congrArg some (by kernel_rfl))
  f197:=Tryz.func165.trans (congrArg some (by kernel_rfl))
  f217:=Tryz.func197.trans (congrArg some (by kernel_rfl))
  f218:=Tryz.func166.trans (congrArg some (by kernel_rfl))
  f219:=Tryz.func167.trans (congrArg some (by kernel_rfl))
  f221:=Tryz.func93.trans (congrArg some (by kernel_rfl))
  f224:=Tryz.func184.trans (congrArg some (by kernel_rfl))
  f225:=Tryz.func198.trans (congrArg some (by kernel_rfl))
  f260:=Tryz.func196.trans (congrArg some (by kernel_rfl))
  f266:=Tryz.func232.trans (congrArg some (by kernel_rfl))
  f267:=Tryz.func199.trans (congrArg some (by kernel_rfl))
  f268:=Tryz.func129.trans (congrArg some (by kernel_rfl))
  f314:=Tryz.func233.trans (congrArg some (by kernel_rfl))
  t0:=Tryz.underlying0
  a0:=Tryz.isAgg0
  z0:=Tryz.sizeOf0
  v0:=Tryz.zeroValue0
  t3:=Tryz.underlying3
  a3:=Tryz.isAgg3
  z3:=Tryz.sizeOf3
  v3:=Tryz.zeroValue3
  t4:=Tryz.underlying4
  a4:=Tryz.isAgg4
  z4:=Tryz.sizeOf4
  v4:=Tryz.zeroValue4
  t5:=Tryz.underlying5
  a5:=Tryz.isAgg5
  z5:=Tryz.sizeOf5
  v5:=Tryz.zeroValue5
  t9:=Tryz.underlying9
  a9:=Tryz.isAgg9
  z9:=Tryz.sizeOf9
  v9:=Tryz.zeroValue9
  t21:=Tryz.underlying21
  a21:=Tryz.isAgg21
  z21:=Tryz.sizeOf21
  v21:=Tryz.zeroValue21
  t31:=Tryz.underlying30
  a31:=Tryz.isAgg30
  z31:=Tryz.sizeOf30
  v31:=Tryz.zeroValue30
  t46:=Tryz.underlying189
  a46:=Tryz.isAgg189
  z46:=Tryz.sizeOf189
  v46:=Tryz.zeroValue189
  t51:=Tryz.underlying176
  a51:=Tryz.isAgg176
  z51:=Tryz.sizeOf176
  v51:=Tryz.zeroValue176
  t105:=Tryz.underlying225
  a105:=Tryz.isAgg225
  z105:=Tryz.sizeOf225
  v105:=Tryz.zeroValue225
  t119:=Tryz.underlying280
  a119:=Tryz.isAgg280
  z119:=Tryz.sizeOf280
  t138:=Tryz.underlying282
  a138:=Tryz.isAgg282
  z138:=Tryz.sizeOf282
  v138:=Tryz.zeroValue282
  t139:=Tryz.underlying283
  a139:=Tryz.isAgg283
  z139:=Tryz.sizeOf283
  v139:=Tryz.zeroValue283
  t146:=Tryz.underlying246
  a146:=Tryz.isAgg246
  z146:=Tryz.sizeOf246
  v146:=Tryz.zeroValue246
  g1:=by kernel_rfl
  g3:=by kernel_rfl
  g4:=by kernel_rfl }
theorem xB : (Tryz.prog.info? (gA.t 9)).map (fun i=>(i.zero,i.size,i.bytes))=some (some (.string ByteArray.empty),1,16):=by kernel_rfl
theorem qA : aK Tryz.prog 93:=⟨_,Tryz.func93,rfl,by kernel_rfl⟩
theorem qB : aK Tryz.prog 221:=⟨_,Tryz.func221,rfl,by kernel_rfl⟩
theorem sQ (s : List Bt) (c : Bt) (w : World) (hl : s.length<4294967281) : Calls Tryz.prog 93 [Z s,Z [c],N 0,I (-1)].toArray w fun e w'=>
    ∃ b,e=.returned (.slice (some ⟨b,0,none⟩) (dO c s).length (dO c s).length)∧aa w [] [⟨b,Row 9 ((dO c s).map Z),true⟩] w':=by
  have hcnt : Go.Lib.countB (bu s) (bu [c])=s.count c:=by
    show Go.Lib.count (aA.bN s) [UInt8.ofBitVec c]=_
    rw [Go.Lib.count_one,gY]
  have hcle : s.count c≤s.length:=List.count_le_length
  have hlen : (Go.Lib.splitB (bu [c]) 0 (s.count c) (bu s)).length=s.count c+1:=Go.Lib.splitB_all (bu [c]) (by rw [bn];exact Nat.le_refl _) 0 _ (bu s) hcnt
  have hlen2 : (dO c s).length=s.count c+1:=by
    have:=congrArg List.length (mM c s)
    rw [List.length_map,List.length_map,hlen] at this
    exact this.symm
  have:=Any.strings_genSplit_core gZ xB (bu s) (bu [c]) 0 (-1) (s.count c+1) w (by rw [bn];exact hl) (by rw [bn];exact Nat.le_refl _) (Nat.zero_le _)
    (fun x cs hx=>(Any.strings_Index_one { gZ with } x (UInt8.ofBitVec c) _).mono fun e w' ⟨h1,h2⟩=>⟨by
      rw [h1]
      show Ending.returned (Value.int .i64 (Go.Lib.indexByte x.data.toList (UInt8.ofBitVec c)))=Ending.returned (Value.int .i64 (Go.Lib.index x.data.toList [UInt8.ofBitVec c]))
      rw [Go.Lib.index_one],h2⟩)
    ((Any.strings_Count_one { gZ with } (bu s) (UInt8.ofBitVec c) w).mono fun e w' ⟨h1,h2⟩=>⟨by
      rw [h1]
      show Ending.returned (Value.int .i64 (((aA.bN s).count (UInt8.ofBitVec c) : Nat) : Int))=Ending.returned (Value.int .i64 ((Go.Lib.countB (bu s) (bu [c]) : Nat) : Int))
      rw [hcnt,gY],h2⟩) (by decide) (by decide) (by
        rw [if_pos (by decide),hcnt,bn]
        omega)
  refine this.mono fun e w' ⟨h1,h2⟩=>⟨w.heap.size,?_,?_⟩
  · rw [h1,Nat.add_sub_cancel,hlen,hlen2]
  · rw [h2,Nat.add_sub_cancel]
    have e1 : Go.Lib.cellsOf (Go.Lib.splitB (bu [c]) 0 (s.count c) (bu s)) (s.count c+1)=((dO c s).map Z).toArray:=by
      rw [← hlen,Go.Lib.cellsOf_full,mM]
    rw [e1]
    exact (aa.start w []).push (.cells ((dO c s).map Z).toArray 9 (0,0)) rfl rfl rfl rfl rfl
theorem sR (s : List Bt) (c : Bt) (w : World) (hl : s.length<4294967281) : Calls Tryz.prog 221 [Z s,Z [c]].toArray w fun e w'=>
    ∃ b,e=.returned (.slice (some ⟨b,0,none⟩) (dO c s).length (dO c s).length)∧aa w [] [⟨b,Row 9 ((dO c s).map Z),true⟩] w':=by
  refine enter (n:=8) Tryz.func221 rfl rfl rfl (aa.start w []) ?_
  repeat (first | refine JL.q (by first|(apply OQ.move;rfl)|(apply OQ.assign;rfl)) rfl ?_ | refine JC.seq ?_ | refine JC.region ?_ | refine JL.nil ?_ | refine JE.next ?_)
  refine JL.dD (ι:=Nat) (vs:=[Z s,Z [c],N 0,I (-1)]) (fun b=>.slice (some ⟨b,0,none⟩) (dO c s).length (dO c s).length) (fun b=>[⟨b,Row 9 ((dO c s).map Z),true⟩]) qA rfl rfl (fun b e he=>by rw [List.mem_singleton.1 he]) (fun w' _=>sQ s c w' hl) fun b=>?_
  repeat (first | refine JL.q (by (apply OQ.assign;rfl)) rfl ?_ | refine JL.nil ?_ | refine JE.next ?_)
  exact JC.ret (JE.aE rfl (RV.tmp rfl) fun w' hw=>⟨b,rfl,hw⟩)
theorem mN : aK Tryz.prog 193:=⟨_,Tryz.func193,rfl,by kernel_rfl⟩
theorem mO : aK Tryz.prog 242:=⟨_,Tryz.func242,rfl,by kernel_rfl⟩
theorem mP : aK Tryz.prog 246:=⟨_,Tryz.func246,rfl,by kernel_rfl⟩
theorem mQ : aK Tryz.prog 218:=⟨_,Tryz.func218,rfl,by kernel_rfl⟩
theorem mR : aK Tryz.prog 178:=⟨_,Tryz.func178,rfl,by kernel_rfl⟩
theorem uV (s : List aA.By) (c : aA.By) : decide (s.head?=some c)=(decide ((1 : Int)≤(s.length : Int)) && decide (s.take 1=[c])):=by
  cases s with
  | nil=>simp
  | cons d r=>
    simp
    intro _
    omega
theorem uW (s : List aA.By) (c : aA.By) : decide (s.getLast?=some c)=(decide ((1 : Int)≤(s.length : Int)) && decide (s.drop (s.length - 1)=[c])):=by
  rcases List.eq_nil_or_concat s with rfl | ⟨r,d,rfl⟩
  · simp
  · simp
    intro _
    omega
set_option maxHeartbeats 2000000 in
theorem uX (s : List Bt) (c : Bt) (w : World) : Calls Tryz.prog 193 [Z s,Z [c]].toArray w fun e w'=>e=.returned (.bool (decide (s.head?=some c)))∧Ext w w':=by
  refine enter (n:=18) Tryz.func193 rfl rfl rfl (aa.start w []) ?_
  rw [uV]
  cases h1 : decide ((1 : Int)≤(s.length : Int))
  · repeat (first | refine JL.q (by first|(apply OQ.bw;exact Tryz.underlying9;rfl)|(apply OQ.cJ (b:=1);rfl;rfl;exact h1)|(apply OQ.aB;rfl;rfl)|(apply OQ.move;rfl)|(apply OQ.assign;rfl)) rfl ?_ | refine JC.seq ?_ | refine JC.region ?_ | refine JL.nil ?_ | refine JE.next ?_ | refine JL.aU rfl rfl rfl rfl ?_)
    exact JC.ret (JE.aE rfl (RV.tmp rfl) fun w' hw=>⟨rfl,hw.aS⟩)
  · have hle : 1≤s.length:=by have:=of_decide_eq_true h1;omega
    cases h2 : decide (s.take 1=[c])
    all_goals (repeat (first | refine JL.q (by first|(apply OQ.bw;exact Tryz.underlying9;rfl)|(apply OQ.cJ (b:=1);rfl;rfl;exact h1)|(apply OQ.cw (j:=1);exact Tryz.underlying9;rfl;rfl;exact hle)|(apply OQ.en;rfl;rfl;exact h2)|(apply OQ.az;rfl;rfl)|(apply OQ.move;rfl)|(apply OQ.assign;rfl)) rfl ?_ | refine JC.seq ?_ | refine JC.region ?_ | refine JL.nil ?_ | refine JE.next ?_ | refine JL.aT rfl rfl ?_))
    all_goals exact JC.ret (JE.aE rfl (RV.tmp rfl) fun w' hw=>⟨rfl,hw.aS⟩)
def xC (c : Bt) (s : List Bt) : Value:=if s.head?=some c then .tuple #[Z s.tail,.bool true] else .tuple #[Z s,.bool false]
theorem uY (s : List Bt) (c : Bt) (w : World) : Calls Tryz.prog 242 [Z s,Z [c]].toArray w fun e w'=>e=.returned (xC c s)∧Ext w w':=by
  refine enter (n:=15) Tryz.func242 rfl rfl rfl (aa.start w []) ?_
  have hq:=fun w'=>uX s c w'
  unfold xC
  by_cases h : s.head?=some c
  · simp only [h,decide_true,if_true] at hq ⊢
    have hle : 1≤s.length:=by
      cases s with
      | nil=>cases h
      | cons d r=>simp
    repeat (first | refine JL.q (by first|(apply OQ.ak (vs:=[Z s,Z [c]]);exact mN;rfl;exact (fun w' _=>hq w'))|(apply OQ.not;rfl)|(apply OQ.move;rfl)|(apply OQ.assign;rfl)) rfl ?_ | refine JC.seq ?_ | refine JC.region ?_ | refine JL.nil ?_ | refine JE.next ?_)
    refine JC.cond rfl (fun h=>by cases h) (fun _=>?_)
    repeat (first | refine JL.q (by first|(apply OQ.bw;exact Tryz.underlying9;rfl)|(apply OQ.bH (i:=1);exact Tryz.underlying9;rfl;rfl;exact hle)|(apply OQ.move;rfl)|(apply OQ.assign;rfl)) rfl ?_ | refine JC.seq ?_ | refine JC.region ?_ | refine JC.skip ?_ | refine JL.nil ?_ | refine JE.next ?_)
    refine JC.ret ?_
    skip
    refine JE.bI rfl (RV.tmp rfl) (RV.tmp rfl) fun w' hw=>⟨?_,hw.aS⟩
    rw [List.drop_one]
  · simp only [h,decide_false,if_false] at hq ⊢
    repeat (first | refine JL.q (by first|(apply OQ.ak (vs:=[Z s,Z [c]]);exact mN;rfl;exact (fun w' _=>hq w'))|(apply OQ.not;rfl)|(apply OQ.move;rfl)|(apply OQ.assign;rfl)) rfl ?_ | refine JC.seq ?_ | refine JC.region ?_ | refine JL.nil ?_ | refine JE.next ?_)
    refine JC.cond rfl (fun _=>?_) (fun h=>by cases h)
    repeat (first | refine JL.q (by first|(apply OQ.move;rfl)|(apply OQ.assign;rfl)) rfl ?_ | refine JC.seq ?_ | refine JC.region ?_ | refine JL.nil ?_ | refine JE.next ?_)
    refine JC.ret ?_
    repeat (refine JE.ah ?_)
    exact JE.bI rfl (RV.tmp rfl) (RV.tmp rfl) fun w' hw=>⟨rfl,hw.aS⟩
theorem uZ (s : List Bt) (c : Bt) (w : World) : Calls Tryz.prog 208 [Z s,Z [c]].toArray w fun e w'=>e=.returned (xC c s)∧Ext w w':=by
  refine enter (n:=11) Tryz.func208 rfl rfl rfl (aa.start w []) ?_
  have hq:=fun w'=>uY s c w'
  unfold xC at hq ⊢
  by_cases h : s.head?=some c
  · simp only [h,if_true] at hq ⊢
    repeat (first | refine JL.q (by first|(apply OQ.ak (vs:=[Z s,Z [c]]);exact mO;rfl;exact (fun w' _=>hq w'))|(apply OQ.extract;rfl;rfl)|(apply OQ.move;rfl)|(apply OQ.assign;rfl)) rfl ?_ | refine JC.seq ?_ | refine JC.region ?_ | refine JL.nil ?_ | refine JE.next ?_)
    exact JC.ret (JE.bI rfl (RV.tmp rfl) (RV.tmp rfl) fun w' hw=>⟨rfl,hw.aS⟩)
  · simp only [h,if_false] at hq ⊢
    repeat (first | refine JL.q (by first|(apply OQ.ak (vs:=[Z s,Z [c]]);exact mO;rfl;exact (fun w' _=>hq w'))|(apply OQ.extract;rfl;rfl)|(apply OQ.move;rfl)|(apply OQ.assign;rfl)) rfl ?_ | refine JC.seq ?_ | refine JC.region ?_ | refine JL.nil ?_ | refine JE.next ?_)
    exact JC.ret (JE.bI rfl (RV.tmp rfl) (RV.tmp rfl) fun w' hw=>⟨rfl,hw.aS⟩)
set_option maxHeartbeats 2000000 in
theorem u0 (s : List Bt) (c : Bt) (w : World) (hl : s.length<9223372036854775808) : Calls Tryz.prog 246 [Z s,Z [c]].toArray w fun e w'=>e=.returned (.bool (decide (s.getLast?=some c)))∧Ext w w':=by
  refine enter (n:=21) Tryz.func246 rfl rfl rfl (aa.start w []) ?_
  rw [uW]
  cases h1 : decide ((1 : Int)≤(s.length : Int))
  · repeat (first | refine JL.q (by first|(apply OQ.bw;exact Tryz.underlying9;rfl)|(apply OQ.cJ (b:=1);rfl;rfl;exact h1)|(apply OQ.aB;rfl;rfl)|(apply OQ.move;rfl)|(apply OQ.assign;rfl)) rfl ?_ | refine JC.seq ?_ | refine JC.region ?_ | refine JL.nil ?_ | refine JE.next ?_ | refine JL.aU rfl rfl rfl rfl ?_)
    exact JC.ret (JE.aE rfl (RV.tmp rfl) fun w' hw=>⟨rfl,hw.aS⟩)
  · have hle : 1≤s.length:=by have:=of_decide_eq_true h1;omega
    have hsub : s.length - 1≤s.length:=Nat.sub_le _ _
    cases h2 : decide (s.drop (s.length - 1)=[c])
    all_goals (repeat (first | refine JL.q (by first|(apply OQ.bw;exact Tryz.underlying9;rfl)|(apply OQ.cJ (b:=1);rfl;rfl;exact h1)|(apply OQ.eP (b:=1);rfl;rfl;exact hle;exact hl)|(apply OQ.bH (i:=s.length - 1);exact Tryz.underlying9;rfl;rfl;exact hsub)|(apply OQ.en;rfl;rfl;exact h2)|(apply OQ.az;rfl;rfl)|(apply OQ.move;rfl)|(apply OQ.assign;rfl)) rfl ?_ | refine JC.seq ?_ | refine JC.region ?_ | refine JL.nil ?_ | refine JE.next ?_ | refine JL.aT rfl rfl ?_))
    all_goals exact JC.ret (JE.aE rfl (RV.tmp rfl) fun w' hw=>⟨rfl,hw.aS⟩)
def vI (c : Bt) (s : List Bt) : Value:=if s.getLast?=some c then .tuple #[Z s.dropLast,.bool true] else .tuple #[Z s,.bool false]
theorem u5 (s : List Bt) (c : Bt) (w : World) (hl : s.length<9223372036854775808) : Calls Tryz.prog 218 [Z s,Z [c]].toArray w fun e w'=>e=.returned (vI c s)∧Ext w w':=by
  refine enter (n:=18) Tryz.func218 rfl rfl rfl (aa.start w []) ?_
  have hq:=fun w'=>u0 s c w' hl
  unfold vI
  by_cases h : s.getLast?=some c
  · simp only [h,decide_true,if_true] at hq ⊢
    have hle : 1≤s.length:=by
      cases s with
      | nil=>cases h
      | cons d r=>simp
    have hsub : s.length - 1≤s.length:=Nat.sub_le _ _
    repeat (first | refine JL.q (by first|(apply OQ.ak (vs:=[Z s,Z [c]]);exact mP;rfl;exact (fun w' _=>hq w'))|(apply OQ.not;rfl)|(apply OQ.move;rfl)|(apply OQ.assign;rfl)) rfl ?_ | refine JC.seq ?_ | refine JC.region ?_ | refine JL.nil ?_ | refine JE.next ?_)
    refine JC.cond rfl (fun h=>by cases h) (fun _=>?_)
    repeat (first | refine JL.q (by first|(apply OQ.bw;exact Tryz.underlying9;rfl)|(apply OQ.eP (b:=1);rfl;rfl;exact hle;exact hl)|(apply OQ.cw (j:=s.length - 1);exact Tryz.underlying9;rfl;rfl;exact hsub)|(apply OQ.move;rfl)|(apply OQ.assign;rfl)) rfl ?_ | refine JC.seq ?_ | refine JC.region ?_ | refine JC.skip ?_ | refine JL.nil ?_ | refine JE.next ?_)
    refine JC.ret ?_
    skip
    refine JE.bI rfl (RV.tmp rfl) (RV.tmp rfl) fun w' hw=>⟨?_,hw.aS⟩
    rw [List.dropLast_eq_take]
  · simp only [h,decide_false,if_false] at hq ⊢
    repeat (first | refine JL.q (by first|(apply OQ.ak (vs:=[Z s,Z [c]]);exact mP;rfl;exact (fun w' _=>hq w'))|(apply OQ.not;rfl)|(apply OQ.move;rfl)|(apply OQ.assign;rfl)) rfl ?_ | refine JC.seq ?_ | refine JC.region ?_ | refine JL.nil ?_ | refine JE.next ?_)
    refine JC.cond rfl (fun _=>?_) (fun h=>by cases h)
    repeat (first | refine JL.q (by first|(apply OQ.move;rfl)|(apply OQ.assign;rfl)) rfl ?_ | refine JC.seq ?_ | refine JC.region ?_ | refine JL.nil ?_ | refine JE.next ?_)
    refine JC.ret ?_
    repeat (refine JE.ah ?_)
    exact JE.bI rfl (RV.tmp rfl) (RV.tmp rfl) fun w' hw=>⟨rfl,hw.aS⟩
theorem lg (s : List Bt) (c : Bt) (w : World) (hl : s.length<9223372036854775808) : Calls Tryz.prog 178 [Z s,Z [c]].toArray w fun e w'=>e=.returned (vI c s)∧Ext w w':=by
  refine enter (n:=11) Tryz.func178 rfl rfl rfl (aa.start w []) ?_
  have hq:=fun w'=>u5 s c w' hl
  unfold vI at hq ⊢
  by_cases h : s.getLast?=some c
  · simp only [h,if_true] at hq ⊢
    repeat (first | refine JL.q (by first|(apply OQ.ak (vs:=[Z s,Z [c]]);exact mQ;rfl;exact (fun w' _=>hq w'))|(apply OQ.extract;rfl;rfl)|(apply OQ.move;rfl)|(apply OQ.assign;rfl)) rfl ?_ | refine JC.seq ?_ | refine JC.region ?_ | refine JL.nil ?_ | refine JE.next ?_)
    exact JC.ret (JE.bI rfl (RV.tmp rfl) (RV.tmp rfl) fun w' hw=>⟨rfl,hw.aS⟩)
  · simp only [h,if_false] at hq ⊢
    repeat (first | refine JL.q (by first|(apply OQ.ak (vs:=[Z s,Z [c]]);exact mQ;rfl;exact (fun w' _=>hq w'))|(apply OQ.extract;rfl;rfl)|(apply OQ.move;rfl)|(apply OQ.assign;rfl)) rfl ?_ | refine JC.seq ?_ | refine JC.region ?_ | refine JL.nil ?_ | refine JE.next ?_)
    exact JC.ret (JE.bI rfl (RV.tmp rfl) (RV.tmp rfl) fun w' hw=>⟨rfl,hw.aS⟩)
theorem ou : aK Tryz.prog 219:=⟨_,Tryz.func219,rfl,by kernel_rfl⟩
theorem jt : aK Tryz.prog 179:=⟨_,Tryz.func179,rfl,by kernel_rfl⟩
set_option maxHeartbeats 2000000 in
theorem qC (s : List Bt) (c : Bt) (w : World) (hl : s.length<9223372036854775808) : Calls Tryz.prog 219 [Z s,U8 c].toArray w fun e w'=>e=.returned (I (qp c s))∧Ext w w':=by
  refine enter (n:=19) Tryz.func219 rfl rfl rfl (aa.start w []) ?_
  repeat (first | refine JL.q (by first|(apply OQ.bw;exact Tryz.underlying9;rfl)|(apply OQ.qa (a:=(s.length : Int)) (b:=1);rfl;rfl;exact (by omega);exact (by omega))|(apply OQ.move;rfl)|(apply OQ.assign;rfl)) rfl ?_ | refine JC.seq ?_ | refine JC.region ?_ | refine JC.block ?_ | refine JL.nil ?_ | refine JE.next ?_)
  refine JC.loop (fun i : Int=>[(0,Z s),(1,U8 c),(5,I i)]) (fun _=>[]) (fun i=>(i+1).toNat) (fun i=>-1≤i∧i<s.length∧(la c s : Int)=(s.length : Int) - 1 - i+la c (s.take (i+1).toNat)) ((s.length : Int) - 1) ⟨by omega,by omega,by rw [show ((s.length : Int) - 1+1).toNat=s.length by omega,List.take_length];omega⟩ (by repeat (first | exact af.nil | refine af.cons _ _ _ rfl ?_)) (av.refl _) ?_
  rintro i ⟨h1,h2,h3⟩
  cases g : decide ((0 : Int)≤i)
  · have hi : i=-1:=by have:=of_decide_eq_false g;omega
    subst hi
    have e : qp c s=-1:=by
      unfold qp
      have : la c (s.take ((-1 : Int)+1).toNat)=0:=rfl
      rw [this] at h3
      omega
    rw [e]
    repeat (first | refine JL.q (by first|(apply OQ.cJ (b:=0);rfl;rfl;exact g)|(apply OQ.move;rfl)) rfl ?_ | refine JC.seq ?_ | refine JC.region ?_ | refine JL.nil ?_ | refine JE.next ?_)
    refine JC.cond rfl (fun h=>by cases h) (fun _=>?_)
    repeat (first | refine JL.q (by (apply OQ.assign;rfl)) rfl ?_ | refine JC.seq ?_ | refine JC.region ?_ | refine JC.exit ?_ | refine JL.nil ?_ | refine JE.next ?_ | refine JE.ax ?_ | refine JE.aI ?_)
    refine JC.ret ?_
    exact JE.aE rfl (RV.tmp rfl) fun w' hw=>⟨rfl,hw.aS⟩
  · obtain ⟨k,rfl⟩ : ∃ k : Nat,i=k:=⟨i.toNat,by have:=of_decide_eq_true g;omega⟩
    have hk : k<s.length:=by omega
    have ht : s.take ((k : Int)+1).toNat=s.take k++[s.getD k 0]:=by
      rw [show ((k : Int)+1).toNat=k+1 by omega]
      exact bO s hk
    rw [ht,uO] at h3
    have i0 : ∀ {n : Nat} {E : Env} {C : World→Prop} {dst : Option Tmp} {ty : TypeId} {pos : String} {aft : Array Edge} {g : Option (Nat × Bool)} {x y : Operand},ev E x=some (Z s)→ev E y=some (I k)→OQ Tryz.prog n E C ⟨dst,.index 9 x y,ty,pos,aft,g⟩ (U8 (s.getD k 0)):=fun hx hy=>OQ.jR Tryz.underlying9 hx hy hk
    generalize s.getD k 0=d at h3 i0
    cases g2 : decide (d=c)
    · rw [if_neg (of_decide_eq_false g2)] at h3
      repeat (first | refine JL.q (by first|(apply OQ.cJ (b:=0);rfl;rfl;exact g)|(apply OQ.move;rfl)) rfl ?_ | refine JC.seq ?_ | refine JC.region ?_ | refine JL.nil ?_ | refine JE.next ?_)
      refine JC.cond rfl (fun _=>?_) (fun h=>by cases h)
      repeat (first | refine JL.q (by first|(apply i0;rfl;rfl)|(apply OQ.to;exact (OQ.xZ rfl rfl);exact (congrArg Value.bool g2))|(apply OQ.move;rfl)) rfl ?_ | refine JC.seq ?_ | refine JC.region ?_ | refine JC.block ?_ | refine JC.skip ?_ | refine JL.nil ?_ | refine JE.next ?_)
      refine JC.cond rfl (fun h=>by cases h) (fun _=>?_)
      repeat (first | refine JL.q (by first|(apply OQ.qa (a:=(k : Int)) (b:=1);rfl;rfl;exact (by omega);exact (by omega))|(apply OQ.move;rfl)|(apply OQ.assign;rfl)) rfl ?_ | refine JC.region ?_ | refine JC.skip ?_ | refine JL.nil ?_ | refine JE.next ?_ | refine JE.ai ?_)
      refine JE.again (i:=(k : Int)) ((k : Int) - 1) ⟨by omega,by omega,?_⟩ (by omega) (by repeat (first | exact af.nil | refine af.cons _ _ _ rfl ?_)) (av.refl _)
      rw [show ((k : Int) - 1+1).toNat=k by omega]
      omega
    · rw [if_pos (of_decide_eq_true g2)] at h3
      have e : qp c s=k:=by
        unfold qp
        omega
      rw [e]
      repeat (first | refine JL.q (by first|(apply OQ.cJ (b:=0);rfl;rfl;exact g)|(apply OQ.move;rfl)) rfl ?_ | refine JC.seq ?_ | refine JC.region ?_ | refine JL.nil ?_ | refine JE.next ?_)
      refine JC.cond rfl (fun _=>?_) (fun h=>by cases h)
      repeat (first | refine JL.q (by first|(apply i0;rfl;rfl)|(apply OQ.to;exact (OQ.xZ rfl rfl);exact (congrArg Value.bool g2))|(apply OQ.move;rfl)) rfl ?_ | refine JC.seq ?_ | refine JC.region ?_ | refine JC.block ?_ | refine JC.skip ?_ | refine JL.nil ?_ | refine JE.next ?_)
      refine JC.cond rfl (fun _=>?_) (fun h=>by cases h)
      repeat (first | refine JL.q (by first|(apply OQ.move;rfl)|(apply OQ.assign;rfl)) rfl ?_ | refine JC.seq ?_ | refine JC.region ?_ | refine JL.nil ?_ | refine JE.next ?_)
      refine JC.ret ?_
      repeat (first | refine JE.ah ?_ | refine JE.aZ ?_)
      exact JE.aE rfl (RV.tmp rfl) fun w' hw=>⟨rfl,hw.aS⟩
theorem qD (s : List Bt) (c : Bt) (w : World) (hl : s.length<9223372036854775808) : Calls Tryz.prog 179 [Z s,U8 c].toArray w fun e w'=>e=.returned (I (qp c s))∧Ext w w':=by
  refine enter (n:=8) Tryz.func179 rfl rfl rfl (aa.start w []) ?_
  repeat (first | refine JL.q (by first|(apply OQ.ak (vs:=[Z s,U8 c]);exact ou;rfl;exact (fun w' _=>qC s c w' hl))|(apply OQ.move;rfl)|(apply OQ.assign;rfl)) rfl ?_ | refine JC.seq ?_ | refine JC.region ?_ | refine JL.nil ?_ | refine JE.next ?_)
  exact JC.ret (JE.aE rfl (RV.tmp rfl) fun w' hw=>⟨rfl,hw.aS⟩)
end
section
set_option maxRecDepth 10000
open Sl aA Tok
theorem ju : aK Tryz.prog 112:=⟨_,Tryz.func112,rfl,by kernel_rfl⟩
theorem gB : aK Tryz.prog 113:=⟨_,Tryz.func113,rfl,by kernel_rfl⟩
theorem pG : ∀ c : aA.By,bl c=(decide ((c.toNat : Int)=32) || decide ((c.toNat : Int)=9)):=by
  have h : ∀ c : Fin 256,bl (BitVec.ofNat 8 c.val)=(decide (((BitVec.ofNat 8 c.val).toNat : Int)=32) || decide (((BitVec.ofNat 8 c.val).toNat : Int)=9)):=by decide +kernel
  intro c
  simpa using h ⟨c.toNat,c.isLt⟩
theorem mS : ∀ {v : List aA.By},0<v.length→bl (v.getD 0 0)=true→bB (v.drop 1)=bB v
  | [],h,_=>by simp at h
  | c::r,_,h=>by
    have h' : bl c=true:=h
    show bB r=List.dropWhile bl (c::r)
    rw [List.dropWhile_cons,if_pos h'];rfl
theorem gb : ∀ {v : List aA.By},(0<v.length→bl (v.getD 0 0)=false)→bB v=v
  | [],_=>rfl
  | c::r,h=>by
    have h' : bl c=false:=h (by simp)
    show List.dropWhile bl (c::r)=_
    rw [List.dropWhile_cons,if_neg (by rw [h'];decide)]
theorem rev_last {v : List aA.By} (h : 0<v.length) : v.reverse=v.getD (v.length - 1) 0::(v.take (v.length - 1)).reverse:=by
  have h1:=bO v (i:=v.length - 1) (by omega)
  rw [show v.length - 1+1=v.length by omega,List.take_length] at h1
  conv=>lhs;rw [h1]
  simp
theorem sS {v : List aA.By} (h : 0<v.length) (hb : bl (v.getD (v.length - 1) 0)=true) : bB (v.take (v.length - 1)).reverse=bB v.reverse:=by
  rw [rev_last h]
  exact mS (v:=_::_) (by simp) hb
theorem jv {v : List aA.By} (h : 0<v.length→bl (v.getD (v.length - 1) 0)=false) : bB v.reverse=v.reverse:=
  gb fun h0=>by
    rw [List.length_reverse] at h0
    rw [rev_last h0]
    exact h h0
theorem eB (s : List aA.By) : (trim s).length≤s.length:=by
  have h : ∀ l : List aA.By,(bB l).length≤l.length:=fun l=>(List.dropWhile_sublist _).length_le
  have h1:=h s
  have h2:=h (bB s).reverse
  simp only [trim,List.length_reverse] at h2 ⊢
  omega
set_option maxHeartbeats 16000000 in
theorem kn (s : List aA.By) (w : World) (hl : s.length<9223372036854775808) : Calls Tryz.prog 112 [Z s].toArray w fun e w'=>e=.returned (Z (trim s))∧Ext w w':=by
  refine enter (n:=43) Tryz.func112 rfl rfl rfl (aa.start w []) ?_
  repeat (first | refine JL.q (by (apply OQ.assign;rfl)) rfl ?_ | refine JC.seq ?_ | refine JC.region ?_ | refine JC.block ?_ | refine JL.nil ?_ | refine JE.next ?_)
  refine JC.aG (ι:=Unit) (fun _=>[(0,Z (bB s))]) (fun _=>[]) (fun _=>True) ?_ ?_
  · refine JC.loop (fun v : List aA.By=>[(0,Z v)]) (fun _=>[]) (fun v=>v.length) (fun v=>v.length≤s.length∧bB v=bB s) s ⟨Nat.le_refl _,rfl⟩ (by repeat (first | exact af.nil | refine af.cons _ _ _ rfl ?_)) (av.refl _) ?_
    rintro v ⟨hv,ht⟩
    cases h0 : decide ((0 : Int)<(v.length : Int))
    case true=>
      have hp : 0<v.length:=by have:=of_decide_eq_true h0;omega
      have hidx:=fun {n : Nat} {E : Env} {C : World→Prop} {dst : Option Tmp} {ty : TypeId} {pos : String} {aft : Array Edge} {g : Option (Nat × Bool)} {x y : Operand}=>bY hp (n:=n) (E:=E) (C:=C) (dst:=dst) (ty:=ty) (pos:=pos) (aft:=aft) (g:=g) (x:=x) (y:=y)
      have hgo:=mS hp
      have hst:=gb (v:=v)
      have hb:=pG (v.getD 0 0)
      generalize v.getD 0 0=c at hidx hgo hst hb
      cases h1 : decide ((c.toNat : Int)=32) <;> cases h2 : decide ((c.toNat : Int)=9)
      all_goals (
        rw [h1,h2] at hb
        (repeat (first | refine JL.q (by first|(apply OQ.bw;exact Tryz.underlying9;rfl)|(apply OQ.eW (b:=0);rfl;rfl;exact h0)|(apply hidx;rfl;rfl)|(apply OQ.gH (b:=32);rfl;rfl;exact h1)|(apply OQ.gH (b:=9);rfl;rfl;exact h2)|(apply OQ.az;rfl;rfl)|(apply OQ.aB;rfl;rfl)|(apply OQ.move;rfl)) rfl ?_ | refine JC.seq ?_ | refine JC.region ?_ | refine JL.nil ?_ | refine JE.next ?_ | refine JL.aT rfl rfl ?_ | refine JL.aU rfl rfl rfl rfl ?_))
        refine JC.cond rfl (fun h=>?_) (fun h=>?_)
        all_goals first|(exfalso;revert h;decide) | skip
        all_goals clear h)
      case false.false=>
        rw [← ht,hst fun _=>hb]
        (repeat (first | refine JC.exit ?_ | refine JE.ax ?_ | refine JE.aI ?_))
        exact JE.mid () trivial (by repeat (first | exact af.nil | refine af.cons _ _ _ rfl ?_)) (av.refl _)
      all_goals (
        (repeat (first | refine JL.q (by first|(apply OQ.bH (i:=1);exact Tryz.underlying9;rfl;rfl;exact (by omega))|(apply OQ.move;rfl)|(apply OQ.assign;rfl)) rfl ?_ | refine JC.region ?_ | refine JC.block ?_ | refine JC.skip ?_ | refine JL.nil ?_ | refine JE.next ?_ | refine JE.ai ?_))
        refine JE.again (i:=v) (v.drop 1) ⟨by rw [List.length_drop];omega,by rw [hgo hb,ht]⟩ (by rw [List.length_drop];omega) (by repeat (first | exact af.nil | refine af.cons _ _ _ rfl ?_)) (av.refl _))
    case false=>
      have hn : ¬ 0<v.length:=by have:=of_decide_eq_false h0;omega
      rw [← ht,gb fun h=>absurd h hn]
      repeat (first | refine JL.q (by first|(apply OQ.bw;exact Tryz.underlying9;rfl)|(apply OQ.eW (b:=0);rfl;rfl;exact h0)|(apply OQ.aB;rfl;rfl)|(apply OQ.move;rfl)) rfl ?_ | refine JC.seq ?_ | refine JC.region ?_ | refine JL.nil ?_ | refine JE.next ?_ | refine JL.aU rfl rfl rfl rfl ?_ | refine JL.iT rfl rfl rfl rfl ?_)
      refine JC.cond rfl (fun h=>by cases h) (fun h=>?_)
      repeat (first | refine JC.exit ?_ | refine JE.ax ?_ | refine JE.aI ?_)
      exact JE.mid () trivial (by repeat (first | exact af.nil | refine af.cons _ _ _ rfl ?_)) (av.refl _)
  rintro ⟨⟩ _
  have hs1 : (bB s).length≤s.length:=(List.dropWhile_sublist _).length_le
  rw [show trim s=(bB (bB s).reverse).reverse from rfl]
  generalize bB s=u at hs1 ⊢
  repeat (first | refine JC.seq ?_ | refine JC.block ?_)
  refine JC.aG (ι:=Unit) (fun _=>[(0,Z (bB u.reverse).reverse)]) (fun _=>[]) (fun _=>True) ?_ ?_
  · refine JC.loop (fun v : List aA.By=>[(0,Z v)]) (fun _=>[]) (fun v=>v.length) (fun v=>v.length≤s.length∧bB v.reverse=bB u.reverse) u ⟨hs1,rfl⟩ (by repeat (first | exact af.nil | refine af.cons _ _ _ rfl ?_)) (av.refl _) ?_
    rintro v ⟨hv,ht⟩
    cases h0 : decide ((0 : Int)<(v.length : Int))
    case true=>
      have hp : 0<v.length:=by have:=of_decide_eq_true h0;omega
      have hidx:=fun {n : Nat} {E : Env} {C : World→Prop} {dst : Option Tmp} {ty : TypeId} {pos : String} {aft : Array Edge} {g : Option (Nat × Bool)} {x y : Operand}=>bY (s:=v) (i:=v.length - 1) (by omega) (n:=n) (E:=E) (C:=C) (dst:=dst) (ty:=ty) (pos:=pos) (aft:=aft) (g:=g) (x:=x) (y:=y)
      have hgo:=sS hp
      have hst:=jv (v:=v)
      have hb:=pG (v.getD (v.length - 1) 0)
      generalize v.getD (v.length - 1) 0=c at hidx hgo hst hb
      cases h1 : decide ((c.toNat : Int)=32) <;> cases h2 : decide ((c.toNat : Int)=9)
      all_goals (
        rw [h1,h2] at hb
        (repeat (first | refine JL.q (by first|(apply OQ.bw;exact Tryz.underlying9;rfl)|(apply OQ.eW (b:=0);rfl;rfl;exact h0)|(apply hidx;rfl;rfl)|(apply OQ.gH (b:=32);rfl;rfl;exact h1)|(apply OQ.gH (b:=9);rfl;rfl;exact h2)|(apply OQ.az;rfl;rfl)|(apply OQ.aB;rfl;rfl)|(apply OQ.move;rfl)|(apply OQ.eP;rfl;rfl;exact (by (try simp only []);omega);exact (by (try simp only []);omega))) rfl ?_ | refine JC.seq ?_ | refine JC.region ?_ | refine JL.nil ?_ | refine JE.next ?_ | refine JL.aT rfl rfl ?_ | refine JL.aU rfl rfl rfl rfl ?_))
        refine JC.cond rfl (fun h=>?_) (fun h=>?_)
        all_goals first|(exfalso;revert h;decide) | skip
        all_goals clear h)
      case false.false=>
        rw [← ht,hst fun _=>hb,List.reverse_reverse]
        (repeat (first | refine JC.exit ?_ | refine JE.ax ?_ | refine JE.aI ?_))
        exact JE.mid () trivial (by repeat (first | exact af.nil | refine af.cons _ _ _ rfl ?_)) (av.refl _)
      all_goals (
        (repeat (first | refine JL.q (by first|(apply OQ.bw;exact Tryz.underlying9;rfl)|(apply OQ.cw (j:=v.length - 1);exact Tryz.underlying9;rfl;rfl;exact (by omega))|(apply OQ.move;rfl)|(apply OQ.assign;rfl)|(apply OQ.eP;rfl;rfl;exact (by (try simp only []);omega);exact (by (try simp only []);omega))) rfl ?_ | refine JC.region ?_ | refine JC.block ?_ | refine JC.skip ?_ | refine JL.nil ?_ | refine JE.next ?_ | refine JE.ai ?_))
        refine JE.again (i:=v) (v.take (v.length - 1)) ⟨by rw [List.length_take];omega,by rw [hgo hb,ht]⟩ (by rw [List.length_take];omega) (by repeat (first | exact af.nil | refine af.cons _ _ _ rfl ?_)) (av.refl _))
    case false=>
      have hn : ¬ 0<v.length:=by have:=of_decide_eq_false h0;omega
      rw [← ht,jv fun h=>absurd h hn,List.reverse_reverse]
      repeat (first | refine JL.q (by first|(apply OQ.bw;exact Tryz.underlying9;rfl)|(apply OQ.eW (b:=0);rfl;rfl;exact h0)|(apply OQ.aB;rfl;rfl)|(apply OQ.move;rfl)) rfl ?_ | refine JC.seq ?_ | refine JC.region ?_ | refine JL.nil ?_ | refine JE.next ?_ | refine JL.aU rfl rfl rfl rfl ?_ | refine JL.iT rfl rfl rfl rfl ?_)
      refine JC.cond rfl (fun h=>by cases h) (fun h=>?_)
      repeat (first | refine JC.exit ?_ | refine JE.ax ?_ | refine JE.aI ?_)
      exact JE.mid () trivial (by repeat (first | exact af.nil | refine af.cons _ _ _ rfl ?_)) (av.refl _)
  rintro ⟨⟩ _
  repeat (first | refine JL.q (by first|(apply OQ.move;rfl)|(apply OQ.assign;rfl)) rfl ?_ | refine JC.seq ?_ | refine JC.region ?_ | refine JL.nil ?_ | refine JE.next ?_)
  refine JC.ret ?_
  skip
  exact JE.aE rfl (RV.tmp rfl) fun w' hw=>⟨rfl,hw.aS⟩
theorem xD (c : aA.By) : decide ((c.toNat : Int)=46)=decide (c=46):=by
  have h:=gX 46 c
  rw [show (((46 : aA.By).toNat : Nat) : Int)=46 from rfl] at h
  rw [h];rfl
theorem fH {s : List aA.By} {i : Nat} (h : i<s.length) : s.drop i=s.getD i 0::s.drop (i+1):=by
  rw [List.drop_eq_getElem_cons h,List.getD_eq_getElem?_getD,List.getElem?_eq_getElem h];rfl
set_option maxHeartbeats 16000000 in
theorem iu (s : List aA.By) (w : World) (hl : s.length<9223372036854775808) : Calls Tryz.prog 113 [Z s].toArray w fun e w'=>e=.returned (.bool (cK s))∧Ext w w':=by
  refine enter (n:=37) Tryz.func113 rfl rfl rfl (aa.start w []) ?_
  repeat (first | refine JL.q (by (apply OQ.assign;rfl)) rfl ?_ | refine JC.seq ?_ | refine JC.region ?_ | refine JC.block ?_ | refine JL.nil ?_ | refine JE.next ?_)
  refine JC.loop (fun q : Nat × aA.By=>[(0,Z s),(3,U8 q.2),(4,N q.1)]) (fun _=>[]) (fun q=>s.length - q.1) (fun q=>q.1≤s.length∧cK s=iY (s.drop q.1) q.2) (0,46) ⟨Nat.zero_le _,rfl⟩ (by repeat (first | exact af.nil | refine af.cons _ _ _ rfl ?_)) (av.refl _) ?_
  rintro ⟨i,l⟩ ⟨hi,ha⟩
  simp only at hi ha
  dsimp only
  have hl4:=xD l
  repeat (first | refine JL.q (by first|(apply OQ.bw;exact Tryz.underlying9;rfl)|(apply OQ.move;rfl)|(apply OQ.dV;rfl;rfl)) rfl ?_ | refine JC.seq ?_ | refine JC.region ?_ | refine JL.nil ?_ | refine JE.next ?_)
  refine JC.cond rfl (fun h=>?_) (fun h=>?_)
  · have hi' : i<s.length:=of_decide_eq_true h
    clear h hi
    rw [fH hi'] at ha
    have hidx:=fun {n : Nat} {E : Env} {C : World→Prop} {dst : Option Tmp} {ty : TypeId} {pos : String} {aft : Array Edge} {g : Option (Nat × Bool)} {x y : Operand}=>bY hi' (n:=n) (E:=E) (C:=C) (dst:=dst) (ty:=ty) (pos:=pos) (aft:=aft) (g:=g) (x:=x) (y:=y)
    have cP:=fun w'=>om (s.getD i 0) w'
    generalize s.getD i 0=c at hidx cP ha
    have hc4:=xD c
    unfold iY at ha
    generalize cO c=x at cP ha
    cases h1 : decide ((c.toNat : Int)=46) <;> cases h2 : decide ((l.toNat : Int)=46) <;> cases h3 : x
    all_goals (
      subst h3
      rw [h1] at hc4
      rw [h2] at hl4
      have hc:=hc4.symm
      have hl:=hl4.symm
      simp only [decide_eq_true_eq,decide_eq_false_iff_not] at hc hl
      simp only [hc,hl,true_and,and_true,false_and,and_false,or_false,false_or,not_true,not_false_eq_true,if_true,if_false,reduceCtorEq] at ha
      (repeat (first | refine JL.q (by first|(apply hidx;rfl;rfl)|(apply OQ.gH (b:=46);rfl;rfl;exact h1)|(apply OQ.gH (b:=46);rfl;rfl;exact h2)|(apply OQ.nG (b:=46);rfl;rfl;exact h1)|(apply OQ.o4 (vs:=[U8 c]);exact mF;rfl;exact cP;rfl)|(apply OQ.not;rfl)|(apply OQ.az;rfl;rfl)|(apply OQ.aB;rfl;rfl)|(apply OQ.move;rfl)) rfl ?_ | refine JC.seq ?_ | refine JC.region ?_ | refine JC.block ?_ | refine JC.skip ?_ | refine JL.nil ?_ | refine JE.next ?_ | refine JL.aT rfl rfl ?_ | refine JL.aU rfl rfl rfl rfl ?_ | refine JL.iT rfl rfl rfl rfl ?_))
      refine JC.cond rfl (fun h=>?_) (fun h=>?_)
      all_goals first|(exfalso;revert h;decide) | skip
      all_goals clear h)
    all_goals first
      | (rw [ha]
         (repeat (first | refine JL.q (by first|(apply OQ.move;rfl)|(apply OQ.assign;rfl)) rfl ?_ | refine JC.seq ?_ | refine JC.region ?_ | refine JC.skip ?_ | refine JL.nil ?_ | refine JE.next ?_))
         refine JC.ret ?_
         (repeat (first | refine JE.ah ?_ | refine JE.aZ ?_))
         exact JE.aE rfl (RV.tmp rfl) fun w' hw=>⟨rfl,hw.aS⟩)
      | ((repeat (first | refine JL.q (by first|(apply hidx;rfl;rfl)|(apply OQ.move;rfl)|(apply OQ.assign;rfl)|(apply OQ.bh;rfl;rfl;exact (by (try simp only []);omega))) rfl ?_ | refine JC.region ?_ | refine JC.skip ?_ | refine JL.nil ?_ | refine JE.next ?_ | refine JE.ai ?_))
         exact JE.again (i:=(i,l)) (i+1,c) ⟨hi',by show cK s=iY (s.drop (i+1)) c;first | exact ha|(rw [hc];exact ha)⟩ (by show s.length - (i+1)<s.length - i;omega) (by repeat (first | exact af.nil | refine af.cons _ _ _ rfl ?_)) (av.refl _))
  · have hi' : ¬ i<s.length:=of_decide_eq_false h
    obtain rfl : i=s.length:=by omega
    clear h hi hi'
    rw [List.drop_length] at ha
    have he : (l == 46)=decide ((l.toNat : Int)=46):=(gX 46 l).symm
    rw [ha,iY,he]
    cases h1 : decide ((l.toNat : Int)=46)
    all_goals (repeat (first | refine JL.q (by first|(apply OQ.nG (b:=46);rfl;rfl;exact h1)|(apply OQ.move;rfl)|(apply OQ.assign;rfl)) rfl ?_ | refine JC.seq ?_ | refine JC.region ?_ | refine JC.exit ?_ | refine JL.nil ?_ | refine JE.next ?_ | refine JE.ax ?_ | refine JE.aI ?_))
    all_goals refine JC.ret ?_
    all_goals exact JE.aE rfl (RV.tmp rfl) fun w' hw=>⟨rfl,hw.aS⟩
theorem sU (c : aA.By) : ∀ (s : List aA.By) {i : Nat},i<s.length→(s.take i).all (fun d=>!(d == c))=true→(s.getD i 0 == c)=true→fst c s=i
  | [],i,h,_,_=>by simp at h
  | d::r,0,_,_,h=>by
    have h' : (d == c)=true:=h
    unfold fst
    rw [List.takeWhile_cons,if_neg (by rw [h'];decide)];rfl
  | d::r,i+1,hi,ha,h=>by
    rw [List.take_succ_cons,List.all_cons,Bool.and_eq_true] at ha
    have:=sU c r (i:=i) (by simpa using hi) ha.2 h
    unfold fst at this ⊢
    rw [List.takeWhile_cons,if_pos ha.1,List.length_cons,this]
theorem pH (c : aA.By) : ∀ s : List aA.By,s.all (fun d=>!(d == c))=true→fst c s=s.length
  | [],_=>rfl
  | d::r,h=>by
    rw [List.all_cons,Bool.and_eq_true] at h
    have:=pH c r h.2
    unfold fst at this ⊢
    rw [List.takeWhile_cons,if_pos h.1,List.length_cons,this,List.length_cons]
theorem wB (c : aA.By) (s : List aA.By) : fst c s≤s.length:=(List.takeWhile_sublist _).length_le
theorem eqc (c : aA.By) (k : aA.By) : (c == k)=decide ((c.toNat : Int)=(k.toNat : Int)):=(gX k c).symm
end
section
set_option maxRecDepth 10000
open Sl aA Tok
theorem bC : aK Tryz.prog 181:=⟨_,Tryz.func181,rfl,by kernel_rfl⟩
theorem gd : aK Tryz.prog 146:=⟨_,Tryz.func146,rfl,by kernel_rfl⟩
theorem vJ : e6 Tryz.prog 9=some 1:=by kernel_rfl
theorem pI : ∀ (s : List aA.By) (l : aA.By),iY s l=((!(l == 46) || !((dO 46 s).headD []).isEmpty) && (((dO 46 s).headD []).all cO && (dO 46 s).tail.all eJ))
  | [],l=>by simp [iY,dO]
  | c::r,l=>by
    have ih:=pI r
    have hne:=ot 46 r
    rw [iY]
    obtain ⟨x,L,hx⟩ : ∃ x L,dO 46 r=x::L:=by
      cases h : dO 46 r with
      | nil=>exact absurd h hne
      | cons x L=>exact ⟨x,L,rfl⟩
    by_cases hc : c=46
    · subst hc
      rw [dO,if_pos rfl]
      simp only [ih,hx,List.headD_cons,List.tail_cons,List.all_cons,List.all_nil]
      by_cases hl : l=46
      · subst hl
        simp
      · rw [if_neg (by rintro (⟨_,h⟩ | ⟨h,_⟩);exact hl h;exact h trivial)]
        have : (l == 46)=false:=beq_eq_false_iff_ne.2 hl
        rw [this]
        simp only [eJ,Bool.not_false,Bool.true_or,Bool.true_and,beq_self_eq_true,Bool.not_true,Bool.false_or]
        cases x with
        | nil=>simp
        | cons d x=>simp [Bool.and_assoc]
    · rw [dO,if_neg hc,hx]
      simp only [ih,hx,List.headD_cons,List.tail_cons,List.all_cons]
      have hb : (c == 46)=false:=beq_eq_false_iff_ne.2 hc
      rw [hb]
      cases hp : cO c with
      | false=>
        rw [if_pos (.inr ⟨hc,rfl⟩)]
        simp
      | true=>
        rw [if_neg (by rintro (⟨h,_⟩ | ⟨_,h⟩);exact hc h;cases h)]
        simp
theorem u6 (s : List aA.By) : cK s=(dO 46 s).all eJ:=by
  unfold cK
  rw [pI]
  cases h : dO 46 s with
  | nil=>exact absurd h (ot 46 s)
  | cons x L=>
    rw [List.headD_cons,List.tail_cons,List.all_cons,eJ]
    cases x with
    | nil=>simp
    | cons d x=>simp [Bool.and_assoc]
theorem pJ (c : aA.By) : ∀ s : List aA.By,(dO c s).length≤s.length+1∧∀ x ∈ dO c s,x.length≤s.length
  | []=>by simp [dO]
  | d::r=>by
    obtain ⟨h1,h2⟩:=pJ c r
    rw [dO]
    split
    · refine ⟨by simp only [List.length_cons];omega,fun x hx=>?_⟩
      rcases List.mem_cons.1 hx with rfl | hx
      · simp
      · have:=h2 x hx
        simp only [List.length_cons]
        omega
    · cases h : dO c r with
      | nil=>exact absurd h (ot c r)
      | cons y L=>
        rw [h] at h1 h2
        refine ⟨by simpa using Nat.le_succ_of_le h1,fun x hx=>?_⟩
        rcases List.mem_cons.1 hx with rfl | hx
        · have:=h2 y (by simp)
          simpa using this
        · have:=h2 x (by simp [hx])
          simp only [List.length_cons]
          omega
set_option maxHeartbeats 8000000 in
theorem eC (s : List Bt) (w : World) (hl : s.length<4294967281) : Calls Tryz.prog 181 [Z s].toArray w fun e w'=>e=.returned (.bool (cK s))∧Ext w w':=by
  refine enter (n:=16) Tryz.func181 rfl rfl rfl (aa.start w []) ?_
  rw [u6]
  obtain ⟨h1,h2⟩:=pJ 46 s
  repeat (first | refine JL.q (by first|(apply OQ.move;rfl)|(apply OQ.assign;rfl)) rfl ?_ | refine JC.seq ?_ | refine JC.region ?_ | refine JL.nil ?_ | refine JE.next ?_)
  refine JL.dD (ι:=Nat) (vs:=[Z s,Z [46]]) (fun b=>.slice (some ⟨b,0,none⟩) (dO 46 s).length (dO 46 s).length) (fun b=>[⟨b,Row 9 ((dO 46 s).map Z),true⟩]) qB rfl rfl (fun b e he=>by rw [List.mem_singleton.1 he]) (fun w' _=>sR s 46 w' hl) fun b=>?_
  generalize dO 46 s=L at h1 h2
  repeat (first | refine JL.q (by first|(apply OQ.len;exact Tryz.underlying30;rfl)|(apply OQ.move;rfl)) rfl ?_ | refine JC.block ?_ | refine JL.nil ?_ | refine JE.next ?_)
  refine JC.loop (fun i : Nat=>[(6,.slice (some ⟨b,0,none⟩) L.length L.length),(7,N L.length),(8,N i)]) (fun _=>[⟨b,Row 9 (L.map Z),true⟩]) (fun i=>L.length - i) (fun i=>i≤L.length∧(L.take i).all eJ=true) 0 ⟨Nat.zero_le _,by simp⟩ (by repeat (first | exact af.nil | refine af.cons _ _ _ rfl ?_)) (av.refl _) ?_
  rintro i ⟨hi,ha⟩
  repeat (first | refine JL.q (by (apply OQ.dV;rfl;rfl)) rfl ?_ | refine JC.seq ?_ | refine JC.region ?_ | refine JL.nil ?_ | refine JE.next ?_)
  refine JC.cond rfl (fun h=>?_) (fun h=>?_)
  · have hi' : i<L.length:=of_decide_eq_true h
    clear h hi
    have hx : L.getD i [] ∈ L:=by
      rw [List.getD_eq_getElem?_getD,List.getElem?_eq_getElem hi']
      exact List.getElem_mem hi'
    have hxl:=h2 _ hx
    have hv : (L.map Z)[i]?=some (Z (L.getD i [])):=dU Z [] hi'
    have cA:=fun w'=>qy (L.getD i []) w' (by omega)
    have hall:=l9 eJ L [] hi'
    have hbad:=uG eJ L [] hi'
    rw [ha,Bool.true_and] at hall
    generalize L.getD i []=x at hv cA hall hbad
    cases hat : eJ x
    · rw [hat] at cA
      rw [hbad hat]
      repeat (first | refine JL.q (by first|(apply OQ.vq;exact Tryz.underlying30;exact vJ;rfl;rfl;exact hi')|(apply OQ.load;exact sJ;rfl;exact .here;exact (Row.cell hv))|(apply OQ.ak (vs:=[Z x]);exact jn;rfl;exact (fun w' _=>cA w'))|(apply OQ.not;rfl)|(apply OQ.move;rfl)|(apply OQ.assign;rfl)) rfl ?_ | refine JC.seq ?_ | refine JC.region ?_ | refine JC.block ?_ | refine JC.skip ?_ | refine JL.nil ?_ | refine JE.next ?_)
      refine JC.cond rfl (fun _=>?_) (fun h=>by cases h)
      repeat (first | refine JL.q (by (apply OQ.assign;rfl)) rfl ?_ | refine JC.seq ?_ | refine JC.region ?_ | refine JL.nil ?_ | refine JE.next ?_)
      refine JC.ret ?_
      repeat (first | refine JE.ah ?_ | refine JE.aZ ?_)
      exact JE.aE rfl (RV.tmp rfl) fun w' hw=>⟨rfl,hw.aS⟩
    · rw [hat] at cA hall
      repeat (first | refine JL.q (by first|(apply OQ.vq;exact Tryz.underlying30;exact vJ;rfl;rfl;exact hi')|(apply OQ.load;exact sJ;rfl;exact .here;exact (Row.cell hv))|(apply OQ.ak (vs:=[Z x]);exact jn;rfl;exact (fun w' _=>cA w'))|(apply OQ.not;rfl)|(apply OQ.move;rfl)|(apply OQ.assign;rfl)) rfl ?_ | refine JC.seq ?_ | refine JC.region ?_ | refine JC.block ?_ | refine JC.skip ?_ | refine JL.nil ?_ | refine JE.next ?_)
      refine JC.cond rfl (fun h=>by cases h) (fun _=>?_)
      repeat (first | refine JL.q (by first|(apply OQ.move;rfl)|(apply OQ.bh;rfl;rfl;exact (by (try simp only []);omega))) rfl ?_ | refine JC.region ?_ | refine JC.skip ?_ | refine JL.nil ?_ | refine JE.next ?_ | refine JE.ai ?_)
      exact JE.again (i:=i) (i+1) ⟨hi',hall⟩ (by omega) (by repeat (first | exact af.nil | refine af.cons _ _ _ rfl ?_)) (av.refl _)
  · have hi' : ¬ i<L.length:=of_decide_eq_false h
    obtain rfl : i=L.length:=by omega
    rw [List.take_length] at ha
    rw [ha]
    repeat (first | refine JL.q (by (apply OQ.assign;rfl)) rfl ?_ | refine JC.seq ?_ | refine JC.region ?_ | refine JC.exit ?_ | refine JL.nil ?_ | refine JE.next ?_ | refine JE.ax ?_ | refine JE.aI ?_)
    refine JC.ret ?_
    exact JE.aE rfl (RV.tmp rfl) fun w' hw=>⟨rfl,hw.aS⟩
theorem qE {c : aA.By} (h : cO c=true) : c.toNat<128:=by
  simp only [cO,Bool.and_eq_true,decide_eq_true_eq] at h
  omega
theorem jw : ∀ (s : List aA.By) (l : aA.By),iY s l=true→∀ c ∈ s,c.toNat<128
  | [],_,_,_,hc=>by cases hc
  | c::r,l,h,d,hd=>by
    rw [iY] at h
    split at h
    · cases h
    · next hn=>
      rcases List.mem_cons.1 hd with rfl | hd
      · by_cases e : d=46
        · subst e;decide
        · cases hp : cO d with
          | true=>exact qE hp
          | false=>exact absurd (.inr ⟨e,hp⟩) hn
      · exact jw r c h d hd
theorem wC (s : List aA.By) : wU s=s.drop (s.length - la 60 s):=by
  unfold wU la
  have h:=List.takeWhile_append_dropWhile (p:=fun d=>!(d == (60 : aA.By))) (l:=s.reverse)
  generalize s.reverse.takeWhile (fun d=>!(d == (60 : aA.By)))=a at h ⊢
  generalize s.reverse.dropWhile (fun d=>!(d == (60 : aA.By)))=b at h
  have hs : s=b.reverse++a.reverse:=by rw [← List.reverse_append,h,List.reverse_reverse]
  rw [hs,List.length_append,List.length_reverse,List.length_reverse,Nat.add_sub_cancel,List.drop_append_of_le_length (by simp),List.drop_of_length_le (by simp),List.nil_append]
theorem sV (s : List aA.By) : iZ s=if s.getLast?=some 62 then (if 60 ∈ s.dropLast then dh (trim (s.dropLast.drop (s.dropLast.length - la 60 s.dropLast))) else ([],3)) else dh s:=by
  unfold iZ
  by_cases h : s.getLast?=some 62
  · obtain ⟨a,rfl⟩:=List.getLast?_eq_some_iff.1 h
    rw [if_pos ⟨by simp,by simp⟩,if_pos h,List.dropLast_concat,wC]
    congr 1
    simp
  · rw [if_neg h,if_neg]
    rintro ⟨h1,h2⟩
    refine h ?_
    rw [List.getLast?_eq_getElem?,List.getElem?_eq_getElem (by omega)]
    rw [List.getD_eq_getElem?_getD,List.getElem?_eq_getElem (by omega)] at h2
    exact congrArg some h2
theorem mT (s : List aA.By) : dh s=if fi 64 s<s.length∧cK (s.take (fi 64 s))=true∧cK (s.drop (fi 64 s+1))=true then (s.take (fi 64 s)++[64]++(s.drop (fi 64 s+1)).map small,0) else ([],3):=by
  have hf : fst 64 s=fi 64 s:=rfl
  unfold dh
  rw [hf]
  have h1:=mw 64 s
  by_cases h : fi 64 s<s.length
  · have ht : s.take (fi 64 s+1)=s.take (fi 64 s)++[64]:=by
      rw [List.take_add_one,List.getElem?_eq_getElem h,Option.toList_some]
      congr 2
      have:=sA 64 s h
      rw [List.getD_eq_getElem?_getD,List.getElem?_eq_getElem h] at this
      exact this
    cases d1 : cK (s.take (fi 64 s)) <;> cases d2 : cK (s.drop (fi 64 s+1))
    · rw [if_pos (.inr (.inl rfl)),if_neg (fun k=>by cases k.2.1)]
    · rw [if_pos (.inr (.inl rfl)),if_neg (fun k=>by cases k.2.1)]
    · rw [if_pos (.inr (.inr rfl)),if_neg (fun k=>by cases k.2.2)]
    · rw [if_neg (by rintro (k | k | k);omega;cases k;cases k),if_pos ⟨h,rfl,rfl⟩,ht]
  · rw [if_pos (.inl (by omega)),if_neg (fun k=>h k.1)]
set_option maxHeartbeats 32000000 in
theorem qF (s : List Bt) (w : World) (hl : s.length<1000000) : Calls Tryz.prog 146 [Z s].toArray w fun e w'=>e=.returned (.tuple #[Z (b6 s).1,N (b6 s).2])∧Ext w w':=by
  refine enter (n:=61) Tryz.func146 rfl rfl rfl (aa.start w []) ?_
  have cB:=fun w'=>qz s w' (by omega)
  have hbl:=j4 s
  unfold b6
  generalize (c8 s).1=x at cB hbl ⊢
  generalize (c8 s).2=k at cB ⊢
  cases hk : decide ((k : Int)=0)
  · rw [if_neg (by have:=of_decide_eq_false hk;omega)]
    repeat (first | refine JL.q (by first|(apply OQ.ak (vs:=[Z s]);exact jo;rfl;exact (fun w' _=>cB w'))|(apply OQ.extract;rfl;rfl)|(apply OQ.nG (b:=0);rfl;rfl;exact hk)|(apply OQ.move;rfl)|(apply OQ.assign;rfl)) rfl ?_ | refine JC.seq ?_ | refine JC.region ?_ | refine JL.nil ?_ | refine JE.next ?_)
    refine JC.cond rfl (fun _=>?_) (fun h=>by cases h)
    repeat (first | refine JL.q (by first|(apply OQ.move;rfl)|(apply OQ.assign;rfl)) rfl ?_ | refine JC.seq ?_ | refine JC.region ?_ | refine JL.nil ?_ | refine JE.next ?_)
    refine JC.ret ?_
    repeat (refine JE.ah ?_)
    refine JE.bI rfl (RV.tmp rfl) (RV.tmp rfl) ?_
    exact fun w' hw=>⟨rfl,hw.aS⟩
  rw [if_pos (by have:=of_decide_eq_true hk;omega)]
  have cT:=fun w'=>j7 x w' (by omega)
  have htl:=eB x
  generalize trim x=t at cT htl ⊢
  have cS:=fun w'=>lg t 62 w' (by omega)
  have hT:=sV t
  unfold vI at cS
  repeat (first | refine JL.q (by first|(apply OQ.ak (vs:=[Z s]);exact jo;rfl;exact (fun w' _=>cB w'))|(apply OQ.extract;rfl;rfl)|(apply OQ.nG (b:=0);rfl;rfl;exact hk)|(apply OQ.move;rfl)|(apply OQ.assign;rfl)) rfl ?_ | refine JC.seq ?_ | refine JC.region ?_ | refine JL.nil ?_ | refine JE.next ?_)
  refine JC.cond rfl (fun h=>by cases h) (fun _=>?_)
  by_cases hg : t.getLast?=some 62
  · rw [if_pos hg] at hT cS
    have hal : t.dropLast.length≤t.length:=by rw [List.length_dropLast];omega
    generalize t.dropLast=a at hT cS hal
    have cL:=fun w'=>qD a 60 w' (by omega)
    have hla:=xu 60 a
    have hla2:=xq 60 a
    repeat (first | refine JL.q (by first|(apply OQ.ak (vs:=[Z x,Z [32,9]]);exact ga;rfl;exact (fun w' _=>cT w'))|(apply OQ.ak (vs:=[Z t,Z [62]]);exact mR;rfl;exact (fun w' _=>cS w'))|(apply OQ.extract;rfl;rfl)|(apply OQ.move;rfl)|(apply OQ.assign;rfl)) rfl ?_ | refine JC.seq ?_ | refine JC.region ?_ | refine JC.skip ?_ | refine JL.nil ?_ | refine JE.next ?_)
    refine JC.join (ι:=List Bt) (fun y=>[(6,Z y)]) (fun _=>[]) (fun y=>iZ t=dh y∧y.length<1000000) ?_ ?_
    · refine JC.cond rfl (fun _=>?_) (fun h=>by cases h)
      cases hm : decide (qp 60 a<0)
      · have hm' : ¬ qp 60 a<0:=of_decide_eq_false hm
        have hmem : 60 ∈ a:=hla.1 (by unfold qp at hm';omega)
        rw [if_pos hmem] at hT
        obtain ⟨p,hp⟩ : ∃ p,p+1=a.length - la 60 a:=⟨a.length - la 60 a - 1,by have:=hla.2 hmem;omega⟩
        have hix : qp 60 a=(p : Int):=by unfold qp;omega
        have hpl : p+1≤a.length:=by omega
        rw [← hp] at hT
        rw [hix] at cL hm
        have hdl : (a.drop (p+1)).length≤a.length:=by rw [List.length_drop];omega
        have cT2:=fun w'=>j7 (a.drop (p+1)) w' (by omega)
        have htl2:=eB (a.drop (p+1))
        generalize trim (a.drop (p+1))=y at hT cT2 htl2
        repeat (first | refine JL.q (by first|(apply OQ.ak (vs:=[Z a,U8 60]);exact jt;rfl;exact (fun w' _=>cL w'))|(apply OQ.cU (b:=0);rfl;rfl;exact hm)|(apply OQ.move;rfl)|(apply OQ.assign;rfl)) rfl ?_ | refine JC.seq ?_ | refine JC.region ?_ | refine JL.nil ?_ | refine JE.next ?_)
        refine JC.cond rfl (fun h=>by cases h) (fun _=>?_)
        repeat (first | refine JL.q (by first|(apply OQ.bH;exact Tryz.underlying9;rfl;rfl;exact hpl)|(apply OQ.ak (vs:=[Z (a.drop (p+1)),Z [32,9]]);exact ga;rfl;exact (fun w' _=>cT2 w'))|(apply OQ.move;rfl)|(apply OQ.assign;rfl)|(apply OQ.bh;rfl;rfl;exact (by (try simp only []);omega))) rfl ?_ | refine JC.region ?_ | refine JC.skip ?_ | refine JL.nil ?_ | refine JE.next ?_)
        exact JE.mid y ⟨hT,by omega⟩ (by repeat (first | exact af.nil | refine af.cons _ _ _ rfl ?_)) (av.refl _)
      · have hm' : qp 60 a<0:=of_decide_eq_true hm
        have hmem : ¬ 60 ∈ a:=fun h=>by have:=hla.2 h;unfold qp at hm';omega
        rw [if_neg hmem] at hT
        rw [hT]
        repeat (first | refine JL.q (by first|(apply OQ.ak (vs:=[Z a,U8 60]);exact jt;rfl;exact (fun w' _=>cL w'))|(apply OQ.cU (b:=0);rfl;rfl;exact hm)|(apply OQ.move;rfl)|(apply OQ.assign;rfl)) rfl ?_ | refine JC.seq ?_ | refine JC.region ?_ | refine JL.nil ?_ | refine JE.next ?_)
        refine JC.cond rfl (fun _=>?_) (fun h=>by cases h)
        repeat (first | refine JL.q (by (apply OQ.assign;rfl)) rfl ?_ | refine JC.seq ?_ | refine JC.region ?_ | refine JL.nil ?_ | refine JE.next ?_)
        refine JC.ret ?_
        repeat (refine JE.ah ?_)
        exact JE.bI rfl (RV.tmp rfl) (RV.tmp rfl) fun w' hw=>⟨rfl,hw.aS⟩
    · rintro y ⟨hy,hyl⟩
      rw [hy]
      have cC:=fun w'=>mC y 64 w' (by omega)
      have hfl:=mw 64 y
      have hS:=mT y
      unfold cutV at cC
      by_cases hf : fi 64 y<y.length
      · rw [if_pos hf] at cC
        have hwl : (y.take (fi 64 y)).length≤y.length:=by rw [List.length_take];omega
        have hdl : (y.drop (fi 64 y+1)).length≤y.length:=by rw [List.length_drop];omega
        have hlow:=jw (y.drop (fi 64 y+1)) 46
        replace hlow : cK (y.drop (fi 64 y+1))=true→∀ c ∈ y.drop (fi 64 y+1),c.toNat<128:=hlow
        replace hS : dh y=if cK (y.take (fi 64 y))=true∧cK (y.drop (fi 64 y+1))=true then (y.take (fi 64 y)++[64]++(y.drop (fi 64 y+1)).map small,0) else ([],3):=by
          rw [hS]
          by_cases h : cK (y.take (fi 64 y))=true∧cK (y.drop (fi 64 y+1))=true
          · rw [if_pos ⟨hf,h⟩,if_pos h]
          · rw [if_neg (fun k=>h k.2),if_neg h]
        generalize y.take (fi 64 y)=who at cC hS hwl
        generalize y.drop (fi 64 y+1)=whe at cC hS hdl hlow
        have c1:=fun w'=>eC who w' (by omega)
        have c2:=fun w'=>eC whe w' (by omega)
        cases d1 : cK who
        · rw [d1] at c1
          rw [hS,if_neg (fun k=>by rw [d1] at k;cases k.1)]
          repeat (first | refine JL.q (by first|(apply OQ.ak (vs:=[Z y,Z [64]]);exact cE;rfl;exact (fun w' _=>cC w'))|(apply OQ.extract;rfl;rfl)|(apply OQ.not;rfl)|(apply OQ.az;rfl;rfl)|(apply OQ.aB;rfl;rfl)|(apply OQ.ak (vs:=[Z who]);exact bC;rfl;exact (fun w' _=>c1 w'))|(apply OQ.move;rfl)|(apply OQ.assign;rfl)) rfl ?_ | refine JC.seq ?_ | refine JC.region ?_ | refine JL.nil ?_ | refine JE.next ?_ | refine JL.aT rfl rfl ?_ | refine JL.aU rfl rfl rfl rfl ?_)
          refine JC.cond rfl (fun _=>?_) (fun h=>by cases h)
          repeat (first | refine JL.q (by (apply OQ.assign;rfl)) rfl ?_ | refine JC.seq ?_ | refine JC.region ?_ | refine JL.nil ?_ | refine JE.next ?_)
          refine JC.ret ?_
          repeat (refine JE.ah ?_)
          exact JE.bI rfl (RV.tmp rfl) (RV.tmp rfl) fun w' hw=>⟨rfl,hw.aS⟩
        · cases d2 : cK whe
          · rw [d1] at c1
            rw [d2] at c2
            rw [hS,if_neg (fun k=>by rw [d2] at k;cases k.2)]
            repeat (first | refine JL.q (by first|(apply OQ.ak (vs:=[Z y,Z [64]]);exact cE;rfl;exact (fun w' _=>cC w'))|(apply OQ.extract;rfl;rfl)|(apply OQ.not;rfl)|(apply OQ.aB;rfl;rfl)|(apply OQ.ak (vs:=[Z who]);exact bC;rfl;exact (fun w' _=>c1 w'))|(apply OQ.ak (vs:=[Z whe]);exact bC;rfl;exact (fun w' _=>c2 w'))|(apply OQ.move;rfl)|(apply OQ.assign;rfl)) rfl ?_ | refine JC.seq ?_ | refine JC.region ?_ | refine JL.nil ?_ | refine JE.next ?_ | refine JL.aT rfl rfl ?_)
            refine JC.cond rfl (fun _=>?_) (fun h=>by cases h)
            repeat (first | refine JL.q (by (apply OQ.assign;rfl)) rfl ?_ | refine JC.seq ?_ | refine JC.region ?_ | refine JL.nil ?_ | refine JE.next ?_)
            refine JC.ret ?_
            repeat (refine JE.ah ?_)
            exact JE.bI rfl (RV.tmp rfl) (RV.tmp rfl) fun w' hw=>⟨rfl,hw.aS⟩
          · rw [hS,if_pos ⟨d1,d2⟩]
            rw [d1] at c1
            rw [d2] at c2
            have cL:=fun w'=>ki whe w' (by omega) (hlow d2)
            repeat (first | refine JL.q (by first|(apply OQ.ak (vs:=[Z y,Z [64]]);exact cE;rfl;exact (fun w' _=>cC w'))|(apply OQ.extract;rfl;rfl)|(apply OQ.not;rfl)|(apply OQ.aB;rfl;rfl)|(apply OQ.ak (vs:=[Z who]);exact bC;rfl;exact (fun w' _=>c1 w'))|(apply OQ.ak (vs:=[Z whe]);exact bC;rfl;exact (fun w' _=>c2 w'))|(apply OQ.move;rfl)|(apply OQ.assign;rfl)) rfl ?_ | refine JC.seq ?_ | refine JC.region ?_ | refine JL.nil ?_ | refine JE.next ?_ | refine JL.aT rfl rfl ?_)
            refine JC.cond rfl (fun h=>by cases h) (fun _=>?_)
            repeat (first | refine JL.q (by first|(apply OQ.kN (l:=who) (r:=[64]);rfl;rfl;exact (by rw [List.length_singleton];omega))|(apply OQ.ak (vs:=[Z whe]);exact js;rfl;exact (fun w' _=>cL w'))|(apply OQ.kN (l:=who++[64]) (r:=whe.map small);rfl;rfl;exact (by rw [List.length_append,List.length_map,List.length_singleton];omega))|(apply OQ.move;rfl)|(apply OQ.assign;rfl)) rfl ?_ | refine JC.seq ?_ | refine JC.region ?_ | refine JC.skip ?_ | refine JL.nil ?_ | refine JE.next ?_)
            refine JC.ret ?_
            exact JE.bI rfl (RV.tmp rfl) (RV.tmp rfl) fun w' hw=>⟨rfl,hw.aS⟩
      · rw [if_neg hf] at cC
        rw [hS,if_neg (fun k=>hf k.1)]
        repeat (first | refine JL.q (by first|(apply OQ.ak (vs:=[Z y,Z [64]]);exact cE;rfl;exact (fun w' _=>cC w'))|(apply OQ.extract;rfl;rfl)|(apply OQ.not;rfl)|(apply OQ.az;rfl;rfl)|(apply OQ.move;rfl)|(apply OQ.assign;rfl)) rfl ?_ | refine JC.seq ?_ | refine JC.region ?_ | refine JL.nil ?_ | refine JE.next ?_ | refine JL.aU rfl rfl rfl rfl ?_)
        refine JC.cond rfl (fun _=>?_) (fun h=>by cases h)
        repeat (first | refine JL.q (by (apply OQ.assign;rfl)) rfl ?_ | refine JC.seq ?_ | refine JC.region ?_ | refine JL.nil ?_ | refine JE.next ?_)
        refine JC.ret ?_
        repeat (refine JE.ah ?_)
        exact JE.bI rfl (RV.tmp rfl) (RV.tmp rfl) fun w' hw=>⟨rfl,hw.aS⟩
  · rw [if_neg hg] at hT cS
    repeat (first | refine JL.q (by first|(apply OQ.ak (vs:=[Z x,Z [32,9]]);exact ga;rfl;exact (fun w' _=>cT w'))|(apply OQ.ak (vs:=[Z t,Z [62]]);exact mR;rfl;exact (fun w' _=>cS w'))|(apply OQ.extract;rfl;rfl)|(apply OQ.move;rfl)|(apply OQ.assign;rfl)) rfl ?_ | refine JC.seq ?_ | refine JC.region ?_ | refine JC.skip ?_ | refine JL.nil ?_ | refine JE.next ?_)
    refine JC.join (ι:=List Bt) (fun y=>[(6,Z y)]) (fun _=>[]) (fun y=>iZ t=dh y∧y.length<1000000) ?_ ?_
    · refine JC.cond rfl (fun h=>by cases h) (fun _=>?_)
      repeat (refine JC.skip ?_)
      exact JE.mid t ⟨hT,by omega⟩ (by repeat (first | exact af.nil | refine af.cons _ _ _ rfl ?_)) (av.refl _)
    · rintro y ⟨hy,hyl⟩
      rw [hy]
      have cC:=fun w'=>mC y 64 w' (by omega)
      have hfl:=mw 64 y
      have hS:=mT y
      unfold cutV at cC
      by_cases hf : fi 64 y<y.length
      · rw [if_pos hf] at cC
        have hwl : (y.take (fi 64 y)).length≤y.length:=by rw [List.length_take];omega
        have hdl : (y.drop (fi 64 y+1)).length≤y.length:=by rw [List.length_drop];omega
        have hlow:=jw (y.drop (fi 64 y+1)) 46
        replace hlow : cK (y.drop (fi 64 y+1))=true→∀ c ∈ y.drop (fi 64 y+1),c.toNat<128:=hlow
        replace hS : dh y=if cK (y.take (fi 64 y))=true∧cK (y.drop (fi 64 y+1))=true then (y.take (fi 64 y)++[64]++(y.drop (fi 64 y+1)).map small,0) else ([],3):=by
          rw [hS]
          by_cases h : cK (y.take (fi 64 y))=true∧cK (y.drop (fi 64 y+1))=true
          · rw [if_pos ⟨hf,h⟩,if_pos h]
          · rw [if_neg (fun k=>h k.2),if_neg h]
        generalize y.take (fi 64 y)=who at cC hS hwl
        generalize y.drop (fi 64 y+1)=whe at cC hS hdl hlow
        have c1:=fun w'=>eC who w' (by omega)
        have c2:=fun w'=>eC whe w' (by omega)
        cases d1 : cK who
        · rw [d1] at c1
          rw [hS,if_neg (fun k=>by rw [d1] at k;cases k.1)]
          repeat (first | refine JL.q (by first|(apply OQ.ak (vs:=[Z y,Z [64]]);exact cE;rfl;exact (fun w' _=>cC w'))|(apply OQ.extract;rfl;rfl)|(apply OQ.not;rfl)|(apply OQ.az;rfl;rfl)|(apply OQ.aB;rfl;rfl)|(apply OQ.ak (vs:=[Z who]);exact bC;rfl;exact (fun w' _=>c1 w'))|(apply OQ.move;rfl)|(apply OQ.assign;rfl)) rfl ?_ | refine JC.seq ?_ | refine JC.region ?_ | refine JL.nil ?_ | refine JE.next ?_ | refine JL.aT rfl rfl ?_ | refine JL.aU rfl rfl rfl rfl ?_)
          refine JC.cond rfl (fun _=>?_) (fun h=>by cases h)
          repeat (first | refine JL.q (by (apply OQ.assign;rfl)) rfl ?_ | refine JC.seq ?_ | refine JC.region ?_ | refine JL.nil ?_ | refine JE.next ?_)
          refine JC.ret ?_
          repeat (refine JE.ah ?_)
          exact JE.bI rfl (RV.tmp rfl) (RV.tmp rfl) fun w' hw=>⟨rfl,hw.aS⟩
        · cases d2 : cK whe
          · rw [d1] at c1
            rw [d2] at c2
            rw [hS,if_neg (fun k=>by rw [d2] at k;cases k.2)]
            repeat (first | refine JL.q (by first|(apply OQ.ak (vs:=[Z y,Z [64]]);exact cE;rfl;exact (fun w' _=>cC w'))|(apply OQ.extract;rfl;rfl)|(apply OQ.not;rfl)|(apply OQ.aB;rfl;rfl)|(apply OQ.ak (vs:=[Z who]);exact bC;rfl;exact (fun w' _=>c1 w'))|(apply OQ.ak (vs:=[Z whe]);exact bC;rfl;exact (fun w' _=>c2 w'))|(apply OQ.move;rfl)|(apply OQ.assign;rfl)) rfl ?_ | refine JC.seq ?_ | refine JC.region ?_ | refine JL.nil ?_ | refine JE.next ?_ | refine JL.aT rfl rfl ?_)
            refine JC.cond rfl (fun _=>?_) (fun h=>by cases h)
            repeat (first | refine JL.q (by (apply OQ.assign;rfl)) rfl ?_ | refine JC.seq ?_ | refine JC.region ?_ | refine JL.nil ?_ | refine JE.next ?_)
            refine JC.ret ?_
            repeat (refine JE.ah ?_)
            exact JE.bI rfl (RV.tmp rfl) (RV.tmp rfl) fun w' hw=>⟨rfl,hw.aS⟩
          · rw [hS,if_pos ⟨d1,d2⟩]
            rw [d1] at c1
            rw [d2] at c2
            have cL:=fun w'=>ki whe w' (by omega) (hlow d2)
            repeat (first | refine JL.q (by first|(apply OQ.ak (vs:=[Z y,Z [64]]);exact cE;rfl;exact (fun w' _=>cC w'))|(apply OQ.extract;rfl;rfl)|(apply OQ.not;rfl)|(apply OQ.aB;rfl;rfl)|(apply OQ.ak (vs:=[Z who]);exact bC;rfl;exact (fun w' _=>c1 w'))|(apply OQ.ak (vs:=[Z whe]);exact bC;rfl;exact (fun w' _=>c2 w'))|(apply OQ.move;rfl)|(apply OQ.assign;rfl)) rfl ?_ | refine JC.seq ?_ | refine JC.region ?_ | refine JL.nil ?_ | refine JE.next ?_ | refine JL.aT rfl rfl ?_)
            refine JC.cond rfl (fun h=>by cases h) (fun _=>?_)
            repeat (first | refine JL.q (by first|(apply OQ.kN (l:=who) (r:=[64]);rfl;rfl;exact (by rw [List.length_singleton];omega))|(apply OQ.ak (vs:=[Z whe]);exact js;rfl;exact (fun w' _=>cL w'))|(apply OQ.kN (l:=who++[64]) (r:=whe.map small);rfl;rfl;exact (by rw [List.length_append,List.length_map,List.length_singleton];omega))|(apply OQ.move;rfl)|(apply OQ.assign;rfl)) rfl ?_ | refine JC.seq ?_ | refine JC.region ?_ | refine JC.skip ?_ | refine JL.nil ?_ | refine JE.next ?_)
            refine JC.ret ?_
            exact JE.bI rfl (RV.tmp rfl) (RV.tmp rfl) fun w' hw=>⟨rfl,hw.aS⟩
      · rw [if_neg hf] at cC
        rw [hS,if_neg (fun k=>hf k.1)]
        repeat (first | refine JL.q (by first|(apply OQ.ak (vs:=[Z y,Z [64]]);exact cE;rfl;exact (fun w' _=>cC w'))|(apply OQ.extract;rfl;rfl)|(apply OQ.not;rfl)|(apply OQ.az;rfl;rfl)|(apply OQ.move;rfl)|(apply OQ.assign;rfl)) rfl ?_ | refine JC.seq ?_ | refine JC.region ?_ | refine JL.nil ?_ | refine JE.next ?_ | refine JL.aU rfl rfl rfl rfl ?_)
        refine JC.cond rfl (fun _=>?_) (fun h=>by cases h)
        repeat (first | refine JL.q (by (apply OQ.assign;rfl)) rfl ?_ | refine JC.seq ?_ | refine JC.region ?_ | refine JL.nil ?_ | refine JE.next ?_)
        refine JC.ret ?_
        repeat (refine JE.ah ?_)
        exact JE.bI rfl (RV.tmp rfl) (RV.tmp rfl) fun w' hw=>⟨rfl,hw.aS⟩
end
section
set_option maxRecDepth 10000
open Sl
theorem qG : aK Tryz.prog 193:=⟨_,Tryz.func193,rfl,by kernel_rfl⟩
set_option maxHeartbeats 2000000 in
theorem sW (s d : List Bt) (w : World) : Calls Tryz.prog 193 [Z s,Z d].toArray w fun e w'=>e=.returned (.bool (decide (s.take d.length=d)))∧Ext w w':=by
  refine enter (n:=18) Tryz.func193 rfl rfl rfl (aa.start w []) ?_
  cases h1 : decide ((d.length : Int)≤(s.length : Int))
  · have hF : decide (s.take d.length=d)=false:=decide_eq_false fun e=>by
      have:=congrArg List.length e
      rw [List.length_take] at this
      have:=of_decide_eq_false h1
      omega
    rw [hF]
    repeat (first | refine JL.q (by first|(apply OQ.bw;exact Tryz.underlying9;rfl)|(apply OQ.cJ (b:=(d.length : Int));rfl;rfl;exact h1)|(apply OQ.aB;rfl;rfl)|(apply OQ.move;rfl)|(apply OQ.assign;rfl)) rfl ?_ | refine JC.seq ?_ | refine JC.region ?_ | refine JL.nil ?_ | refine JE.next ?_ | refine JL.aU rfl rfl rfl rfl ?_)
    exact JC.ret (JE.aE rfl (RV.tmp rfl) fun w' hw=>⟨rfl,hw.aS⟩)
  · have hle : d.length≤s.length:=by have:=of_decide_eq_true h1;omega
    cases h2 : decide (s.take d.length=d)
    all_goals (repeat (first | refine JL.q (by first|(apply OQ.bw;exact Tryz.underlying9;rfl)|(apply OQ.cJ (b:=(d.length : Int));rfl;rfl;exact h1)|(apply OQ.cw (j:=d.length);exact Tryz.underlying9;rfl;rfl;exact hle)|(apply OQ.en;rfl;rfl;exact h2)|(apply OQ.az;rfl;rfl)|(apply OQ.move;rfl)|(apply OQ.assign;rfl)) rfl ?_ | refine JC.seq ?_ | refine JC.region ?_ | refine JL.nil ?_ | refine JE.next ?_ | refine JL.aT rfl rfl ?_))
    all_goals exact JC.ret (JE.aE rfl (RV.tmp rfl) fun w' hw=>⟨rfl,hw.aS⟩)
theorem sX (s d : List Bt) (w : World) : Calls Tryz.prog 159 [Z s,Z d].toArray w fun e w'=>e=.returned (.bool (decide (s.take d.length=d)))∧Ext w w':=by
  refine enter (n:=8) Tryz.func159 rfl rfl rfl (aa.start w []) ?_
  have hq:=fun w'=>sW s d w'
  repeat (first | refine JL.q (by first|(apply OQ.ak (vs:=[Z s,Z d]);exact qG;rfl;exact (fun w' _=>hq w'))|(apply OQ.move;rfl)|(apply OQ.assign;rfl)) rfl ?_ | refine JC.seq ?_ | refine JC.region ?_ | refine JL.nil ?_ | refine JE.next ?_)
  exact JC.ret (JE.aE rfl (RV.tmp rfl) fun w' hw=>⟨rfl,hw.aS⟩)
end
end Go.Proofs.YtjeeilmkjjbonaaGreatDoor
