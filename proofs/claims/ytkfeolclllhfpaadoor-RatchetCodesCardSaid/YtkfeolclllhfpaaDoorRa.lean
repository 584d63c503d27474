/-
  Of no statement by itself: the texts DskP, JrnP, NumP, Sl, Slb, Slc, Slw, Slx, Sly, Slz, Slu, Slg, Slh, Slt, Slk, Slj, Slm, Slo, Sli, Slv, Slq, Slr, Sls, Slp, Slac, Typ, Prs, Prz, Slap, Slsu, Slfv, Slwi in one.
  Conditions: each theorem's own.
-/
import Init
import Derived.Deep.Quiet
import Derived.StillTail
import Derived.Below
import Derived.KernelRfl
import Derived.Tactics2
import Derived.Laws.Cells
import Derived.Laws.CopyRow
import Derived.Laws.Rows
import Derived.Laws.AppendOwn
import Derived.Stop.BytesEq
import Derived.Laws.StructEq
import Derived.Lib.ConvBytes
import Derived.Laws.MakeOwn
import Derived.Great.FillDense
import Derived.Laws.Externs
import Derived.Laws.BytesString
import Derived.Deep.AppendSrc
import Derived.Test.YtkfeolclllhfpaaDoorProg
import Derived.Laws.Slices
import Derived.Laws.Strings2
import Derived.ScopeJumps
import Derived.Lib.Overlaps
set_option linter.unusedSimpArgs false
set_option linter.unusedVariables false
namespace Go.Proofs.YtkfeolclllhfpaaDoor
section
namespace iZ
abbrev Bk:=List (BitVec 8)
structure Dk where
  bl : List Bk
  pd : List (Nat × Bk)
structure Ok (bl : List Bk) (pd : List (Nat × Bk)) : Prop where
  b : ∀ x ∈ bl,x.length=64
  p : ∀ x ∈ pd,x.1<bl.length∧x.2.length=64
def zero : Bk:=List.replicate 64 0
def Fy (n : Nat) : List Bk:=List.replicate n zero
def old (bl : List Bk) (n : Nat) : Bk:=bl.getD n []
def nth (pd : List (Nat × Bk)) (i : Nat) : Nat × Bk:=pd.getD i (0,[])
def wrote (bl : List Bk) (pd : List (Nat × Bk)) (n : Nat) : List (Nat × Bk):=pd++[(n,old bl n)]
def step (s : List Bk × List (Nat × Bk)) (i : Nat) : List Bk × List (Nat × Bk):=
  (s.1.set (nth s.2 i).1 (nth s.2 i).2,s.2.set i ((nth s.2 i).1,old s.1 (nth s.2 i).1))
def run (s : List Bk × List (Nat × Bk)) (l : List Nat) : List Bk × List (Nat × Bk):=l.foldl step s
def down (m : Nat) : List Nat:=(List.range m).reverse
def pick (picks : List (BitVec 8)) (i : Nat) : BitVec 8:=if picks=[] then 0 else picks.getD (i % picks.length) 0
def part (bl : List Bk) (w : Nat × Bk) (n : Nat) : List Bk:=bl.set w.1 (w.2.take n++(old bl w.1).drop n)
theorem Ap {pd : List (Nat × Bk)} {i : Nat} (h : i<pd.length) : nth pd i ∈ pd:=by
  unfold nth
  rw [List.getD_eq_getElem?_getD,List.getElem?_eq_getElem h]
  exact List.getElem_mem _
theorem Aq {bl : List Bk} {i : Nat} (h : i<bl.length) : old bl i ∈ bl:=by
  unfold old
  rw [List.getD_eq_getElem?_getD,List.getElem?_eq_getElem h]
  exact List.getElem_mem _
theorem mem_set {α : Type} {l : List α} {i : Nat} {a x : α} (h : x ∈ l.set i a) : x ∈ l∨x=a:=List.mem_or_eq_of_mem_set h
theorem Ok.new (n : Nat) : Ok (Fy n) []:=⟨fun x hx=>by rw [List.eq_of_mem_replicate hx];rfl,by simp⟩
theorem Ok.old {bl : List Bk} {pd : List (Nat × Bk)} (h : Ok bl pd) {n : Nat} (hn : n<bl.length) : (old bl n).length=64:=h.b _ (Aq hn)
theorem Ok.write {bl : List Bk} {pd : List (Nat × Bk)} (h : Ok bl pd) {n : Nat} {b : Bk} (hn : n<bl.length) (hb : b.length=64) : Ok (bl.set n b) (wrote bl pd n):=by
  refine ⟨fun x hx=>?_,fun x hx=>?_⟩
  · rcases mem_set hx with hx | rfl
    · exact h.b x hx
    · exact hb
  · rw [List.length_set]
    rcases List.mem_append.1 hx with hx | hx
    · exact h.p x hx
    · obtain rfl:=List.mem_singleton.1 hx
      exact ⟨hn,h.old hn⟩
theorem Ok.step {s : List Bk × List (Nat × Bk)} (h : Ok s.1 s.2) {i : Nat} (hi : i<s.2.length) : Ok (step s i).1 (step s i).2:=by
  have h1:=h.p _ (Ap hi)
  refine ⟨fun x hx=>?_,fun x hx=>?_⟩
  · rcases mem_set hx with hx | rfl
    · exact h.b x hx
    · exact h1.2
  · show _<(s.1.set _ _).length∧_
    rw [List.length_set]
    rcases mem_set hx with hx | rfl
    · exact h.p x hx
    · exact ⟨h1.1,h.old h1.1⟩
theorem xC (bl : List Bk) (w : Nat × Bk) (n : Nat) : (part bl w n).length=bl.length:=by simp [part]
theorem Ok.part {bl : List Bk} {ws : List (Nat × Bk)} (h : Ok bl ws) {w : Nat × Bk} (hw : w ∈ ws) {n : Nat} (hn : n≤64) : Ok (part bl w n) ws:=by
  obtain ⟨h1,h2⟩:=h.p w hw
  refine ⟨fun x hx=>?_,fun x hx=>by rw [xC];exact h.p x hx⟩
  rcases mem_set hx with hx | rfl
  · exact h.b x hx
  · have:=h.old h1
    simp only [List.length_append,List.length_take,List.length_drop]
    omega
theorem cn {pd : List (Nat × Bk)} {i j : Nat} {x : Nat × Bk} (h : i<pd.length) : nth (pd.set i x) j=if i=j then x else nth pd j:=by
  unfold nth
  simp only [List.getD_eq_getElem?_getD,List.getElem?_set]
  split
  · next e=>subst e;simp [h]
  · rfl
end iZ
end
section
namespace fF
open iZ
abbrev Mk:=BitVec 32 × BitVec 32 × BitVec 16 × Bool
def uY (l : Bk) : BitVec 32:=l.foldl (fun (n : BitVec 32) (c : BitVec 8)=>(n <<< 8) ||| c.setWidth 32) 0
def bP (l : Bk) : Nat:=l.foldl (fun (n : Nat) (c : BitVec 8)=>256 * n+c.toNat) 0
def be (n : BitVec 32) (size : Nat) : Bk:=(List.range size).map fun i=>(n >>> (8 * (size - 1 - i))).setWidth 8
def uZ (b : Bk) : BitVec 16:=(uY ((b.drop 8).take 2)).setWidth 16
def kO (b : Bk) : Mk:=(uY (b.take 4),uY ((b.drop 4).take 4),uZ b % 32768#16,decide (32768≤(uZ b).toNat))
def kP (m : Mk) : BitVec 32:=if m.2.2.2 then m.2.2.1.setWidth 32+32768#32 else m.2.2.1.setWidth 32
def mb (m : Mk) : Bk:=be m.1 4++be m.2.1 4++be (kP m) 2
def Ar (m : Mk) (part : Bk) : Bk:=mb m++be (BitVec.ofNat 32 part.length) 2++part++List.replicate (42 - part.length) 0++mb m
def cnt (b : Bk) : Nat:=(uY ((b.drop 10).take 2)).toNat
def Cs (b : Bk) : Bool:=decide (kO b=kO (b.drop 54)) && (decide (cnt b≤42) && (decide (cnt b=42) || (kO b).2.2.2))
def partOf (b : Bk) : Bk:=(b.drop 12).take (cnt b)
theorem Gx (n : BitVec 32) : bP (be n 4)=n.toNat:=by
  have h:=n.isLt
  have e : be n 4=[(n >>> 24).setWidth 8,(n >>> 16).setWidth 8,(n >>> 8).setWidth 8,(n >>> 0).setWidth 8]:=rfl
  rw [e]
  simp only [bP,List.foldl_cons,List.foldl_nil,BitVec.toNat_setWidth,BitVec.toNat_ushiftRight,Nat.shiftRight_eq_div_pow]
  omega
def nb (n : Nat) : Nat:=max 1 (n / 42+min 1 (n % 42))
def G1 (g : BitVec 32) (r : Nat) (n i : Nat) : Mk:=(g,BitVec.ofNat 32 r,BitVec.ofNat 16 i,decide (i+1=n))
def chunk (rec : Bk) (i : Nat) : Bk:=(rec.drop (i * 42)).take 42
def dw (g : BitVec 32) (r : Nat) (rec : Bk) (i : Nat) : Bk:=Ar (G1 g r (nb rec.length) i) (chunk rec i)
def rd (g : BitVec 32) (r : Nat) : List Bk→Nat→Bk→Option (Bk × Nat)
  | [],_,_=>none
  | b::bs,p,acc=>if Cs b=true∧kO b=(g,BitVec.ofNat 32 r,BitVec.ofNat 16 p,(kO b).2.2.2) then
      (if (kO b).2.2.2 then some (acc++partOf b,p+1) else rd g r bs (p+1) (acc++partOf b)) else none
def BT (g : BitVec 32) : Nat→List Bk→Nat→List Bk
  | 0,_,_=>[]
  | f+1,bs,n=>match rd g n bs 0 [] with
    | some (rec,k)=>rec::BT g f (bs.drop k) (n+1)
    | none=>[]
def told (g : BitVec 32) (bs : List Bk) : List Bk:=BT g (bs.length+1) bs 0
theorem e6 {rec : Bk} (i : Nat) : (chunk rec i).length=min 42 (rec.length - i * 42):=by simp [chunk]
def room (recs : List Bk) : Nat:=(recs.map fun r=>nb r.length).sum
end fF
end
section
namespace fF
open iZ
def mZ (l : Bk) : BitVec 64:=l.foldl (fun (n : BitVec 64) (c : BitVec 8)=>(n <<< 8) ||| c.setWidth 64) 0
def gu (n : BitVec 64) (size : Nat) : Bk:=(List.range size).map fun i=>(n >>> (8 * (size - 1 - i))).setWidth 8
theorem jM (n : BitVec 64) (s : Nat) : (gu n s).length=s:=by simp [gu]
theorem tc {n : BitVec 64} {c : BitVec 8} (h : n.toNat<72057594037927936) : ((n <<< 8) ||| c.setWidth 64).toNat=256 * n.toNat+c.toNat:=by
  rw [BitVec.toNat_or,BitVec.toNat_shiftLeft,BitVec.toNat_setWidth]
  have hc:=c.isLt
  rw [Nat.mod_eq_of_lt (by omega : c.toNat<2 ^ 64),Nat.shiftLeft_eq,Nat.mod_eq_of_lt (by omega)]
  have:=Nat.two_pow_add_eq_or_of_lt (i:=8) (b:=c.toNat) hc n.toNat
  rw [Nat.mul_comm n.toNat (2 ^ 8),← this]
theorem gP : ∀ (l : Bk) (n : BitVec 64) (k : Nat),n.toNat<256 ^ k→k+l.length≤8→(l.foldl (fun (n : BitVec 64) (c : BitVec 8)=>(n <<< 8) ||| c.setWidth 64) n).toNat=l.foldl (fun (n : Nat) (c : BitVec 8)=>256 * n+c.toNat) n.toNat∧l.foldl (fun (n : Nat) (c : BitVec 8)=>256 * n+c.toNat) n.toNat<256 ^ (k+l.length)
  | [],n,k,h,_=>⟨rfl,h⟩
  | c::l,n,k,h,hl=>by
    simp only [List.length_cons] at hl
    have hk : 256 ^ k≤256 ^ 7:=Nat.pow_le_pow_right (by decide) (by omega)
    have hs:=tc (n:=n) (c:=c) (by omega)
    have hc:=c.isLt
    have hlt : ((n <<< 8) ||| c.setWidth 64).toNat<256 ^ (k+1):=by rw [hs,Nat.pow_succ];omega
    have ih:=gP l _ (k+1) hlt (by omega)
    simp only [List.foldl_cons]
    rw [hs] at ih
    refine ⟨ih.1,?_⟩
    have:=ih.2
    simp only [List.length_cons]
    rwa [show k+(l.length+1)=k+1+l.length by omega]
theorem l9 {l : Bk} (h : l.length≤8) : (mZ l).toNat=bP l:=(gP l 0 0 (by decide) (by omega)).1
theorem qR {l : Bk} (h : l.length≤8) : bP l<256 ^ l.length:=by
  have:=(gP l 0 0 (by decide) (by omega)).2
  rwa [Nat.zero_add] at this
end fF
end
section
namespace Sl
abbrev Env:=List (Nat × Value)
def lk : Env→Nat→Option Value
  | [],_=>none
  | (d,v)::E,t=>cond (Nat.beq d t) (some v) (lk E t)
structure bD (n : Nat) (E : Env) (a : Act) : Prop where
  size : a.tmps.size=n
  defers : a.defers=[]
  all : ∀ t v,lk E t=some v→a.tmps.getD t undef=v
theorem bD.put {n : Nat} {E : Env} {a : Act} (h : bD n E a) (d : Nat) (v : Value) (hd : Nat.blt d n=true) : bD n ((d,v)::E) (a.put (some d) v):=by
  have hd' : d<n:=by simpa using hd
  refine ⟨by simp [Act.put,h.size],h.defers,fun t u hu=>?_⟩
  simp only [lk] at hu
  by_cases e : d=t
  · subst e
    simp at hu
    subst hu
    simp [Act.put,h.size,hd']
  · have : Nat.beq d t=false:=Bool.eq_false_iff.2 fun h=>e (Nat.eq_of_beq_eq_true h)
    rw [this] at hu
    have:=h.all t u hu
    simpa [Act.put,Array.getElem?_setIfInBounds,e] using this
theorem bD.m5 {n : Nat} {E : Env} {a : Act} (h : bD n E a) (v : Value) : bD n E (a.put none v):=h
inductive aj (E : Env) : Env→Prop where
  | nil : aj E []
  | cons (d : Nat) (v : Value) (E' : Env) : lk E d=some v→aj E E'→aj E ((d,v)::E')
theorem aj.all {E E' : Env} (h : aj E E') : ∀ p ∈ E',lk E p.1=some p.2:=by
  induction h with
  | nil=>simp
  | cons d v E' h _ ih=>
    intro p hp
    simp only [List.mem_cons] at hp
    rcases hp with rfl | hp
    · exact h
    · exact ih p hp
theorem bD.sub {n : Nat} {E E' : Env} {a : Act} (h : bD n E a) (hs' : aj E E') : bD n E' a:=by
  have hs:=hs'.all
  clear hs'
  refine ⟨h.size,h.defers,fun t u hu=>h.all t u ?_⟩
  induction E' with
  | nil=>simp [lk] at hu
  | cons p E' ih=>
    simp only [lk] at hu
    by_cases e : p.1=t
    · subst e
      simp at hu
      subst hu
      exact hs p (by simp)
    · have : Nat.beq p.1 t=false:=Bool.eq_false_iff.2 fun h=>e (Nat.eq_of_beq_eq_true h)
      rw [this] at hu
      exact ih (fun q hq=>hs q (by simp [hq])) hu
def ev (E : Env) : Operand→Option Value
  | .tmp t=>lk E t
  | .const v=>some v
  | .global g=>some (.pointer (some ⟨g,0,none⟩))
  | .func f=>some (.func (.func f) #[] #[])
theorem bD.eval {n : Nat} {E : Env} {a : Act} (h : bD n E a) {x : Operand} {v : Value} (hx : ev E x=some v) : a.eval x=v:=by
  cases x with
  | tmp t=>exact h.all t v hx
  | const u=>exact Option.some.inj hx
  | global g=>exact Option.some.inj hx
  | func f=>exact Option.some.inj hx
structure kM (S : List Nat) (w w' : World) : Prop where
  os : w'.os=w.os
  tape : w'.tape=w.tape
  output : w'.output=w.output
  size : w.heap.size≤w'.heap.size
  block : ∀ k,k<w.heap.size→k ∉ S→w'.heap[k]?=w.heap[k]?
theorem kM.refl (S : List Nat) (w : World) : kM S w w:=⟨rfl,rfl,rfl,Nat.le_refl _,fun _ _ _=>rfl⟩
theorem kM.trans {S : List Nat} {a b c : World} (h : kM S a b) (k : kM S b c) : kM S a c:=
  ⟨k.os.trans h.os,k.tape.trans h.tape,k.output.trans h.output,Nat.le_trans h.size k.size,
   fun i hi hS=>(k.block i (Nat.lt_of_lt_of_le hi h.size) hS).trans (h.block i hi hS)⟩
theorem kM.mono {S S' : List Nat} {a b : World} (h : kM S a b) (hs : ∀ k ∈ S,k ∈ S') : kM S' a b:=
  ⟨h.os,h.tape,h.output,h.size,fun i hi hS=>h.block i hi fun hk=>hS (hs i hk)⟩
abbrev Ext:=kM []
theorem kM.below {w w' : World} (h : Ext w w') : RowKit.Below w.heap.size w w':=⟨h.os,h.tape,h.output,h.size,fun k hk=>h.block k hk (by simp)⟩
structure aJ where
  b : Nat
  A : Obj→Prop
  wr : Bool
structure ah (w0 : World) (S : List Nat) (M : List aJ) (w : World) : Prop where
  aH : kM S w0 w
  nodup : (M.map aJ.b).Nodup
  all : ∀ e ∈ M,(∃ o,w.heap[e.b]?=some o∧e.A o)∧(e.wr=true→e.b ∈ S∨w0.heap.size≤e.b)
inductive Has : List aJ→Nat→(Obj→Prop)→Bool→Prop where
  | here {b A wr M} : Has (⟨b,A,wr⟩::M) b A wr
  | there {e M b A wr} : Has M b A wr→Has (e::M) b A wr
theorem Has.mem {M : List aJ} {b : Nat} {A : Obj→Prop} {wr : Bool} (h : Has M b A wr) : ⟨b,A,wr⟩ ∈ M:=by
  induction h with
  | here=>simp
  | there _ ih=>simp [ih]
inductive fy : List aJ→Nat→(Obj→Prop)→(Obj→Prop)→List aJ→Prop where
  | here {b A A' M} : fy (⟨b,A,true⟩::M) b A A' (⟨b,A',true⟩::M)
  | there {e M b A A' M'} : fy M b A A' M'→fy (e::M) b A A' (e::M')
theorem fy.has {M M' : List aJ} {b : Nat} {A A' : Obj→Prop} (h : fy M b A A' M') : Has M b A true:=by
  induction h with
  | here=>exact .here
  | there _ ih=>exact .there ih
theorem fy.keys {M M' : List aJ} {b : Nat} {A A' : Obj→Prop} (h : fy M b A A' M') : M'.map aJ.b=M.map aJ.b:=by
  induction h with
  | here=>rfl
  | there _ ih=>simp [ih]
theorem fy.old {M M' : List aJ} {b : Nat} {A A' : Obj→Prop} (h : fy M b A A' M') (hn : (M.map aJ.b).Nodup) :
    ∀ e ∈ M',e=⟨b,A',true⟩∨(e ∈ M∧e.b≠b):=by
  induction h with
  | @here b A A' M=>
    intro e he
    simp only [List.mem_cons] at he
    simp only [List.map_cons,List.nodup_cons] at hn
    rcases he with rfl | he
    · exact .inl rfl
    · exact .inr ⟨by simp [he],fun h=>hn.1 (h ▸ List.mem_map_of_mem he)⟩
  | @there x M b A A' M' hu ih=>
    intro e he
    simp only [List.map_cons,List.nodup_cons] at hn
    simp only [List.mem_cons] at he
    rcases he with rfl | he
    · refine .inr ⟨by simp,fun h=>hn.1 ?_⟩
      rw [h]
      exact List.mem_map_of_mem hu.has.mem (f:=aJ.b)
    · rcases ih hn.2 e he with h | ⟨h1,h2⟩
      · exact .inl h
      · exact .inr ⟨by simp [h1],h2⟩
section
variable {w0 : World} {S : List Nat} {M M' : List aJ} {w w' : World}
theorem ah.lt (h : ah w0 S M w) {e : aJ} (he : e ∈ M) : e.b<w.heap.size:=by
  obtain ⟨⟨o,ho,_⟩,_⟩:=h.all e he
  by_cases hl : e.b<w.heap.size
  · exact hl
  · simp [Array.getElem?_eq_none (by omega : w.heap.size≤e.b)] at ho
theorem ah.get (h : ah w0 S M w) {b : Nat} {A : Obj→Prop} {wr : Bool} (hf : Has M b A wr) : ∃ o,w.heap[b]?=some o∧A o:=(h.all _ hf.mem).1
theorem ah.start (w0 : World) (S : List Nat) : ah w0 S [] w0:=⟨kM.refl _ _,by simp,by simp⟩
theorem ah.ext (h : ah w0 S M w) (k : Ext w w') : ah w0 S M w':=by
  refine ⟨h.aH.trans (k.mono (by simp)),h.nodup,fun e he=>⟨?_,(h.all e he).2⟩⟩
  obtain ⟨o,ho,hA⟩:=(h.all e he).1
  exact ⟨o,(k.block e.b (h.lt he) (by simp)).trans ho,hA⟩
theorem ah.drawn (h : ah w0 S M w) (n : Nat) : ah w0 S M { w with drawn:=n }:=
  h.ext ⟨rfl,rfl,rfl,Nat.le_refl _,fun _ _ _=>rfl⟩
theorem ah.old (h : ah w0 S M w) {k : Nat} (hk : k<w0.heap.size) (hS : k ∉ S) : w.heap[k]?=w0.heap[k]?:=h.aH.block k hk hS
theorem ah.sub (h : ah w0 S M w) (hn : (M'.map aJ.b).Nodup) (hs : ∀ e ∈ M',e ∈ M) : ah w0 S M' w:=⟨h.aH,hn,fun e he=>h.all e (hs e he)⟩
inductive ax : List aJ→List aJ→Prop where
  | nil (N : List aJ) : ax [] N
  | keep (b : Nat) (A A' : Obj→Prop) (wr : Bool) (N N' : List aJ) : (∀ o,A o→A' o)→ax N' N→ax (⟨b,A',wr⟩::N') (⟨b,A,wr⟩::N)
  | drop (e : aJ) (N N' : List aJ) : ax N' N→ax N' (e::N)
theorem ax.refl : ∀ N,ax N N
  | []=>.nil _
  | ⟨_,_,_⟩::N=>.keep _ _ _ _ _ _ (fun _ h=>h) (ax.refl N)
theorem ax.keys (h : ax M' M) : (M'.map aJ.b).Sublist (M.map aJ.b):=by
  induction h with
  | nil=>exact List.nil_sublist _
  | keep _ _ _ _ _ _ _ _ ih=>exact ih.cons_cons _
  | drop _ _ _ _ ih=>exact ih.cons _
theorem ax.old (h : ax M' M) : ∀ e ∈ M',∃ e' ∈ M,e'.b=e.b∧e'.wr=e.wr∧∀ o,e'.A o→e.A o:=by
  induction h with
  | nil=>simp
  | keep b A A' wr M M' hA _ ih=>
    intro e he
    simp only [List.mem_cons] at he
    rcases he with rfl | he
    · exact ⟨⟨b,A,wr⟩,by simp,rfl,rfl,hA⟩
    · obtain ⟨e',h1,h2⟩:=ih e he
      exact ⟨e',by simp [h1],h2⟩
  | drop _ _ _ _ ih=>
    intro e he
    obtain ⟨e',h1,h2⟩:=ih e he
    exact ⟨e',by simp [h1],h2⟩
theorem ah.weak (h : ah w0 S M w) (hs : ax M' M) : ah w0 S M' w:=by
  refine ⟨h.aH,h.nodup.sublist hs.keys,fun e he=>?_⟩
  obtain ⟨e',h1,h2,h3,h4⟩:=hs.old e he
  obtain ⟨⟨o,ho,hA⟩,h5⟩:=h.all e' h1
  exact ⟨⟨o,h2 ▸ ho,h4 o hA⟩,fun hw=>h2 ▸ h5 (h3.trans hw)⟩
theorem ah.push (h : ah w0 S M w) (o : Obj) {A : Obj→Prop} (hA : A o) (hw : w'.heap=w.heap.push o) (h1 : w'.os=w.os) (h2 : w'.tape=w.tape) (h3 : w'.output=w.output) :
    ah w0 S (⟨w.heap.size,A,true⟩::M) w':=by
  have hx : Ext w w':=⟨h1,h2,h3,by rw [hw];simp,fun k hk _=>by rw [hw,Array.getElem?_push,if_neg (Nat.ne_of_lt hk)]⟩
  have h':=h.ext hx
  refine ⟨h'.aH,?_,fun e he=>?_⟩
  · simp only [List.map_cons,List.nodup_cons,h.nodup,and_true]
    intro hm
    obtain ⟨e,he,hb⟩:=List.mem_map.1 hm
    have:=h.lt he
    omega
  · simp only [List.mem_cons] at he
    rcases he with rfl | he
    · exact ⟨⟨o,by simp [hw],hA⟩,fun _=>.inr h.aH.size⟩
    · exact h'.all e he
theorem ah.write (h : ah w0 S M w) {b : Nat} {A A' : Obj→Prop} (hu : fy M b A A' M') {o' : Obj} (hA : A' o')
    (hb : w'.heap[b]?=some o') (hz : w'.heap.size=w.heap.size) (hk : ∀ k,k≠b→w'.heap[k]?=w.heap[k]?) (h1 : w'.os=w.os) (h2 : w'.tape=w.tape) (h3 : w'.output=w.output) :
    ah w0 S M' w':=by
  have hin:=(h.all _ hu.has.mem).2 rfl
  refine ⟨⟨h1.trans h.aH.os,h2.trans h.aH.tape,h3.trans h.aH.output,by rw [hz];exact h.aH.size,fun k hk' hS=>?_⟩,by rw [hu.keys];exact h.nodup,fun e he=>?_⟩
  · refine (hk k fun e=>?_).trans (h.aH.block k hk' hS)
    subst e
    rcases hin with h4 | h4
    · exact hS h4
    · simp only [] at h4;omega
  · rcases hu.old h.nodup e he with rfl | ⟨h4,h5⟩
    · exact ⟨⟨o',hb,hA⟩,fun _=>hin⟩
    · obtain ⟨⟨o,ho,hA'⟩,h6⟩:=h.all e h4
      exact ⟨⟨o,(hk _ h5).trans ho,hA'⟩,h6⟩
end
def xD {α : Type} (P : Program) : Sem α→Option α
  | .pure a=>some a
  | .program k=>xD P (k P)
  | .mark _ k=>xD P k
  | _=>none
theorem jN {α : Type} {P : Program} {a : α} : ∀ {s : Sem α} {w : World},xD P s=some a→s.run P w=.ok a w
  | .pure _,w,h=>by simp only [xD,Option.some.injEq] at h;subst h;rfl
  | .program k,w,h=>by simp only [xD] at h;exact jN (s:=k P) h
  | .mark _ k,w,h=>by simp only [xD] at h;exact jN (s:=k) h
  | .load ..,_,h | .store ..,_,h | .new ..,_,h | .shape ..,_,h | .freeze ..,_,h | .frozen ..,_,h | .getObj ..,_,h | .setObj ..,_,h | .choose ..,_,h | .sys ..,_,h | .halt ..,_,h=>by simp [xD] at h
structure OQ (P : Program) (n : Nat) (E : Env) (C : World→Prop) (o : Oper) (v : Value) : Prop where
  go : ∀ a,bD n E a→∀ w,C w→o.quietAt P a C w v
section
variable {P : Program} {n : Nat} {E : Env} {C : World→Prop} {dst : Option Tmp} {ty : TypeId} {pos : String} {aft : Array Edge} {g : Option (Nat × Bool)} {v : Value}
def D6 (E : Env) (x : Operand) : Value:=(ev E x).getD undef
def known (E : Env) (op : Op) : Bool:=op.operands.toList.all fun x=>(ev E x).isSome
def qS : Op→Bool
  | .select ..=>false
  | _=>true
theorem OQ.pure {op : Op} (hs : qS op=true) (hk : known E op=true) (h : xD P (execOp (D6 E) ⟨dst,op,ty,pos,aft,g⟩)=some (.value v)) : OQ P n E C ⟨dst,op,ty,pos,aft,g⟩ v:=by
  refine ⟨fun a ha w hw=>?_⟩
  have e : execOp a.eval ⟨dst,op,ty,pos,aft,g⟩=execOp (D6 E) ⟨dst,op,ty,pos,aft,g⟩:=by
    refine execOp_congr _ (fun cs b hh=>?_) fun x hx=>?_
    · simp only [] at hh;subst hh;simp [qS] at hs
    · simp only [known,List.all_eq_true] at hk
      have:=hk x (by simpa using hx)
      obtain ⟨u,hu⟩:=Option.isSome_iff_exists.1 this
      rw [ha.eval hu,D6,hu];rfl
  unfold Oper.quietAt
  rw [e,jN h]
  exact ⟨rfl,rfl⟩
theorem OQ.move {x : Operand} (hx : ev E x=some v) : OQ P n E C ⟨dst,.move x,ty,pos,aft,g⟩ v:=by
  refine ⟨fun a ha w hw=>?_⟩
  have:=ha.eval hx
  exact ⟨rfl,this⟩
theorem OQ.assign {x : Operand} (hx : ev E x=some v) : OQ P n E C ⟨dst,.assign x,ty,pos,aft,g⟩ v:=by
  refine ⟨fun a ha w hw=>?_⟩
  have:=ha.eval hx
  exact ⟨rfl,this⟩
theorem OQ.run {op : Op} (h : ∀ a,bD n E a→∀ w,C w→(execOp a.eval ⟨dst,op,ty,pos,aft,g⟩).run P w=.ok (.value v) w) : OQ P n E C ⟨dst,op,ty,pos,aft,g⟩ v:=by
  refine ⟨fun a ha w hw=>?_⟩
  unfold Oper.quietAt
  rw [h a ha w hw]
  exact ⟨rfl,rfl⟩
end
end Sl
end
section
namespace Sl
section
variable {P : Program} {md : Region.Mode} {ops : Array Oper} {C : World→Prop} {n : Nat}
def xE (P : Program) (md : Region.Mode) (ops : Array Oper) (C : World→Prop) (n : Nat) (L : Array Bool→Act→Prop) : Nat→Array Bool→Act→Prop
  | 0,done,a=>L done a
  | f+1,done,a=>Region.ready md ops done≠[]∧∀ i ∈ Region.ready md ops done,i<n∧qOp P ops C i (xE P md ops C n L f (done.setIfInBounds i true)) a
theorem me {g : Nat} {L : Array Bool→Act→Prop} {Q : Exit→Act→World→Prop} (hL : ∀ done a w,C w→L done a→wpAny P md ops Q g done a w) :
    ∀ (f : Nat) (done : Array Bool) (a : Act) (w : World),C w→xE P md ops C n L f done a→wpAny P md ops Q (f+g) done a w
  | 0,done,a,w,hw,h=>by rw [Nat.zero_add];exact hL _ _ _ hw h
  | f+1,done,a,w,hw,h=>by
    rw [show f+1+g=(f+g)+1 by omega]
    exact ⟨fun h0=>absurd h0 h.1,fun i hi=>wpOp_of_qOp hw (fun a' w' hw' h'=>me hL f _ a' w' hw' h') (h.2 i hi).2⟩
theorem tf {i : Nat} {oi : Oper} {v : Value} {L : Array Bool→Act→Prop} (hi : ops[i]?=some oi) (hsel : ∀ (j : Nat) (o : Oper) cs b,ops[j]?=some o→o.op≠.select cs b)
    (hs : Region.sinkB md ops n=true) (hc : Region.chainB md ops n=true) (hn : n<ops.size) (hin : i<n)
    (hend : ∀ done a,L done a→∀ j ∈ Region.ready md ops done,n≤j) :
    ∀ (f : Nat) (done : Array Bool) (a : Act),HeadInv md ops n done→
      (∀ j oj,ops[j]?=some oj→j≠i→done.getD j true=false→(∀ e ∈ oj.after,Region.binds md e=true→e.on≠i)→oi.apart ops oj=true)→
      i ∈ Region.ready md ops done→YieldsIn P ops C oi v a→
      xE P md ops C n L f (done.setIfInBounds i true) (a.put oi.dst v)→xE P md ops C n L (f+1) done a:=by
  intro f
  induction f with
  | zero=>
    intro done a inv _ hr hy H
    have hun:=(mem_ready.1 hr).1
    refine ⟨fun h=>(by rw [h] at hr;cases hr),fun j hj=>?_⟩
    have hjn : j<n:=Nat.lt_of_not_le fun h=>tail_waits hs hc hn inv _ i rfl hin hun j h hj
    refine ⟨hjn,?_⟩
    by_cases hji : j=i
    · subst hji;exact hy.qOp hi H
    · exact absurd (hend _ _ H j (ready_mono hj hji)) (by omega)
  | succ f ih=>
    intro done a inv hfree hr hy H
    have hun:=(mem_ready.1 hr).1
    refine ⟨fun h=>(by rw [h] at hr;cases hr),fun j hj=>?_⟩
    have hjn : j<n:=Nat.lt_of_not_le fun h=>tail_waits hs hc hn inv _ i rfl hin hun j h hj
    refine ⟨hjn,?_⟩
    by_cases hji : j=i
    · subst hji;exact hy.qOp hi H
    · obtain ⟨hjun,oj,hoj,hall⟩:=mem_ready.1 hj
      have hnot : ∀ e ∈ oj.after,Region.binds md e=true→e.on≠i:=fun e he hb heq=>by
        have h1:=hall e he hb
        rw [heq,getD_both hun] at h1
        cases h1
      have h2:=qOp_put hoj (hfree j oj hoj hji hjun hnot) (fun cs b=>hsel i oi cs b hi) (fun cs b=>hsel j oj cs b hoj) hy (H.2 j (ready_mono hj hji)).2
      refine qOp_mono (fun a' h3=>ih (done.setIfInBounds j true) a' (inv.set hj hjn) (fun k ok hk hki hkun hno=>hfree k ok hk hki ?_ hno) (ready_mono hr (Ne.symm hji)) h3.1 ?_) h2
      · by_cases hjk : j=k
        · subst hjk;exact hjun
        · rwa [getD_set_ne true hjk] at hkun
      · rw [Array.setIfInBounds_comm _ _ hji]
        exact h3.2
theorem qT {g : Nat} {Φ : Act→Prop} (hsel : Region.noSelect ops=true) (hs : Region.sinkB md ops n=true) (hc : Region.chainB md ops n=true) (hn : n<ops.size) :
    ∀ (l : List Oper) (k : Nat) (done : Array Bool) (a : Act),(∀ j,j<l.length→l[j]?=ops[k+j]?)→k+l.length=n→HeadInv md ops n done→
    Region.lexHead md ops g l.length k done=true→wpQuiet P ops C Φ l a→
    xE P md ops C n (fun done' a'=>Region.seqB md ops g n done'=true∧Φ a') l.length done a
  | [],k,done,a,_,hk,_,hB,h=>by
    have : k=n:=by simpa using hk
    subst this
    exact ⟨by simpa [Region.lexHead] using hB,h⟩
  | o::l,k,done,a,hl,hk,inv,hB,h=>by
    have h0 : ops[k]?=some o:=by simpa using (hl 0 (by simp)).symm
    simp only [List.length_cons,Region.lexHead,Bool.and_eq_true] at hB
    obtain ⟨⟨hr,hf⟩,hB'⟩:=hB
    have hkn : k<n:=by simp only [List.length_cons] at hk;omega
    have hr' : k ∈ Region.ready md ops done:=by simpa using hr
    have hst : qOp P ops C k (wpQuiet P ops C Φ l) a:=by unfold qOp;simp only [h0];exact h
    obtain ⟨v,hy,hK⟩:=yieldsIn_of_qOp h0 hst
    exact tf h0 (Region.noSelect_spec hsel) hs hc hn hkn (fun done' a' hL=>seqB_ready hL.1) l.length done a inv (Region.free_spec h0 hf) hr' hy
      (qT hsel hs hc hn l (k+1) _ _ (fun j hj=>by have:=hl (j+1) (by simp;omega);simpa [Nat.add_assoc,Nat.add_comm 1 j] using this) (by simp only [List.length_cons] at hk;omega) (inv.set hr' hkn) hB' hK)
theorem gQ {id : Nat} {Q : Exit→Act→World→Prop} {a : Act} {w : World} {l : List Oper} (n : Nat) (hm : P.follows .mixedOrders=true) (hB : Region.lexTailB .any l.toArray n=true)
    (hC : C { w with drawn:=w.drawn+1 })
    (h : wpQuiet P l.toArray C (fun a'=>∀ w',C w'→wpList P l.toArray Q (l.drop n) a' w') (l.take n) a) : (Code.region id l.toArray true).wp P Q a w:=by
  simp only [Region.lexTailB,Bool.and_eq_true,decide_eq_true_eq] at hB
  obtain ⟨⟨⟨⟨hsel,hn⟩,hs⟩,hc⟩,hlex⟩:=hB
  have hn' : n<l.length:=by simpa using hn
  have htl : (l.take n).length=n:=by simp;omega
  have hdl : (l.drop n).length=l.toArray.size - n:=by simp
  have inv0 : HeadInv .any l.toArray n (Array.replicate l.toArray.size false):=
    ⟨by simp,fun j oj _ hl=>(by rw [getD_replicate_false] at hl;cases hl),fun t _ ht=>getD_in (by simpa using ht) (getD_replicate_false _ _)⟩
  have H:=qT (P:=P) (C:=C) (md:=.any) (g:=l.toArray.size - n) hsel hs hc hn (l.take n) 0 _ a (fun j hj=>by
    have hj' : j<n:=by rw [htl] at hj;exact hj
    simp [hj']) (by simpa using htl) inv0 (by rw [htl];exact hlex) h
  refine wp_region_any hm ?_
  have:=me (Q:=Q) (g:=l.toArray.size - n) (fun done a' w' hw' hL=>by
    have:=wpAny_of_seq (md:=.any) (Q':=Q) (l.drop n) n done a' w' (fun j=>by simp [List.getElem?_drop]) (by rw [hdl];exact hL.1) (hL.2 w' hw')
    rwa [hdl] at this) _ _ _ _ hC H
  rw [htl,show n+(l.toArray.size - n)=l.toArray.size by omega] at this
  exact this
end
section
variable {P : Program} {n : Nat} {w0 : World} {S : List Nat} {ops : Array Oper} {Q Q' : Exit→Act→World→Prop} {l : List Oper} {E E' : Env} {M M' : List aJ}
structure JL (P : Program) (n : Nat) (w0 : World) (S : List Nat) (ops : Array Oper) (Q : Exit→Act→World→Prop) (l : List Oper) (E : Env) (M : List aJ) : Prop where
  go : ∀ a w,bD n E a→ah w0 S M w→wpList P ops Q l a w
structure JE (n : Nat) (w0 : World) (S : List Nat) (Q : Exit→Act→World→Prop) (e : Exit) (E : Env) (M : List aJ) : Prop where
  go : ∀ a w,bD n E a→ah w0 S M w→Q e a w
structure JC (P : Program) (n : Nat) (w0 : World) (S : List Nat) (Q : Exit→Act→World→Prop) (c : Code) (E : Env) (M : List aJ) : Prop where
  go : ∀ a w,bD n E a→ah w0 S M w→c.wp P Q a w
structure JQ (P : Program) (n : Nat) (w0 : World) (S : List Nat) (ops : Array Oper) (M : List aJ) (Φ : Act→Prop) (l : List Oper) (E : Env) : Prop where
  go : ∀ a,bD n E a→wpQuiet P ops (ah w0 S M) Φ l a
theorem JC.seq {x y : Code} (h : JC P n w0 S (Exit.then (y.wp P Q) Q) x E M) : JC P n w0 S Q (.seq x y) E M:=⟨fun a w ha hw=>wp_seq (h.go a w ha hw)⟩
theorem JC.skip (h : JE n w0 S Q .normal E M) : JC P n w0 S Q .skip E M:=⟨fun a w ha hw=>wp_skip (h.go a w ha hw)⟩
theorem JC.exit {id : Nat} (h : JE n w0 S Q (.exit id) E M) : JC P n w0 S Q (.exit id) E M:=⟨fun a w ha hw=>wp_exit (h.go a w ha hw)⟩
theorem JC.ret (h : JE n w0 S Q .ret E M) : JC P n w0 S Q .ret E M:=⟨fun a w ha hw=>wp_ret (h.go a w ha hw)⟩
theorem JC.block {id : Nat} {c : Code} (h : JC P n w0 S (Exit.inBlock id Q) c E M) : JC P n w0 S Q (.block id c) E M:=⟨fun a w ha hw=>wp_block (h.go a w ha hw)⟩
theorem JC.cond {c : Operand} {x y : Code} {t : Bool} (hc : ev E c=some (.bool t)) (ht : t=true→JC P n w0 S Q x E M) (hf : t=false→JC P n w0 S Q y E M) : JC P n w0 S Q (.cond c x y) E M:=
  ⟨fun a w ha hw=>wp_cond_split (ha.eval hc) (fun h=>(ht h).go a w ha hw) (fun h=>(hf h).go a w ha hw)⟩
theorem JC.cond_true {c : Operand} {x y : Code} {t : Bool} (hc : ev E c=some (.bool t)) (h : t=true) (ht : JC P n w0 S Q x E M) : JC P n w0 S Q (.cond c x y) E M:=
  JC.cond hc (fun _=>ht) (fun h'=>by rw [h] at h';cases h')
theorem JC.cond_false {c : Operand} {x y : Code} {t : Bool} (hc : ev E c=some (.bool t)) (h : t=false) (hf : JC P n w0 S Q y E M) : JC P n w0 S Q (.cond c x y) E M:=
  JC.cond hc (fun h'=>by rw [h] at h';cases h') (fun _=>hf)
theorem JC.region {id : Nat} {l : List Oper} (h : JL P n w0 S l.toArray Q l E M) : JC P n w0 S Q (.region id l.toArray false) E M:=⟨fun a w ha hw=>wp_region_lit (h.go a w ha hw)⟩
theorem JC.quiet {id : Nat} {l : List Oper} (hm : P.follows .mixedOrders=true) (hB : Region.lexB .any l.toArray=true)
    (h : JQ P n w0 S l.toArray M (fun a'=>∀ w',ah w0 S M w'→Q .normal a' w') l E) : JC P n w0 S Q (.region id l.toArray true) E M:=
  ⟨fun a _ ha hw=>wp_region_quiet hm hB (hw.drawn _) (by simpa using h.go a ha)⟩
theorem JC.tail {id : Nat} {l : List Oper} (m : Nat) (hm : P.follows .mixedOrders=true) (hB : Region.lexTailB .any l.toArray m=true)
    (h : JQ P n w0 S l.toArray M (fun a'=>∀ w',ah w0 S M w'→wpList P l.toArray Q (l.drop m) a' w') (l.take m) E) : JC P n w0 S Q (.region id l.toArray true) E M:=
  ⟨fun a _ ha hw=>gQ m hm hB (hw.drawn _) (h.go a ha)⟩
theorem JC.weak {c : Code} (h : JC P n w0 S Q c E' M') (hE : aj E E') (hM : ax M' M) : JC P n w0 S Q c E M:=
  ⟨fun a w ha hw=>h.go a w (ha.sub hE) (hw.weak hM)⟩
theorem JE.weak {e : Exit} (h : JE n w0 S Q e E' M') (hE : aj E E') (hM : ax M' M) : JE n w0 S Q e E M:=
  ⟨fun a w ha hw=>h.go a w (ha.sub hE) (hw.weak hM)⟩
theorem JC.loop {ι : Type} (Ei : ι→Env) (Mi : ι→List aJ) (μ : ι→Nat) (I : ι→Prop) {c : Code} (i : ι) (hi : I i) (hE : aj E (Ei i)) (hM : ax (Mi i) M)
    (h : ∀ i,I i→JC P n w0 S (Exit.then (fun a' w'=>∃ j,I j∧μ j<μ i∧bD n (Ei j) a'∧ah w0 S (Mi j) w') Q) c (Ei i) (Mi i)) : JC P n w0 S Q (.loop c) E M:=by
  refine ⟨fun a w ha hw=>?_⟩
  have ha':=ha.sub hE
  have hw':=hw.weak hM
  clear ha hw hE hM
  have key : ∀ m i,μ i=m→I i→∀ a w,bD n (Ei i) a→ah w0 S (Mi i) w→∀ (b : Frame) (k : List Item) (cs : List Frame),
      ∃ e a' w',Q e a' w'∧Arrives P (lone (b.at a (.code c::.inLoop c::k)) cs w) b k cs e a' w':=by
    intro m
    induction m using Nat.strongRecOn with
    | _ m ih=>
      intro i hm hI a w ha hw b k cs
      obtain ⟨e,a₁,w₁,hq,harr⟩:=(h i hI).go a w ha hw b (.inLoop c::k) cs
      cases e with
      | normal=>
        obtain ⟨j,hj,hlt,ha₁,hw₁⟩:=hq
        obtain ⟨e₂,a₂,w₂,hq₂,harr₂⟩:=ih (μ j) (hm ▸ hlt) j rfl hj a₁ w₁ ha₁ hw₁ b k cs
        exact ⟨e₂,a₂,w₂,hq₂,.of_steps (Steps.trans harr (.one step_inLoop)) harr₂⟩
      | exit id=>exact ⟨_,a₁,w₁,hq,.pass (x:=.inLoop c) rfl (fun _ _=>.inl (by simp)) harr⟩
      | goto l=>exact ⟨_,a₁,w₁,hq,.pass (x:=.inLoop c) rfl (fun _ _=>.inl (by simp)) harr⟩
      | ret=>exact ⟨_,a₁,w₁,hq,.pass (x:=.inLoop c) rfl (fun _ _=>.inl (by simp)) harr⟩
      | panic ch=>exact ⟨_,a₁,w₁,hq,.pass (x:=.inLoop c) rfl (fun _ _=>.inl (by simp)) harr⟩
      | outgrown=>exact ⟨_,a₁,w₁,hq,.pass (x:=.inLoop c) rfl (fun _ _=>.inl (by simp)) harr⟩
  intro b k cs
  obtain ⟨e,a',w',hq,harr⟩:=key _ i rfl hi a w ha' hw' b k cs
  exact ⟨e,a',w',hq,.of_steps (.one step_loop) harr⟩
theorem JE.next {y : Code} (h : JC P n w0 S Q' y E M) : JE n w0 S (Exit.then (y.wp P Q') Q) .normal E M:=⟨h.go⟩
theorem JE.again {ι : Type} {Ei : ι→Env} {Mi : ι→List aJ} {μ : ι→Nat} {I : ι→Prop} {i : ι} (j : ι) (hj : I j) (hμ : μ j<μ i) (hE : aj E (Ei j)) (hM : ax (Mi j) M) :
    JE n w0 S (Exit.then (fun a' w'=>∃ j,I j∧μ j<μ i∧bD n (Ei j) a'∧ah w0 S (Mi j) w') Q) .normal E M:=
  ⟨fun _ _ ha hw=>⟨j,hj,hμ,ha.sub hE,hw.weak hM⟩⟩
theorem JE.aB {K : Act→World→Prop} {id : Nat} (h : JE n w0 S Q (.exit id) E M) : JE n w0 S (Exit.then K Q) (.exit id) E M:=⟨h.go⟩
theorem JE.aN {K : Act→World→Prop} (h : JE n w0 S Q .ret E M) : JE n w0 S (Exit.then K Q) .ret E M:=⟨h.go⟩
theorem JE.az {id : Nat} (h : JE n w0 S Q .normal E M) : JE n w0 S (Exit.inBlock id Q) .normal E M:=⟨h.go⟩
theorem JE.jO {id : Nat} (h : JE n w0 S Q .ret E M) : JE n w0 S (Exit.inBlock id Q) .ret E M:=⟨h.go⟩
theorem JE.aG {id : Nat} (h : JE n w0 S Q .normal E M) : JE n w0 S (Exit.inBlock id Q) (.exit id) E M:=⟨fun a w ha hw=>by
  show (if id=id then Q .normal a w else _)
  rw [if_pos rfl];exact h.go a w ha hw⟩
theorem JL.nil (h : JE n w0 S Q .normal E M) : JL P n w0 S ops Q [] E M:=⟨h.go⟩
theorem JQ.nil (h : JE n w0 S Q .normal E M) : JQ P n w0 S ops M (fun a'=>∀ w',ah w0 S M w'→Q .normal a' w') [] E:=⟨fun a ha w hw=>h.go a w ha hw⟩
theorem JQ.cH {l' : List Oper} (h : JL P n w0 S ops Q l' E M) : JQ P n w0 S ops M (fun a'=>∀ w',ah w0 S M w'→wpList P ops Q l' a' w') [] E:=⟨fun a ha w hw=>h.go a w ha hw⟩
variable {d : Nat} {op : Op} {ty : TypeId} {pos : String} {aft : Array Edge} {v : Value}
theorem JL.q (h : OQ P n E (ah w0 S M) ⟨some d,op,ty,pos,aft,none⟩ v) (hd : Nat.blt d n=true) (k : JL P n w0 S ops Q l ((d,v)::E) M) : JL P n w0 S ops Q (⟨some d,op,ty,pos,aft,none⟩::l) E M:=
  ⟨fun a _ ha hw=>wpList_plain rfl fun _ hK=>Oper.wp_of_quiet (C:=ah w0 S M) (K:=fun a'=>a'=a.put (some d) v) hw (fun _ _ hw' e=>hK _ _ (e ▸ k.go _ _ (ha.put d v hd) hw')) ⟨v,h.go a ha,rfl⟩⟩
theorem JQ.q {Φ : Act→Prop} (h : OQ P n E (ah w0 S M) ⟨some d,op,ty,pos,aft,none⟩ v) (hd : Nat.blt d n=true) (k : JQ P n w0 S ops M Φ l ((d,v)::E)) : JQ P n w0 S ops M Φ (⟨some d,op,ty,pos,aft,none⟩::l) E:=
  ⟨fun a ha=>wpQuiet_step fun _ hK=>by
    simp only [Region.wanted,if_true]
    exact ⟨v,h.go a ha,hK _ (k.go _ (ha.put d v hd))⟩⟩
def fG (ops : Array Oper) (E : Env) (j : Nat) : Option Bool:=
  match (ops[j]?).bind (·.dst) with
  | some s=>match lk E s with
    | some (.bool b)=>some b
    | _=>none
  | none=>none
theorem m6 {j : Nat} {b : Bool} (h : fG ops E j=some b) {a : Act} (ha : bD n E a) (hn : ∀ s,(ops[j]?).bind (·.dst)=some s→Nat.blt s n=true) : yielded ops a.tmps j=some b:=by
  unfold fG at h
  unfold yielded
  cases hs : (ops[j]?).bind (·.dst) with
  | none=>simp [hs] at h
  | some s=>
    simp only [hs] at h
    have hlt : s<n:=by simpa using hn s hs
    cases hv : lk E s with
    | none=>simp [hv] at h
    | some u=>
      have h1:=ha.all s u hv
      have h2 : a.tmps[s]?=some u:=by
        have : s<a.tmps.size:=by rw [ha.size];exact hlt
        rw [Array.getElem?_eq_getElem this]
        simpa [Array.getD,this] using h1
      simp only [hv] at h
      cases u <;> simp at h
      subst h
      simp [h2]
def dS (ops : Array Oper) (n j : Nat) : Bool:=match (ops[j]?).bind (·.dst) with | some s=>Nat.blt s n | none=>false
theorem gR {j : Nat} (h : dS ops n j=true) : ∀ s,(ops[j]?).bind (·.dst)=some s→Nat.blt s n=true:=by
  intro s hs
  simpa [dS,hs] using h
variable {j : Nat} {want b : Bool}
theorem oD (h : fG ops E j=some b) (hf : dS ops n j=true) {a : Act} (ha : bD n E a) : Region.wanted ⟨some d,op,ty,pos,aft,some (j,want)⟩ (yielded ops a.tmps)=(b == want):=by
  simp only [Region.wanted,m6 h ha (gR hf)]
  cases b <;> cases want <;> rfl
theorem JL.dJ (hg : fG ops E j=some b) (hf : dS ops n j=true) (hne : (b == want)=false) (hd : Nat.blt d n=true)
    (k : JL P n w0 S ops Q l ((d,undef)::E) M) : JL P n w0 S ops Q (⟨some d,op,ty,pos,aft,some (j,want)⟩::l) E M:=
  ⟨fun a w ha hw=>wpList_skip (by rw [oD hg hf ha];exact hne) (k.go _ _ (ha.put d undef hd) hw)⟩
theorem JQ.dJ {Φ : Act→Prop} (hg : fG ops E j=some b) (hf : dS ops n j=true) (hne : (b == want)=false) (hd : Nat.blt d n=true)
    (k : JQ P n w0 S ops M Φ l ((d,undef)::E)) : JQ P n w0 S ops M Φ (⟨some d,op,ty,pos,aft,some (j,want)⟩::l) E:=
  ⟨fun a ha=>wpQuiet_step fun _ hK=>by
    rw [oD hg hf ha,hne]
    simp only [Bool.false_eq_true,if_false]
    exact hK _ (k.go _ (ha.put d undef hd))⟩
end
end Sl
end
section
namespace Sl
def cellAt : Obj→Nat→Option Value
  | .cells c _ _,j=>c[j]?
  | _,_=>none
def Row (e : TypeId) (l : List Value) : Obj→Prop:=fun o=>o=.cells l.toArray e (0,0)
def Gy (e : TypeId) (l : List Value) : Obj→Prop:=fun o=>∃ sp : List Value,o=.cells (l++sp).toArray e (0,0)
def aY (o : Obj) (j : Nat) (cs : List Value) : Prop:=∃ c e fr,o=.cells c e fr∧∀ i,i<cs.length→c[j+i]?=cs[i]?
theorem Row.cell {e : TypeId} {l : List Value} {j : Nat} {v : Value} (h : l[j]?=some v) : ∀ o,Row e l o→cellAt o j=some v:=by
  rintro o rfl
  simpa [cellAt] using h
theorem Gy.cell {e : TypeId} {l : List Value} {j : Nat} {v : Value} (h : l[j]?=some v) : ∀ o,Gy e l o→cellAt o j=some v:=by
  rintro o ⟨sp,rfl⟩
  have hj : j<l.length:=(List.getElem?_eq_some_iff.1 h).1
  simpa [cellAt,List.getElem?_append_left hj] using h
theorem Row.cells {e : TypeId} {l cs : List Value} {j : Nat} (h : (l.drop j).take cs.length=cs) : ∀ o,Row e l o→aY o j cs:=by
  rintro o rfl
  refine ⟨_,_,_,rfl,fun i hi=>?_⟩
  rw [← h]
  simp [hi]
theorem Row.all {e : TypeId} {l : List Value} : ∀ o,Row e l o→aY o 0 l:=Row.cells (by simp)
def ei (P : Program) (t : TypeId) : Bool:=
  match P.underlying t with
  | some (.struct _) | some (.array _ _)=>true
  | _=>false
def fP (P : Program) (t : TypeId) : Bool:=
  match P.underlying t with
  | some (.struct _) | some (.array _ _) | none=>false
  | _=>true
def dm (P : Program) (t : TypeId) : Option Nat:=(P.info? t).map (·.size)
section
variable {P : Program} {t : TypeId} {w w' : World} {b j : Nat} {v : Value} {cs : List Value}
theorem m7 (h : fP P t=true) (w : World) : (isAgg t).run P w=.ok false w:=by
  unfold fP at h
  cases hu : P.underlying t with
  | none=>simp [hu] at h
  | some d=>
    unfold isAgg
    rw [Sem.run_bind,run_underlying hu w]
    cases d <;> simp_all
theorem fZ (h : ei P t=true) (w : World) : (isAgg t).run P w=.ok true w:=by
  unfold ei at h
  cases hu : P.underlying t with
  | none=>simp [hu] at h
  | some d=>
    unfold isAgg
    rw [Sem.run_bind,run_underlying hu w]
    cases d <;> simp_all
theorem aE {k : Nat} (h : dm P t=some k) (w : World) : (sizeOf t).run P w=.ok k w:=by
  unfold dm at h
  cases hq : P.info? t with
  | none=>simp [hq] at h
  | some i=>
    have hs : i.size=k:=by simpa [hq] using h
    simp [sizeOf,typeInfo,hq,hs]
theorem cG (b j i : Nat) : (⟨b,j,none⟩ : Addr).add i=⟨b,j+i,none⟩:=by
  unfold Addr.add
  split <;> simp_all
theorem gv (hs : fP P t=true) (hc : w.cell? ⟨b,j,none⟩=some v) : (loadVar t ⟨b,j,none⟩).run P w=.ok v w:=by
  simp [loadVar,Sem.run_bind,m7 hs,load,Sem.run,hc]
theorem gS (ha : ei P t=true) (hz : dm P t=some cs.length) (hc : ∀ i u,cs[i]?=some u→w.cell? ⟨b,j+i,none⟩=some u) : (loadVar t ⟨b,j,none⟩).run P w=.ok (.agg cs.toArray) w:=by
  have hl : (loadCells ⟨b,j,none⟩ cs.length).run P w=.ok cs.toArray w:=run_loadCells_list (P:=P) w ⟨b,j,none⟩ cs (fun i u hu=>by rw [cG];exact hc i u hu)
  simp [loadVar,Sem.run_bind,fZ ha,aE hz,hl]
theorem mM {o : Obj} (ho : w.heap[b]?=some o) (h : cellAt o j=some v) : w.cell? ⟨b,j,none⟩=some v:=by
  unfold World.cell?
  simp only [ho]
  cases o <;> simp_all [cellAt]
theorem m8 {o : Obj} (ho : w.heap[b]?=some o) (h : aY o j cs) : ∀ i u,cs[i]?=some u→w.cell? ⟨b,j+i,none⟩=some u:=by
  intro i u hu
  obtain ⟨c,e,fr,rfl,hc⟩:=h
  have hi : i<cs.length:=(List.getElem?_eq_some_iff.1 hu).1
  exact mM ho (by simp [cellAt,hc i hi,hu])
end
section
variable {P : Program} {n : Nat} {w0 : World} {S : List Nat} {ops : Array Oper} {Q : Exit→Act→World→Prop} {l : List Oper} {E : Env} {M M' : List aJ} {C : World→Prop}
variable {dst : Option Tmp} {d b j : Nat} {op : Op} {t ty : TypeId} {pos : String} {aft : Array Edge} {g : Option (Nat × Bool)} {v : Value} {x y : Operand} {A A' : Obj→Prop} {wr : Bool} {cs : List Value}
theorem OQ.mN (ha : ∀ w,C w→(loadVar t ⟨b,j,none⟩).run P w=.ok v w) (hx : ev E x=some (.pointer (some ⟨b,j,none⟩))) : OQ P n E C ⟨dst,.load t x,ty,pos,aft,g⟩ v:=
  OQ.run fun a hk w hw=>by
    have:=hk.eval hx
    simp [execOp,this,Instr.loadAt,Instr.sureAddr,ha w hw]
theorem OQ.load (hs : fP P t=true) (hx : ev E x=some (.pointer (some ⟨b,j,none⟩))) (hM : Has M b A wr) (hA : ∀ o,A o→cellAt o j=some v) : OQ P n E (ah w0 S M) ⟨dst,.load t x,ty,pos,aft,g⟩ v:=
  OQ.mN (fun _ hw=>let ⟨_,ho,hAo⟩:=hw.get hM;gv hs (mM ho (hA _ hAo))) hx
theorem OQ.aL (hs : fP P t=true) (hx : ev E x=some (.pointer (some ⟨b,j,none⟩))) (hb : b<w0.heap.size) (hS : b ∉ S) (hc : w0.cell? ⟨b,j,none⟩=some v) : OQ P n E (ah w0 S M) ⟨dst,.load t x,ty,pos,aft,g⟩ v:=
  OQ.mN (fun w hw=>gv hs (by simpa [World.cell?,hw.old hb hS] using hc)) hx
theorem OQ.af {k : Nat} (ha : ei P t=true) (hz' : dm P t=some k) (hx : ev E x=some (.pointer (some ⟨b,j,none⟩))) (hM : Has M b A wr) (hl : cs.length=k) (hA : ∀ o,A o→aY o j cs) : OQ P n E (ah w0 S M) ⟨dst,.load t x,ty,pos,aft,g⟩ (.agg cs.toArray):=
  OQ.mN (fun _ hw=>let ⟨_,ho,hAo⟩:=hw.get hM;gS ha (hl ▸ hz') (m8 ho (hA _ hAo))) hx
theorem OQ.bJ (ha : ei P t=true) (hx : ev E x=some (.pointer (some ⟨b,j,none⟩))) (hz : dm P t=some cs.length) (hb : b<w0.heap.size) (hS : b ∉ S) (hc : ∀ i u,cs[i]?=some u→w0.cell? ⟨b,j+i,none⟩=some u) : OQ P n E (ah w0 S M) ⟨dst,.load t x,ty,pos,aft,g⟩ (.agg cs.toArray):=
  OQ.mN (fun w hw=>gS ha hz (fun i u hu=>by simpa [World.cell?,hw.old hb hS] using hc i u hu)) hx
def aR (P : Program) (f : FuncId) : Prop:=∃ fn,P.funcs[f]?=some fn∧fn.body.isNone=false∧(fn.name == "runtime.NumGoroutine")=false
def kQ (E : Env) : List Operand→Option (List Value)
  | []=>some []
  | x::xs=>match ev E x,kQ E xs with
    | some v,some vs=>some (v::vs)
    | _,_=>none
theorem u5 {a : Act} (hk : bD n E a) : ∀ {xs : List Operand} {vs : List Value},kQ E xs=some vs→xs.map a.eval=vs
  | [],vs,h=>by simpa [kQ] using h
  | x::xs,vs,h=>by
    simp only [kQ] at h
    cases h1 : ev E x with
    | none=>simp [h1] at h
    | some v=>
      cases h2 : kQ E xs with
      | none=>simp [h1,h2] at h
      | some us=>
        simp only [h1,h2,Option.some.injEq] at h
        subst h
        simp [hk.eval h1,u5 hk h2]
theorem oE {f : FuncId} {xs : List Operand} {ats : Array TypeId} {vs : List Value} {a : Act} (hg : aR P f) (hk : bD n E a) (hx : kQ E xs=some vs) (w : World) :
    (execOp a.eval ⟨dst,.call ⟨.value (.func f),xs.toArray,ats⟩,ty,pos,aft,g⟩).run P w=.ok (.enter f vs.toArray) w:=by
  obtain ⟨fn,h1,h2,h3⟩:=hg
  have hm : xs.toArray.map a.eval=vs.toArray:=by simp [u5 hk hx]
  have h2' : ¬ fn.body=none:=fun h=>by rw [h] at h2;cases h2
  have h3' : ¬ fn.name = "runtime.NumGoroutine" := by simpa using h3
  simp [execOp,resolve,Sem.run_bind,hm,Act.eval,Deferred.ofValue,invoke,callFunc,program,Sem.run,h1,h2',h3']
theorem OQ.call {f : FuncId} {xs : List Operand} {ats : Array TypeId} {vs : List Value} (hg : aR P f) (hx : kQ E xs=some vs) (hc : ∀ w,C w→Calls P f vs.toArray w fun e w'=>e=.returned v∧C w') : OQ P n E C ⟨dst,.call ⟨.value (.func f),xs.toArray,ats⟩,ty,pos,aft,g⟩ v:=by
  refine ⟨fun a hk w hw=>?_⟩
  unfold Oper.quietAt
  rw [oE hg hk hx w]
  exact ⟨rfl,hc w hw⟩
theorem OQ.an {f : FuncId} {xs : List Operand} {ats : Array TypeId} {vs : List Value} (hg : aR P f) (hx : kQ E xs=some vs) (hc : ∀ w,ah w0 S M w→Calls P f vs.toArray w fun e w'=>e=.returned v∧Ext w w') :
    OQ P n E (ah w0 S M) ⟨dst,.call ⟨.value (.func f),xs.toArray,ats⟩,ty,pos,aft,g⟩ v:=
  OQ.call hg hx fun w hw=>(hc w hw).mono fun _ _ ⟨h1,h2⟩=>⟨h1,hw.ext h2⟩
theorem JL.call {ι : Type} (vf : ι→Value) (Mf : ι→List aJ) {f : FuncId} {xs : List Operand} {ats : Array TypeId} {vs : List Value} (hg : aR P f) (hx : kQ E xs=some vs) (hd : Nat.blt d n=true)
    (hc : ∀ w,ah w0 S M w→Calls P f vs.toArray w fun e w'=>∃ i,e=.returned (vf i)∧ah w0 S (Mf i) w')
    (k : ∀ i,JL P n w0 S ops Q l ((d,vf i)::E) (Mf i)) : JL P n w0 S ops Q (⟨some d,.call ⟨.value (.func f),xs.toArray,ats⟩,ty,pos,aft,none⟩::l) E M:=
  ⟨fun a w ha hw=>wpList_plain rfl fun K hK=>by
    unfold Oper.wp
    rw [oE hg ha hx w]
    exact (hc w hw).mono fun e w' ⟨i,h1,h2⟩=>by subst h1;exact hK _ _ ((k i).go _ _ (ha.put d _ hd) h2)⟩
def qU {α : Type} (P : Program) : Sem α→Option (Obj × (Nat→Sem α))
  | .new o k=>some (o,k)
  | .program k=>qU P (k P)
  | .mark _ k=>qU P k
  | _=>none
theorem m9 {α : Type} {vf : Nat→α} {ob : Obj} {kk : Nat→Sem α} : ∀ {s : Sem α} {w : World},qU P s=some (ob,kk)→(∀ r,xD P (kk r)=some (vf r))→s.run P w=.ok (vf w.heap.size) { w with heap:=w.heap.push ob }
  | .new o k,w,h,h2=>by
    simp only [qU,Option.some.injEq,Prod.mk.injEq] at h
    obtain ⟨rfl,rfl⟩:=h
    exact jN (h2 _)
  | .program k,w,h,h2=>by simp only [qU] at h;exact m9 (s:=k P) h h2
  | .mark _ k,w,h,h2=>by simp only [qU] at h;exact m9 (s:=k) h h2
  | .load ..,_,h,_ | .store ..,_,h,_ | .pure ..,_,h,_ | .shape ..,_,h,_ | .freeze ..,_,h,_ | .frozen ..,_,h,_ | .getObj ..,_,h,_ | .setObj ..,_,h,_ | .choose ..,_,h,_ | .sys ..,_,h,_ | .halt ..,_,h,_=>by simp [qU] at h
theorem xF {o : Oper} {a : Act} (hs : qS o.op=true) (hk : known E o.op=true) (ha : bD n E a) : execOp a.eval o=execOp (D6 E) o:=by
  refine execOp_congr _ (fun cs b hh=>?_) fun x hx=>?_
  · rw [hh] at hs;simp [qS] at hs
  · simp only [known,List.all_eq_true] at hk
    obtain ⟨u,hu⟩:=Option.isSome_iff_exists.1 (hk x (by simpa using hx))
    rw [ha.eval hu,D6,hu];rfl
theorem JL.new (A : Obj→Prop) (vf : Nat→Value) {ob : Obj} {kk : Nat→Sem Next} (hs : qS op=true) (hk : known E op=true) (h1 : qU P (execOp (D6 E) ⟨some d,op,ty,pos,aft,none⟩)=some (ob,kk))
    (h2 : ∀ r,xD P (kk r)=some (.value (vf r))) (hA : A ob) (hd : Nat.blt d n=true)
    (k : ∀ b,w0.heap.size≤b→JL P n w0 S ops Q l ((d,vf b)::E) (⟨b,A,true⟩::M)) : JL P n w0 S ops Q (⟨some d,op,ty,pos,aft,none⟩::l) E M:=
  ⟨fun a w ha hw=>wpList_plain rfl fun K hK=>by
    unfold Oper.wp
    rw [xF hs hk ha,m9 (vf:=fun r=>Next.value (vf r)) h1 h2]
    exact hK _ _ ((k w.heap.size hw.aH.size).go _ _ (ha.put d _ hd) (hw.push ob hA rfl rfl rfl rfl))⟩
@[reducible] def Pt (b j : Nat) : Value:=.pointer (some ⟨b,j,none⟩)
def zc (P : Program) (t : TypeId) : Option (List Value):=((P.info? t).bind (·.zero)).map (·.cells.toList)
theorem JL.alloc {r : List Value} (hz : zc P t=some r) (hd : Nat.blt d n=true)
    (k : ∀ b,w0.heap.size≤b→JL P n w0 S ops Q l ((d,Pt b 0)::E) (⟨b,Row t r,true⟩::M)) : JL P n w0 S ops Q (⟨some d,.alloc t,ty,pos,aft,none⟩::l) E M:=
  ⟨fun a w ha hw=>wpList_plain rfl fun K hK=>by
    have hr : (Instr.alloc t true (.tuple #[])).run P w=.ok (Pt w.heap.size 0) { w with heap:=w.heap.push (.cells r.toArray t (0,0)) }:=by
      unfold zc at hz
      cases hq : P.info? t with
      | none=>simp [hq] at hz
      | some i=>
        cases hi : i.zero with
        | none=>simp [hq,hi] at hz
        | some z=>
          simp only [hq,hi,Option.bind_some,Option.map_some,Option.some.injEq] at hz
          have h1 : z.cells=r.toArray:=by rw [← hz]
          simp [Instr.alloc,zeroValue,typeInfo,Sem.run_bind,hq,hi,newVar,newRow,newObj,h1,Sem.run]
    unfold Oper.wp
    simp only [execOp,Sem.run_bind,hr,Result.andThen_ok]
    exact hK _ _ ((k w.heap.size hw.aH.size).go _ _ (ha.put d _ hd) (hw.push (.cells r.toArray t (0,0)) rfl rfl rfl rfl rfl))⟩
theorem JL.box {r : List Value} (hx : ev E x=some v) (hr : v.cells=r.toArray) (hd : Nat.blt d n=true)
    (k : ∀ b,w0.heap.size≤b→JL P n w0 S ops Q l ((d,Pt b 0)::E) (⟨b,Row t r,true⟩::M)) : JL P n w0 S ops Q (⟨some d,.box t x,ty,pos,aft,none⟩::l) E M:=
  ⟨fun a w ha hw=>wpList_plain rfl fun K hK=>by
    have h1 : (Instr.box t v).run P w=.ok (Pt w.heap.size 0) { w with heap:=w.heap.push (.cells r.toArray t (0,0)) }:=by
      simp [Instr.box,newVar,newRow,newObj,hr,Sem.run]
    unfold Oper.wp
    simp only [execOp,ha.eval hx,Sem.run_bind,h1,Result.andThen_ok]
    exact hK _ _ ((k w.heap.size hw.aH.size).go _ _ (ha.put d _ hd) (hw.push (.cells r.toArray t (0,0)) rfl rfl rfl rfl rfl))⟩
theorem dx {α : Type} (f : α→Value) (d : α) {r : List α} {j : Nat} (h : j<r.length) : (r.map f)[j]?=some (f (r.getD j d)):=by
  simp [h]
theorem jP {w : World} {c : Array Value} {e : TypeId} {fr : Nat × Nat} (ho : w.heap[b]?=some (.cells c e fr)) :
    (w.setCell ⟨b,j,none⟩ v).heap[b]?=some (.cells (c.setIfInBounds j v) e fr):=by
  simp [World.setCell,Array.getElem?_modify,ho]
theorem jc {w : World} {k : Nat} (h : k≠b) : (w.setCell ⟨b,j,none⟩ v).heap[k]?=w.heap[k]?:=by
  simp [World.setCell,Array.getElem?_modify,Ne.symm h]
theorem jQ {w : World} : (w.setCell ⟨b,j,none⟩ v).heap.size=w.heap.size:=by simp [World.setCell]
theorem oF {w : World} {c : Array Value} {e : TypeId} (hv : v.oneCell'=true) (ho : w.heap[b]?=some (.cells c e (0,0))) (hj : j<c.size) :
    (Go.store ⟨b,j,none⟩ v).run P w=.ok () (w.setCell ⟨b,j,none⟩ v):=by
  have hc : w.cell? ⟨b,j,none⟩=some c[j]:=by simp [World.cell?,ho,hj]
  have hf : w.frozen? ⟨b,j,none⟩=false:=by simp [World.frozen?,ho]
  cases v <;> simp_all [Go.store,Sem.run,Value.oneCell']
theorem fe {e : TypeId} : ∀ (vs : List Value) (i : Nat) (w : World) (c : List Value),(∀ v ∈ vs,v.oneCell'=true)→w.heap[b]?=some (.cells c.toArray e (0,0))→j+i+vs.length≤c.length→
    ∃ w',(storeCells ⟨b,j,none⟩ vs i).run P w=.ok () w'∧w'.heap[b]?=some (.cells (c.take (j+i)++vs++c.drop (j+i+vs.length)).toArray e (0,0))∧w'.heap.size=w.heap.size∧
      (∀ k,k≠b→w'.heap[k]?=w.heap[k]?)∧w'.os=w.os∧w'.tape=w.tape∧w'.output=w.output
  | [],i,w,c,_,ho,_=>⟨w,rfl,by simpa using ho,rfl,fun _ _=>rfl,rfl,rfl,rfl⟩
  | v::vs,i,w,c,h1,ho,hl=>by
    simp only [List.length_cons] at hl
    obtain ⟨w',r1,r2,r3,r4,r5,r6,r7⟩:=fe (e:=e) vs (i+1) (w.setCell ⟨b,j+i,none⟩ v) (c.set (j+i) v) (fun u hu=>h1 u (by simp [hu])) (by
      rw [jP ho];simp) (by simp;omega)
    refine ⟨w',?_,?_,r3.trans jQ,fun k hk=>(r4 k hk).trans (jc hk),r5,r6,r7⟩
    · simp only [storeCells,Sem.run_bind,cG]
      rw [oF (h1 v (by simp)) ho (by simp;omega)]
      exact r1
    · rw [r2]
      congr 3
      rw [List.take_set,List.drop_set,if_pos (by omega)]
      rw [show j+(i+1)=j+i+1 by omega,List.take_add_one]
      simp only [List.getElem?_eq_getElem (show j+i<c.length by omega),Option.toList_some,List.length_cons]
      rw [List.set_append_right _ _ (by rw [List.length_take];omega)]
      simp [List.length_take,Nat.min_eq_left (show j+i≤c.length by omega),Nat.add_assoc,Nat.add_comm,Nat.add_left_comm]
theorem JL.GA {hb : Option Tmp} (h : ∀ a w,bD n E a→ah w0 S M w→∃ w',(execOp a.eval ⟨hb,op,ty,pos,aft,none⟩).run P w=.ok .skip w'∧wpList P ops Q l (a.put hb undef) w') : JL P n w0 S ops Q (⟨hb,op,ty,pos,aft,none⟩::l) E M:=
  ⟨fun a w ha hw=>wpList_plain rfl fun K hK=>by
    obtain ⟨w',h1,h2⟩:=h a w ha hw
    unfold Oper.wp
    rw [h1]
    exact hK _ _ h2⟩
theorem JL.store (hx : ev E x=some (.pointer (some ⟨b,j,none⟩))) (hy : ev E y=some v) (hz : dm P t=some 1) (hv : v.oneCell'=true) (hcl : v.cells=#[v]) (hu : fy M b A A' M')
    (hA : ∀ o,A o→∃ c e,o=.cells c e (0,0)∧j<c.size∧A' (.cells (c.setIfInBounds j v) e (0,0)))
    (k : JL P n w0 S ops Q l E M') : JL P n w0 S ops Q (⟨none,.store t x y,ty,pos,aft,none⟩::l) E M:=
  JL.GA fun a w ha hw=>by
    obtain ⟨o,ho,hAo⟩:=hw.get hu.has
    obtain ⟨c,e,rfl,hj,hA'⟩:=hA o hAo
    refine ⟨w.setCell ⟨b,j,none⟩ v,?_,k.go _ _ (ha.m5 _) (hw.write hu hA' (jP ho) jQ (fun _ h=>jc h) rfl rfl rfl)⟩
    have hs : (storeCells ⟨b,j,none⟩ [v] 0).run P w=.ok () (w.setCell ⟨b,j,none⟩ v):=by
      simp only [storeCells,Sem.run_bind,cG,Nat.add_zero]
      rw [oF hv ho hj];rfl
    simp [execOp,ha.eval hx,ha.eval hy,Instr.storeAt,Instr.sureAddr,Sem.run_bind,storeVar,aE hz,hcl,hs]
theorem JL.ej {r : List Value} {e : TypeId} (hx : ev E x=some (.pointer (some ⟨b,j,none⟩))) (hy : ev E y=some v) (hz : dm P t=some 1) (hv : v.oneCell'=true) (hcl : v.cells=#[v]) (hu : fy M b (Row e r) (Row e (r.set j v)) M') (hj : j<r.length)
    (k : JL P n w0 S ops Q l E M') : JL P n w0 S ops Q (⟨none,.store t x y,ty,pos,aft,none⟩::l) E M:=
  JL.store hx hy hz hv hcl hu (fun o ho=>⟨_,_,ho,by simpa using hj,by simp [Row]⟩) k
theorem JL.aU {r r' : List Value} {e : TypeId} (hz : dm P t=some 1) (hx : ev E x=some (.pointer (some ⟨b,j,none⟩))) (hy : ev E y=some v) (hv : v.oneCell'=true) (hcl : v.cells=#[v]) (hu : fy M b (Row e r) (Row e r') M') (hj : j<r.length) (he : r.set j v=r')
    (k : JL P n w0 S ops Q l E M') : JL P n w0 S ops Q (⟨none,.store t x y,ty,pos,aft,none⟩::l) E M:=
  JL.store hx hy hz hv hcl hu (fun o ho=>⟨_,_,ho,by simpa using hj,by simp [Row,he]⟩) k
theorem JL.oG {k : Nat} (hz' : dm P t=some k) (hx : ev E x=some (.pointer (some ⟨b,j,none⟩))) (hy : ev E y=some (.agg cs.toArray)) (hl : cs.length=k) (hv : cs.all Value.oneCell'=true) (hu : fy M b A A' M')
    (hA : ∀ o,A o→∃ r e,o=.cells (List.toArray r) e (0,0)∧j+cs.length≤r.length∧A' (.cells (r.take j++cs++r.drop (j+cs.length)).toArray e (0,0)))
    (k : JL P n w0 S ops Q l E M') : JL P n w0 S ops Q (⟨none,.store t x y,ty,pos,aft,none⟩::l) E M:=
  JL.GA fun a w ha hw=>by
    have hz : dm P t=some cs.length:=hl ▸ hz'
    obtain ⟨o,ho,hAo⟩:=hw.get hu.has
    obtain ⟨r,e,rfl,hj,hA'⟩:=hA o hAo
    obtain ⟨w',r1,r2,r3,r4,r5,r6,r7⟩:=fe (P:=P) (j:=j) cs 0 w r (fun v hv'=>List.all_eq_true.1 hv v hv') ho (by omega)
    refine ⟨w',?_,k.go _ _ (ha.m5 _) (hw.write hu hA' (by simpa using r2) r3 r4 r5 r6 r7)⟩
    simp [execOp,ha.eval hx,ha.eval hy,Instr.storeAt,Instr.sureAddr,Sem.run_bind,storeVar,aE hz,Value.cells,r1]
theorem JL.ag {r : List Value} {e : TypeId} {m : Nat} (hz : dm P t=some m) (hx : ev E x=some (.pointer (some ⟨b,0,none⟩))) (hy : ev E y=some (.agg cs.toArray)) (hc : cs.length=m) (hv : cs.all Value.oneCell'=true) (hu : fy M b (Row e r) (Row e cs) M')
    (hr : r.length=m) (k : JL P n w0 S ops Q l E M') : JL P n w0 S ops Q (⟨none,.store t x y,ty,pos,aft,none⟩::l) E M:=
  JL.oG hz hx hy hc hv hu (fun o ho=>⟨r,e,ho,by omega,by simp [Row,hc,← hr]⟩) k
def enum : Nat→List Value→Env
  | _,[]=>[]
  | i,v::vs=>(i,v)::enum (i+1) vs
theorem u6 : ∀ (vs : List Value) (i t : Nat) (v : Value),lk (enum i vs) t=some v→i≤t∧vs[t - i]?=some v
  | [],_,_,_,h=>by simp [enum,lk] at h
  | u::vs,i,t,v,h=>by
    simp only [enum,lk] at h
    by_cases e : i=t
    · subst e
      simp at h
      simp [h]
    · have : Nat.beq i t=false:=Bool.eq_false_iff.2 fun h=>e (Nat.eq_of_beq_eq_true h)
      rw [this] at h
      obtain ⟨h1,h2⟩:=u6 vs (i+1) t v h
      refine ⟨by omega,?_⟩
      rw [show t - i=(t - (i+1))+1 by omega]
      simpa using h2
theorem bD.enter (vs : List Value) (hl : vs.length≤n) : bD n (enum 0 vs) ⟨vs.toArray++Array.replicate (n - vs.toArray.size) undef,[]⟩:=by
  refine ⟨by simp;omega,rfl,fun t v h=>?_⟩
  obtain ⟨_,h2⟩:=u6 vs 0 t v h
  have ht : t<vs.length:=(List.getElem?_eq_some_iff.1 h2).1
  simp only [Nat.sub_zero] at h2
  have h3:=(List.getElem?_eq_some_iff.1 h2).2
  simp [Array.getD_eq_getD_getElem?,Array.getElem?_append,ht,h3]
theorem enter {f : FuncId} {fn : Func} {c : Code} {vs : List Value} {w : World} {R : Ending→World→Prop} (hf : P.funcs[f]?=some fn) (hb : fn.body=some c) (hn : fn.ntmps=n) (hl : Nat.ble vs.length n=true)
    (hM : ah w S M w) (h : JC P n w S (bodyPost P fn R) c (enum 0 vs) M) : Calls P f vs.toArray w R:=by
  refine calls_of_wp hf hb (h.go _ _ ?_ hM)
  rw [hn]
  exact bD.enter vs (by simpa using hl)
def qV (tmps : Array Value) : ResultVar→Sem Value
  | .tmp t=>pure (tmps.getD t undef)
  | .cell p ty=>do loadVar ty (← asAddr (tmps.getD p undef))
theorem js (fn : Func) (tmps : Array Value) : results fn tmps=(do let vs ← fn.results.mapM (qV tmps);pure (if h : vs.size=1 then vs[0] else .tuple vs)):=by
  unfold results
  congr 2
def RV (P : Program) (n : Nat) (w0 : World) (S : List Nat) (E : Env) (M : List aJ) (r : ResultVar) (v : Value) : Prop:=
  ∀ a w,bD n E a→ah w0 S M w→(qV a.tmps r).run P w=.ok v w
theorem RV.tmp {t : Tmp} (h : lk E t=some v) : RV P n w0 S E M (.tmp t) v:=fun a w ha _=>by
  simp only [qV,ha.all t v h];rfl
theorem RV.av {p : Tmp} {k : Nat} (ha : ei P t=true) (hz : dm P t=some k) (h : lk E p=some (.pointer (some ⟨b,0,none⟩))) (hM : Has M b A wr) (hl : cs.length=k) (hA : ∀ o,A o→aY o 0 cs) : RV P n w0 S E M (.cell p t) (.agg cs.toArray):=fun a w hk hw=>by
  obtain ⟨o,ho,hAo⟩:=hw.get hM
  have:=gS (P:=P) ha (hl ▸ hz) (m8 ho (hA o hAo))
  simp [qV,hk.all p _ h,asAddr,this]
theorem RV.cell {p : Tmp} (h : lk E p=some (.pointer (some ⟨b,0,none⟩))) (ha : fP P t=true) (hM : Has M b A wr) (hA : ∀ o,A o→cellAt o 0=some v) : RV P n w0 S E M (.cell p t) v:=fun a w hk hw=>by
  obtain ⟨o,ho,hAo⟩:=hw.get hM
  have:=gv (P:=P) ha (mM ho (hA o hAo))
  simp [qV,hk.all p _ h,asAddr,this]
variable {fn : Func} {R : Ending→World→Prop} {r1 r2 r3 : ResultVar} {v1 v2 v3 : Value}
theorem JE.Fz (hr : fn.results=#[]) (hR : ∀ w,ah w0 S M w→R (.returned (.tuple #[])) w) : JE n w0 S (bodyPost P fn R) .ret E M:=⟨fun a w ha hw=>
  ⟨ha.defers,.tuple #[],by simp [results,hr],hR w hw⟩⟩
theorem JE.FA (hr : fn.results=#[]) (hR : ∀ w,ah w0 S M w→R (.returned (.tuple #[])) w) : JE n w0 S (bodyPost P fn R) .normal E M:=⟨fun a w ha hw=>
  ⟨ha.defers,.tuple #[],by simp [results,hr],hR w hw⟩⟩
theorem JE.aM (hr : fn.results=#[r1]) (h1 : RV P n w0 S E M r1 v1) (hR : ∀ w,ah w0 S M w→R (.returned v1) w) : JE n w0 S (bodyPost P fn R) .ret E M:=by
  refine ⟨fun a w ha hw=>?_⟩
  refine ⟨ha.defers,v1,?_,hR w hw⟩
  have e1:=h1 a w ha hw
  rw [js,hr]
  simp [e1]
theorem JE.fQ (hr : fn.results=#[r1,r2]) (h1 : RV P n w0 S E M r1 v1) (h2 : RV P n w0 S E M r2 v2) (hR : ∀ w,ah w0 S M w→R (.returned (.tuple #[v1,v2])) w) : JE n w0 S (bodyPost P fn R) .ret E M:=by
  refine ⟨fun a w ha hw=>?_⟩
  refine ⟨ha.defers,.tuple #[v1,v2],?_,hR w hw⟩
  have e1:=h1 a w ha hw
  have e2:=h2 a w ha hw
  rw [js,hr]
  simp [Sem.run_bind,e1,e2]
end
end Sl
end
section
namespace Sl
@[reducible] def N (a : Nat) : Value:=.int .i64 a
@[reducible] def U8 (a : BitVec 8) : Value:=.int .u8 a.toNat
@[reducible] def aV (a : BitVec 32) : Value:=.int .u32 a.toNat
@[reducible] def ai (a : BitVec 64) : Value:=.int .u64 a.toNat
section
variable {P : Program} {n : Nat} {E : Env} {C : World→Prop} {dst : Option Tmp} {ty t t' : TypeId} {pos : String} {aft : Array Edge} {g : Option (Nat × Bool)} {x y : Operand} {u v r : Value} {o : BinOp}
def Ef : BinOp→Bool
  | .eql | .neq=>false
  | _=>true
theorem OQ.bin (hx : ev E x=some u) (hy : ev E y=some v) (ho : Ef o=true) (h : ∀ w,(binOp o t u v).run P w=.ok r w) : OQ P n E C ⟨dst,.binOp o t x y t',ty,pos,aft,g⟩ r:=
  OQ.run fun a ha w _=>by
    have h1:=ha.eval hx
    have h2:=ha.eval hy
    have hg : ∀ w,(eqGuard o t x y u v).run P w=.ok () w:=fun w=>by
      cases o <;> first | rfl | cases ho
    simp [execOp,h1,h2,Sem.run_bind,hg,h w]
theorem OQ.FB {k : IntKind} {a b : Int} (hx : ev E x=some (.int k a)) (hy : ev E y=some (.int k b)) : OQ P n E C ⟨dst,.binOp .eql t x y t',ty,pos,aft,g⟩ (.bool (decide (a=b))):=
  OQ.run fun c ha w _=>by
    have h1:=ha.eval hx
    have h2:=ha.eval hy
    simp [execOp,h1,h2,eqGuard,binOp,Op.intCmp]
    rfl
theorem OQ.Fq {k : IntKind} {a b : Int} (hx : ev E x=some (.int k a)) (hy : ev E y=some (.int k b)) : OQ P n E C ⟨dst,.binOp .neq t x y t',ty,pos,aft,g⟩ (.bool (!decide (a=b))):=
  OQ.run fun c ha w _=>by
    have h1:=ha.eval hx
    have h2:=ha.eval hy
    simp [execOp,h1,h2,eqGuard,binOp,Op.intCmp]
    rfl
theorem eg {w : World} {k : IntKind} {i j : Int} (e : i=j) : (Result.ok (Value.int k i) w : Result Value)=.ok (.int k j) w:=by rw [e]
theorem gT {w : World} {i j : Bool} (e : i=j) : (Result.ok (Value.bool i) w : Result Value)=.ok (.bool j) w:=by rw [e]
theorem mg {a : Int} (h0 : -9223372036854775808≤a) (h : a<9223372036854775808) : IntKind.i64.wrap a=a:=by
  simp [IntKind.wrap,IntKind.bits,IntKind.signed];omega
theorem OQ.bH {a b : Nat} (hx : ev E x=some (N a)) (hy : ev E y=some (N b)) (h : a+b<9223372036854775808) : OQ P n E C ⟨dst,.binOp .add t x y t',ty,pos,aft,g⟩ (N (a+b)):=
  OQ.bin hx hy rfl fun _=>eg (k:=.i64) (show IntKind.i64.wrap ((a : Int)+b)=((a+b : Nat) : Int) from (mg (by omega) (by omega)).trans (by simp))
theorem OQ.mG {a b : Nat} (hx : ev E x=some (N a)) (hy : ev E y=some (N b)) (h : b≤a) (h2 : a<9223372036854775808) : OQ P n E C ⟨dst,.binOp .sub t x y t',ty,pos,aft,g⟩ (N (a - b)):=
  OQ.bin hx hy rfl fun _=>eg (k:=.i64) (show IntKind.i64.wrap ((a : Int) - b)=((a - b : Nat) : Int) from (mg (by omega) (by omega)).trans (by omega))
theorem OQ.gN {a b : Nat} (hx : ev E x=some (N a)) (hy : ev E y=some (N b)) (h : a * b<9223372036854775808) : OQ P n E C ⟨dst,.binOp .mul t x y t',ty,pos,aft,g⟩ (N (a * b)):=
  OQ.bin hx hy rfl fun _=>eg (k:=.i64) (show IntKind.i64.wrap ((a : Int) * b)=((a * b : Nat) : Int) from by
    rw [← Int.natCast_mul]
    generalize a * b=c at h
    exact mg (by omega) (by omega))
theorem OQ.tg {a b : Nat} (hx : ev E x=some (N a)) (hy : ev E y=some (N b)) (h : 0<b) (h2 : a<9223372036854775808) : OQ P n E C ⟨dst,.binOp .quo t x y t',ty,pos,aft,g⟩ (N (a / b)):=
  OQ.bin hx hy rfl fun w=>by
    have h3 : a / b≤a:=Nat.div_le_self _ _
    have h4 : ((a : Int).tdiv b)=((a / b : Nat) : Int):=by rw [Int.tdiv_eq_ediv_of_nonneg (by omega)];exact_mod_cast rfl
    have h5 : ¬ (b : Int)=0:=by omega
    have h6 : IntKind.i64.wrap ((a : Int).tdiv b)=((a / b : Nat) : Int):=by rw [h4];generalize a / b=c at h3;exact mg (by omega) (by omega)
    have h7 : Op.intDiv .quo .i64 (a : Int) b=(Pure.pure (.int .i64 (IntKind.i64.wrap ((a : Int).tdiv b))) : Sem Value):=by simp only [Op.intDiv,if_neg h5]
    show Sem.run P (Op.intDiv .quo .i64 (a : Int) b) w=_
    rw [h7,h6];rfl
theorem OQ.xG {a b : Nat} (hx : ev E x=some (N a)) (hy : ev E y=some (N b)) (h : 0<b) : OQ P n E C ⟨dst,.binOp .rem t x y t',ty,pos,aft,g⟩ (N (a % b)):=
  OQ.bin hx hy rfl fun w=>by
    have h4 : ((a : Int).tmod b)=((a % b : Nat) : Int):=by rw [Int.tmod_eq_emod_of_nonneg (by omega)];exact_mod_cast rfl
    have h5 : ¬ (b : Int)=0:=by omega
    have h7 : Op.intDiv .rem .i64 (a : Int) b=(Pure.pure (.int .i64 ((a : Int).tmod b)) : Sem Value):=by simp only [Op.intDiv,if_neg h5]
    show Sem.run P (Op.intDiv .rem .i64 (a : Int) b) w=_
    rw [h7,h4];rfl
theorem OQ.cF {a b : Nat} (hx : ev E x=some (N a)) (hy : ev E y=some (N b)) : OQ P n E C ⟨dst,.binOp .lss t x y t',ty,pos,aft,g⟩ (.bool (decide (a<b))):=
  OQ.bin hx hy rfl fun _=>gT (decide_eq_decide.2 Int.ofNat_lt)
theorem OQ.Ct {a b : Nat} (hx : ev E x=some (N a)) (hy : ev E y=some (N b)) : OQ P n E C ⟨dst,.binOp .gtr t x y t',ty,pos,aft,g⟩ (.bool (decide (b<a))):=
  OQ.bin hx hy rfl fun _=>gT (decide_eq_decide.2 Int.ofNat_lt)
theorem OQ.FC {a b : Nat} (hx : ev E x=some (N a)) (hy : ev E y=some (N b)) : OQ P n E C ⟨dst,.binOp .geq t x y t',ty,pos,aft,g⟩ (.bool (decide (b≤a))):=
  OQ.bin hx hy rfl fun _=>gT (decide_eq_decide.2 Int.ofNat_le)
theorem OQ.G3 {a b : Nat} (hx : ev E x=some (N a)) (hy : ev E y=some (N b)) : OQ P n E C ⟨dst,.binOp .eql t x y t',ty,pos,aft,g⟩ (.bool (decide (a=b))):=
  (decide_eq_decide.2 Int.ofNat_inj : decide ((a : Int)=b)=decide (a=b)) ▸ OQ.FB hx hy
theorem OQ.G4 {a b : Nat} (hx : ev E x=some (N a)) (hy : ev E y=some (N b)) : OQ P n E C ⟨dst,.binOp .neq t x y t',ty,pos,aft,g⟩ (.bool (!decide (a=b))):=
  (decide_eq_decide.2 Int.ofNat_inj : decide ((a : Int)=b)=decide (a=b)) ▸ OQ.Fq hx hy
theorem bK {k : Nat} (a : BitVec k) : BitVec.ofInt k (a.toNat : Int)=a:=by simp
theorem wrap32 (a : Nat) : IntKind.u32.wrap (a : Int)=((a % 2 ^ 32 : Nat) : Int):=by simp [IntKind.wrap,IntKind.bits,IntKind.signed]
theorem oH (a : Nat) : IntKind.u8.wrap (a : Int)=((a % 2 ^ 8 : Nat) : Int):=by simp [IntKind.wrap,IntKind.bits,IntKind.signed]
theorem wrap64 (a : Nat) : IntKind.u64.wrap (a : Int)=((a % 2 ^ 64 : Nat) : Int):=by simp [IntKind.wrap,IntKind.bits,IntKind.signed]
theorem mO (a : BitVec 32) : IntKind.u32.wrap (a.toNat : Int)=a.toNat:=by rw [wrap32,Nat.mod_eq_of_lt a.isLt]
theorem th (a : BitVec 8) : IntKind.u8.wrap (a.toNat : Int)=a.toNat:=by rw [oH,Nat.mod_eq_of_lt a.isLt]
theorem pS (a : BitVec 64) : IntKind.u64.wrap (a.toNat : Int)=a.toNat:=by rw [wrap64,Nat.mod_eq_of_lt a.isLt]
theorem OQ.mh {a b : BitVec 32} (hx : ev E x=some (aV a)) (hy : ev E y=some (aV b)) : OQ P n E C ⟨dst,.binOp .add t x y t',ty,pos,aft,g⟩ (aV (a+b)):=
  OQ.bin hx hy rfl fun _=>eg (k:=.u32) (show IntKind.u32.wrap ((a.toNat : Int)+b.toNat)=((a+b).toNat : Int) by rw [BitVec.toNat_add,← wrap32];simp)
theorem OQ.gU {a b : BitVec 64} (hx : ev E x=some (ai a)) (hy : ev E y=some (ai b)) : OQ P n E C ⟨dst,.binOp .add t x y t',ty,pos,aft,g⟩ (ai (a+b)):=
  OQ.bin hx hy rfl fun _=>eg (k:=.u64) (show IntKind.u64.wrap ((a.toNat : Int)+b.toNat)=((a+b).toNat : Int) by rw [BitVec.toNat_add,← wrap64];simp)
theorem OQ.jR {a b : BitVec 64} (hx : ev E x=some (ai a)) (hy : ev E y=some (ai b)) : OQ P n E C ⟨dst,.binOp .mul t x y t',ty,pos,aft,g⟩ (ai (a * b)):=
  OQ.bin hx hy rfl fun _=>eg (k:=.u64) (show IntKind.u64.wrap ((a.toNat : Int) * b.toNat)=((a * b).toNat : Int) by rw [BitVec.toNat_mul,← wrap64];simp)
theorem OQ.BU {a b : BitVec 64} (hx : ev E x=some (ai a)) (hy : ev E y=some (ai b)) (hb : b.toNat≠0) : OQ P n E C ⟨dst,.binOp .rem t x y t',ty,pos,aft,g⟩ (ai (a % b)):=
  OQ.bin hx hy rfl fun w=>by
    have h4 : ((a.toNat : Int).tmod b.toNat)=(((a % b).toNat : Nat) : Int):=by rw [Int.tmod_eq_emod_of_nonneg (by omega),BitVec.toNat_umod];exact_mod_cast rfl
    have h5 : ¬ ((b.toNat : Int)=0):=by omega
    have h7 : Op.intDiv .rem .u64 (a.toNat : Int) b.toNat=(Pure.pure (.int .u64 ((a.toNat : Int).tmod b.toNat)) : Sem Value):=by simp only [Op.intDiv,if_neg h5]
    show Sem.run P (Op.intDiv .rem .u64 (a.toNat : Int) b.toNat) w=_
    rw [h7,h4];rfl
theorem OQ.BV {a b : BitVec 32} (hx : ev E x=some (aV a)) (hy : ev E y=some (aV b)) : OQ P n E C ⟨dst,.binOp .and t x y t',ty,pos,aft,g⟩ (aV (a &&& b)):=
  OQ.bin hx hy rfl fun _=>eg (k:=.u32) (show IntKind.u32.wrap ((BitVec.ofInt 32 (a.toNat : Int) &&& BitVec.ofInt 32 (b.toNat : Int)).toNat : Int)=_ by rw [bK,bK,mO])
theorem OQ.As {a b : BitVec 32} (hx : ev E x=some (aV a)) (hy : ev E y=some (aV b)) : OQ P n E C ⟨dst,.binOp .or t x y t',ty,pos,aft,g⟩ (aV (a ||| b)):=
  OQ.bin hx hy rfl fun _=>eg (k:=.u32) (show IntKind.u32.wrap ((BitVec.ofInt 32 (a.toNat : Int) ||| BitVec.ofInt 32 (b.toNat : Int)).toNat : Int)=_ by rw [bK,bK,mO])
theorem OQ.oI {a b : BitVec 32} (hx : ev E x=some (aV a)) (hy : ev E y=some (aV b)) : OQ P n E C ⟨dst,.binOp .xor t x y t',ty,pos,aft,g⟩ (aV (a ^^^ b)):=
  OQ.bin hx hy rfl fun _=>eg (k:=.u32) (show IntKind.u32.wrap ((BitVec.ofInt 32 (a.toNat : Int) ^^^ BitVec.ofInt 32 (b.toNat : Int)).toNat : Int)=_ by rw [bK,bK,mO])
theorem OQ.Eg {a b : BitVec 8} (hx : ev E x=some (U8 a)) (hy : ev E y=some (U8 b)) : OQ P n E C ⟨dst,.binOp .xor t x y t',ty,pos,aft,g⟩ (U8 (a ^^^ b)):=
  OQ.bin hx hy rfl fun _=>eg (k:=.u8) (show IntKind.u8.wrap ((BitVec.ofInt 8 (a.toNat : Int) ^^^ BitVec.ofInt 8 (b.toNat : Int)).toNat : Int)=_ by rw [bK,bK,th])
theorem OQ.jd {a b : BitVec 64} (hx : ev E x=some (ai a)) (hy : ev E y=some (ai b)) : OQ P n E C ⟨dst,.binOp .and t x y t',ty,pos,aft,g⟩ (ai (a &&& b)):=
  OQ.bin hx hy rfl fun _=>eg (k:=.u64) (show IntKind.u64.wrap ((BitVec.ofInt 64 (a.toNat : Int) &&& BitVec.ofInt 64 (b.toNat : Int)).toNat : Int)=_ by rw [bK,bK,pS])
theorem OQ.BW {a : BitVec 32} (hx : ev E x=some (aV a)) : OQ P n E C ⟨dst,.unOp .xor t x,ty,pos,aft,g⟩ (aV (~~~ a)):=
  OQ.run fun c ha w _=>by
    have h1:=ha.eval hx
    have h2 : BitVec.ofInt 32 IntKind.u32.max ^^^ BitVec.ofInt 32 (a.toNat : Int)= ~~~ a:=by
      rw [bK,show BitVec.ofInt 32 IntKind.u32.max=BitVec.allOnes 32 from rfl,BitVec.allOnes_xor]
    have h3 : IntKind.u32.wrap ((BitVec.ofInt 32 IntKind.u32.max ^^^ BitVec.ofInt 32 (a.toNat : Int)).toNat : Int)=((~~~ a).toNat : Int):=by rw [h2,mO]
    simp only [execOp,h1]
    exact congrArg (fun z : Int=>(Result.ok (Next.value (Value.int .u32 z)) w : Result Next)) h3
theorem OQ.u7 {a : BitVec 32} {yk : IntKind} {k : Nat} (hx : ev E x=some (aV a)) (hy : ev E y=some (.int yk k)) : OQ P n E C ⟨dst,.binOp .shl t x y t',ty,pos,aft,g⟩ (aV (a <<< k)):=
  OQ.bin hx hy rfl fun w=>by
    have h1 : IntKind.u32.wrap ((a.toNat : Int) * 2 ^ (min k 32))=((a <<< k).toNat : Int):=by
      rw [show ((a.toNat : Int) * 2 ^ (min k 32))=((a.toNat * 2 ^ (min k 32) : Nat) : Int) by simp,wrap32,BitVec.toNat_shiftLeft,Nat.shiftLeft_eq]
      by_cases hk : k≤32
      · rw [Nat.min_eq_left hk]
      · rw [Nat.min_eq_right (by omega)]
        congr 1
        rw [show k=32+(k - 32) by omega,Nat.pow_add,Nat.mul_mod_left,Nat.mul_left_comm,Nat.mul_mod_right]
    have h7 : Op.shift .shl .u32 (a.toNat : Int) yk (k : Int)=(Pure.pure (.int .u32 (IntKind.u32.wrap ((a.toNat : Int) * 2 ^ (min k 32)))) : Sem Value):=by
      unfold Op.shift
      rw [if_neg (by omega)];rfl
    show Sem.run P (Op.shift .shl .u32 (a.toNat : Int) yk (k : Int)) w=_
    rw [h7,h1];rfl
theorem OQ.oJ {a : BitVec 32} {yk : IntKind} {k : Nat} (hx : ev E x=some (aV a)) (hy : ev E y=some (.int yk k)) : OQ P n E C ⟨dst,.binOp .shr t x y t',ty,pos,aft,g⟩ (aV (a >>> k)):=
  OQ.bin hx hy rfl fun w=>by
    have h1 : (a.toNat : Int).fdiv (2 ^ (min k 32))=((a >>> k).toNat : Int):=by
      rw [Int.fdiv_eq_ediv_of_nonneg _ (by exact Int.le_of_lt (Int.pow_pos (by decide))),BitVec.toNat_ushiftRight,Nat.shiftRight_eq_div_pow]
      by_cases hk : k≤32
      · rw [Nat.min_eq_left hk];simp
      · rw [Nat.min_eq_right (by omega)]
        have:=a.isLt
        rw [Nat.div_eq_of_lt (Nat.lt_of_lt_of_le this (Nat.pow_le_pow_right (by omega) (by omega)))]
        exact Int.ediv_eq_zero_of_lt (by omega) (by exact_mod_cast this)
    have h7 : Op.shift .shr .u32 (a.toNat : Int) yk (k : Int)=(Pure.pure (.int .u32 ((a.toNat : Int).fdiv (2 ^ (min k 32)))) : Sem Value):=by
      unfold Op.shift
      rw [if_neg (by omega)];rfl
    show Sem.run P (Op.shift .shr .u32 (a.toNat : Int) yk (k : Int)) w=_
    rw [h7,h1];rfl
theorem OQ.gV {a : BitVec 64} {yk : IntKind} {k : Nat} (hx : ev E x=some (ai a)) (hy : ev E y=some (.int yk k)) : OQ P n E C ⟨dst,.binOp .shr t x y t',ty,pos,aft,g⟩ (ai (a >>> k)):=
  OQ.bin hx hy rfl fun w=>by
    have h1 : (a.toNat : Int).fdiv (2 ^ (min k 64))=((a >>> k).toNat : Int):=by
      rw [Int.fdiv_eq_ediv_of_nonneg _ (by exact Int.le_of_lt (Int.pow_pos (by decide))),BitVec.toNat_ushiftRight,Nat.shiftRight_eq_div_pow]
      by_cases hk : k≤64
      · rw [Nat.min_eq_left hk];simp
      · rw [Nat.min_eq_right (by omega)]
        have:=a.isLt
        rw [Nat.div_eq_of_lt (Nat.lt_of_lt_of_le this (Nat.pow_le_pow_right (by omega) (by omega)))]
        exact Int.ediv_eq_zero_of_lt (by omega) (by exact_mod_cast this)
    have h7 : Op.shift .shr .u64 (a.toNat : Int) yk (k : Int)=(Pure.pure (.int .u64 ((a.toNat : Int).fdiv (2 ^ (min k 64)))) : Sem Value):=by
      unfold Op.shift
      rw [if_neg (by omega)];rfl
    show Sem.run P (Op.shift .shr .u64 (a.toNat : Int) yk (k : Int)) w=_
    rw [h7,h1];rfl
end
end Sl
end
section
namespace Sl
section
variable {P : Program} {n : Nat} {E : Env} {C : World→Prop} {dst : Option Tmp} {ty t t' e : TypeId} {pos : String} {aft : Array Edge} {g : Option (Nat × Bool)} {x y : Operand} {u v r : Value}
theorem OQ.conv {k k' : IntKind} {d : TypeDesc} {i : Int} (hs : P.underlying t=some d) (hd : P.underlying t'=some (.int k)) (hx : ev E x=some (.int k' i)) (hv : v=.int k (k.wrap i)) : OQ P n E C ⟨dst,.convert t t' x,ty,pos,aft,g⟩ v:=by
  subst hv
  refine OQ.run fun a ha w _=>?_
  have h1:=ha.eval hx
  have h2 : (underlying t).run P w=.ok d w:=run_underlying hs w
  have h3 : (underlying t').run P w=.ok (.int k) w:=run_underlying hd w
  cases d <;> simp [execOp,h1,convert,Sem.run_bind,h2,h3,Conv.intToInt]
theorem OQ.qW {d : TypeDesc} {a : BitVec 8} (hs : P.underlying t=some d) (hd : P.underlying t'=some (.int .u32)) (hx : ev E x=some (U8 a)) : OQ P n E C ⟨dst,.convert t t' x,ty,pos,aft,g⟩ (aV (a.setWidth 32)):=
  OQ.conv hs hd hx (by rw [wrap32];simp [aV])
theorem OQ.qX {d : TypeDesc} {a : BitVec 32} (hs : P.underlying t=some d) (hd : P.underlying t'=some (.int .u8)) (hx : ev E x=some (aV a)) : OQ P n E C ⟨dst,.convert t t' x,ty,pos,aft,g⟩ (U8 (a.setWidth 8)):=
  OQ.conv hs hd hx (by rw [oH];simp [U8])
theorem OQ.ng {d : TypeDesc} {a : BitVec 64} (hs : P.underlying t=some d) (hd : P.underlying t'=some (.int .u8)) (hx : ev E x=some (ai a)) : OQ P n E C ⟨dst,.convert t t' x,ty,pos,aft,g⟩ (U8 (a.setWidth 8)):=
  OQ.conv hs hd hx (by rw [oH];simp [U8])
theorem OQ.gf {d : TypeDesc} {a : Nat} (hs : P.underlying t=some d) (hd : P.underlying t'=some (.int .u64)) (hx : ev E x=some (N a)) : OQ P n E C ⟨dst,.convert t t' x,ty,pos,aft,g⟩ (ai (BitVec.ofNat 64 a)):=
  OQ.conv hs hd hx (by rw [wrap64];simp [ai])
theorem OQ.mP {d : TypeDesc} {a : Nat} (hs : P.underlying t=some d) (hd : P.underlying t'=some (.int .u8)) (hx : ev E x=some (N a)) : OQ P n E C ⟨dst,.convert t t' x,ty,pos,aft,g⟩ (U8 (BitVec.ofNat 8 a)):=
  OQ.conv hs hd hx (by rw [oH];simp [U8])
theorem OQ.jS {d : TypeDesc} {a : BitVec 64} (hs : P.underlying t=some d) (hd : P.underlying t'=some (.int .i64)) (hx : ev E x=some (ai a)) (h : a.toNat<9223372036854775808) : OQ P n E C ⟨dst,.convert t t' x,ty,pos,aft,g⟩ (N a.toNat):=
  OQ.conv hs hd hx (by rw [mg (by omega) (by omega)])
theorem OQ.FD {a : Nat} (hx : ev E x=some (N a)) (h : a<9223372036854775808) : OQ P n E C ⟨dst,.unOp .neg t x,ty,pos,aft,g⟩ (.int .i64 (-(a : Int))):=
  OQ.run fun c ha w _=>by
    have h1:=ha.eval hx
    have h3 : IntKind.i64.wrap ((0 : Int) - (a : Int))=-(a : Int):=(mg (by omega) (by omega)).trans (by omega)
    simp only [execOp,h1]
    exact congrArg (fun z : Int=>(Result.ok (Next.value (Value.int .i64 z)) w : Result Next)) h3
theorem OQ.BX {a b : BitVec 64} (hx : ev E x=some (ai a)) (hy : ev E y=some (ai b)) (h : b.toNat≤a.toNat) : OQ P n E C ⟨dst,.binOp .sub t x y t',ty,pos,aft,g⟩ (ai (a - b)):=
  OQ.bin hx hy rfl fun _=>eg (k:=.u64) (show IntKind.u64.wrap ((a.toNat : Int) - b.toNat)=((a - b).toNat : Int) by
    rw [BitVec.toNat_sub_of_le (by simpa [BitVec.le_def] using h),← Int.ofNat_sub h,wrap64,Nat.mod_eq_of_lt (by have:=a.isLt;omega)])
theorem OQ.FE {len b j i sz : Nat} (hu : P.underlying t=some (.array len e)) (hz : dm P e=some sz) (hx : ev E x=some (.pointer (some ⟨b,j,none⟩))) (hy : ev E y=some (N i)) (hi : i<len) :
    OQ P n E C ⟨dst,.indexAddr t x y,ty,pos,aft,g⟩ (.pointer (some ⟨b,j+i * sz,none⟩)):=
  OQ.run fun a ha w _=>by
    have h1:=ha.eval hx
    have h2:=ha.eval hy
    have h3 : (underlying t).run P w=.ok (.array len e) w:=run_underlying hu w
    have h4 : (0 : Int)≤(i : Int)∧(i : Int)<(len : Int):=by omega
    simp [execOp,h1,h2,Instr.indexAt,asIntOf,Sem.run_bind,h3,Instr.sureAddr,hi,aE hz,cG]
theorem OQ.gw {len cap b j i sz : Nat} (hu : P.underlying t=some (.slice e)) (hz : dm P e=some sz) (hx : ev E x=some (.slice (some ⟨b,j,none⟩) len cap)) (hy : ev E y=some (N i)) (hi : i<len) :
    OQ P n E C ⟨dst,.indexAddr t x y,ty,pos,aft,g⟩ (.pointer (some ⟨b,j+i * sz,none⟩)):=
  OQ.run fun a ha w _=>by
    have h1:=ha.eval hx
    have h2:=ha.eval hy
    have h3 : (underlying t).run P w=.ok (.slice e) w:=run_underlying hu w
    simp [execOp,h1,h2,Instr.indexAt,asIntOf,Sem.run_bind,h3,hi,aE hz,cG]
theorem OQ.aW {len b i : Nat} (hu : P.underlying t=some (.array len e)) (hz : dm P e=some 1) (hx : ev E x=some (.pointer (some ⟨b,0,none⟩))) (hy : ev E y=some (N i)) (hi : i<len) :
    OQ P n E C ⟨dst,.indexAddr t x y,ty,pos,aft,g⟩ (.pointer (some ⟨b,i,none⟩)):=by
  have:=OQ.FE (P:=P) (n:=n) (C:=C) (dst:=dst) (ty:=ty) (pos:=pos) (aft:=aft) (g:=g) hu hz hx hy hi
  rwa [Nat.mul_one,Nat.zero_add] at this
theorem OQ.Eh {len cap b i : Nat} (hu : P.underlying t=some (.slice e)) (hz : dm P e=some 1) (hx : ev E x=some (.slice (some ⟨b,0,none⟩) len cap)) (hy : ev E y=some (N i)) (hi : i<len) :
    OQ P n E C ⟨dst,.indexAddr t x y,ty,pos,aft,g⟩ (.pointer (some ⟨b,i,none⟩)):=by
  have:=OQ.gw (P:=P) (n:=n) (C:=C) (dst:=dst) (ty:=ty) (pos:=pos) (aft:=aft) (g:=g) hu hz hx hy hi
  rwa [Nat.mul_one,Nat.zero_add] at this
theorem OQ.eC {len cap b j i : Nat} (hu : P.underlying t=some (.slice e)) (hz : dm P e=some 1) (hx : ev E x=some (.slice (some ⟨b,j,none⟩) len cap)) (hy : ev E y=some (N i)) (hi : i<len) :
    OQ P n E C ⟨dst,.indexAddr t x y,ty,pos,aft,g⟩ (.pointer (some ⟨b,j+i,none⟩)):=by
  have:=OQ.gw (P:=P) (n:=n) (C:=C) (dst:=dst) (ty:=ty) (pos:=pos) (aft:=aft) (g:=g) hu hz hx hy hi
  rwa [Nat.mul_one] at this
theorem OQ.index {len i : Nat} {cs : List Value} (hu : P.underlying t=some (.array len e)) (hz : dm P e=some 1) (hs : fP P e=true) (hx : ev E x=some (.agg cs.toArray)) (hy : ev E y=some (N i)) (hi : i<len) (hv : cs[i]?=some v) :
    OQ P n E C ⟨dst,.index t x y,ty,pos,aft,g⟩ v:=
  OQ.run fun a ha w _=>by
    have h1:=ha.eval hx
    have h2:=ha.eval hy
    have h3 : (underlying t).run P w=.ok (.array len e) w:=run_underlying hu w
    simp [execOp,h1,h2,Instr.index,asIntOf,Sem.run_bind,h3,hi,aE hz,part,m7 hs,hv]
theorem OQ.cw {s f : Nat} {fs : Array Field} {fd : Field} {b j sz : Nat} (hu : P.underlying s=some (.struct fs)) (hf : fs[f]?=some fd) (hz : dm P fd.type=some sz) (h0 : sz≠0) (hx : ev E x=some (.pointer (some ⟨b,j,none⟩))) :
    OQ P n E C ⟨dst,.fieldAddr s x f,ty,pos,aft,g⟩ (.pointer (some ⟨b,j+fd.offset,none⟩)):=
  OQ.run fun a ha w _=>by
    have h1:=ha.eval hx
    have h3 : (underlying s).run P w=.ok (.struct fs) w:=run_underlying hu w
    simp [execOp,h1,Instr.fieldAt,Sem.run_bind,h3,hf,Instr.sureAddr,fieldPlace,aE hz,h0,cG]
theorem OQ.arr {len cap k : Nat} {ad : Option Addr} (hu : P.underlying t=some (.array k e)) (hx : ev E x=some (.slice ad len cap)) (hl : k≤len) : OQ P n E C ⟨dst,.sliceToArrayPointer t x,ty,pos,aft,g⟩ (.pointer ad):=
  OQ.run fun a ha w _=>by
    have h1:=ha.eval hx
    have h3 : (underlying t).run P w=.ok (.array k e) w:=run_underlying hu w
    have : ¬ len<k:=by omega
    simp [execOp,h1,Instr.arrayAt,Sem.run_bind,h3,this]
theorem OQ.tj {len b j lo : Nat} (hu : P.underlying t=some (.array len e)) (hz : dm P e=some 1) (hx : ev E x=some (.pointer (some ⟨b,j,none⟩))) (hl : ev E y=some (N lo)) (h : lo<len) :
    OQ P n E C ⟨dst,.slice t x (some y) none none,ty,pos,aft,g⟩ (.slice (some ⟨b,j+lo,none⟩) (len - lo) (len - lo)):=
  OQ.run fun a ha w _=>by
    have h1:=ha.eval hx
    have h2:=ha.eval hl
    have h3 : (underlying t).run P w=.ok (.array len e) w:=run_underlying hu w
    have h4 : lo≤len:=by omega
    have h5 : ¬ len=lo:=by omega
    simp [execOp,h1,h2,Instr.sliceAt,Sem.run_bind,h3,Instr.sureAddr,Instr.sliceBounds,Instr.sliceBound,asIntOf,h4,aE hz,h5,cG]
theorem OQ.iT {len b j sz : Nat} (hu : P.underlying t=some (.array len e)) (hz : dm P e=some sz) (hx : ev E x=some (.pointer (some ⟨b,j,none⟩))) :
    OQ P n E C ⟨dst,.slice t x none none none,ty,pos,aft,g⟩ (.slice (some ⟨b,j,none⟩) len len):=
  OQ.run fun a ha w _=>by
    have h1:=ha.eval hx
    have h3 : (underlying t).run P w=.ok (.array len e) w:=run_underlying hu w
    have h6 : (⟨b,j,none⟩ : Addr).add 0=⟨b,j,none⟩:=by rw [cG];rfl
    simp [execOp,h1,Instr.sliceAt,Sem.run_bind,h3,Instr.sureAddr,Instr.sliceBounds,aE hz,h6]
theorem OQ.At {len b j hi mx sz : Nat} {z : Operand} (hu : P.underlying t=some (.array len e)) (hz : dm P e=some sz) (hx : ev E x=some (.pointer (some ⟨b,j,none⟩))) (hh : ev E y=some (N hi)) (hm : ev E z=some (N mx)) (h : hi≤mx) (h' : mx≤len) :
    OQ P n E C ⟨dst,.slice t x none (some y) (some z),ty,pos,aft,g⟩ (.slice (some ⟨b,j,none⟩) hi mx):=
  OQ.run fun a ha w _=>by
    have h1:=ha.eval hx
    have h2:=ha.eval hh
    have h2':=ha.eval hm
    have h3 : (underlying t).run P w=.ok (.array len e) w:=run_underlying hu w
    have h6 : (⟨b,j,none⟩ : Addr).add 0=⟨b,j,none⟩:=by rw [cG];rfl
    simp [execOp,h1,h2,h2',Instr.sliceAt,Sem.run_bind,h3,Instr.sureAddr,Instr.sliceBounds,Instr.sliceBound,asIntOf,h,h',aE hz,h6]
theorem OQ.pT {len cap lo sz : Nat} {ad : Option Addr} (hu : P.underlying t=some (.slice e)) (hz : dm P e=some sz) (hx : ev E x=some (.slice ad len cap)) (hl : ev E y=some (N lo)) (h : lo≤len) :
    OQ P n E C ⟨dst,.slice t x (some y) none none,ty,pos,aft,g⟩ (.slice (if cap=lo then ad else ad.map (·.add (lo * sz))) (len - lo) (cap - lo)):=
  OQ.run fun a ha w _=>by
    have h1:=ha.eval hx
    have h2:=ha.eval hl
    have h3 : (underlying t).run P w=.ok (.slice e) w:=run_underlying hu w
    simp [execOp,h1,h2,Instr.sliceAt,Sem.run_bind,h3,Instr.slice,Instr.sliceBounds,Instr.sliceBound,asIntOf,h,aE hz]
theorem OQ.tn {len cap hi sz : Nat} {ad : Option Addr} (hu : P.underlying t=some (.slice e)) (hz : dm P e=some sz) (hx : ev E x=some (.slice ad len cap)) (hh : ev E y=some (N hi)) (h : hi≤cap) :
    OQ P n E C ⟨dst,.slice t x none (some y) none,ty,pos,aft,g⟩ (.slice (if cap=0 then ad else ad.map (·.add 0)) hi cap):=
  OQ.run fun a ha w _=>by
    have h1:=ha.eval hx
    have h2:=ha.eval hh
    have h3 : (underlying t).run P w=.ok (.slice e) w:=run_underlying hu w
    simp [execOp,h1,h2,Instr.sliceAt,Sem.run_bind,h3,Instr.slice,Instr.sliceBounds,Instr.sliceBound,asIntOf,h,aE hz]
end
end Sl
end
section
namespace Sl
def Reads (w : World) (ad : Option Addr) (cs : List Value) : Prop:=∀ i v,cs[i]?=some v→∃ b j,ad=some ⟨b,j,none⟩∧w.cell? ⟨b,j+i,none⟩=some v
theorem Reads.nil (w : World) (ad : Option Addr) : Reads w ad []:=by intro i v h;simp at h
theorem Reads.at {w : World} {ad : Option Addr} {cs : List Value} (h : Reads w ad cs) (h0 : 0<cs.length) : ∃ b j,ad=some ⟨b,j,none⟩∧∀ i v,cs[i]?=some v→w.cell? ⟨b,j+i,none⟩=some v:=by
  obtain ⟨b,j,h1,_⟩:=h 0 cs[0] (by simp [h0])
  refine ⟨b,j,h1,fun i v hv=>?_⟩
  obtain ⟨b',j',h2,h3⟩:=h i v hv
  rw [h1] at h2
  cases h2
  exact h3
theorem Reads.of {w : World} {b j : Nat} {cs : List Value} (h : ∀ i v,cs[i]?=some v→w.cell? ⟨b,j+i,none⟩=some v) : Reads w (some ⟨b,j,none⟩) cs:=fun i v hv=>⟨b,j,rfl,h i v hv⟩
theorem Reads.block {w : World} {b j : Nat} {cs : List Value} {o : Obj} (ho : w.heap[b]?=some o) (h : aY o j cs) : Reads w (some ⟨b,j,none⟩) cs:=.of (m8 ho h)
theorem Reads.take {w : World} {ad : Option Addr} {cs : List Value} (h : Reads w ad cs) (k : Nat) : Reads w ad (cs.take k):=fun i v hv=>h i v (by
  rw [List.getElem?_take] at hv
  split at hv
  · exact hv
  · cases hv)
theorem Reads.drop {w : World} {ad : Option Addr} {cs : List Value} {len cap lo : Nat} (h : Reads w ad cs) (hl : cs.length=len) (hc : len≤cap) (hlo : lo≤len) : Reads w (if cap=lo then ad else ad.map (·.add (lo * 1))) (cs.drop lo):=by
  by_cases e : cap=lo
  · rw [if_pos e,List.drop_of_length_le (by omega)]
    exact .nil _ _
  · rw [if_neg e]
    intro i v hv
    rw [List.getElem?_drop] at hv
    obtain ⟨b,j,h1,h2⟩:=h _ v hv
    refine ⟨b,j+lo,by simp [h1,cG],by rw [Nat.add_assoc];exact h2⟩
section
variable {P : Program} {w : World} {cs : List Value} {ad : Option Addr} {m c sz : Nat}
theorem nh (hl : cs.length=m * sz) (h : Reads w ad cs) (len : Nat) : (Builtin.firstCells sz m (.slice ad len c)).run P w=.ok cs.toArray w:=by
  by_cases h0 : cs=[]
  · subst h0
    have hm : m * sz=0:=by simpa using hl.symm
    cases ad with
    | none=>rfl
    | some a=>simp [Builtin.firstCells,hm,loadCells,loadCellsFrom]
  · obtain ⟨b,j,rfl,h2⟩:=h.at (List.length_pos_iff.2 h0)
    exact run_firstCells_some (P:=P) w sz m ⟨b,j,none⟩ len c cs hl (fun i v hv=>by rw [cG];exact h2 i v hv)
end
def EI (P : Program) (e : TypeId) (z : Value) (sz bytes : Nat) : Prop:=(P.info? e).map (fun i=>(i.zero,i.size,i.bytes))=some (some z,sz,bytes)
theorem EI.get {P : Program} {e : TypeId} {z : Value} {sz bytes : Nat} (h : EI P e z sz bytes) : ∃ i,P.info? e=some i∧i.zero=some z∧i.size=sz∧i.bytes=bytes:=by
  unfold EI at h
  cases hq : P.info? e with
  | none=>simp [hq] at h
  | some i=>simp only [hq,Option.map_some,Option.some.injEq,Prod.mk.injEq] at h;exact ⟨i,rfl,h⟩
theorem EI.sz {P : Program} {e : TypeId} {z : Value} {sz bytes : Nat} (h : EI P e z sz bytes) : dm P e=some sz:=by
  obtain ⟨i,h1,_,h2,_⟩:=h.get
  simp [dm,h1,h2]
def cJ (e : TypeId) (sz n cap : Nat) (xs : List Value) : Obj→Prop:=fun o=>∃ sp : List Value,o=.cells (xs++sp).toArray e (0,0)∧(xs++sp).length=cap * sz∧xs.length=n * sz∧n≤cap
theorem Sl.cJ.cells {e : TypeId} {sz n cap : Nat} {xs : List Value} : ∀ o,Sl.cJ e sz n cap xs o→aY o 0 xs:=by
  rintro o ⟨sp,rfl,_⟩
  exact ⟨_,_,_,rfl,fun i hi=>by simp [List.getElem?_append_left hi]⟩
theorem Sl.cJ.cell {e : TypeId} {sz n cap j : Nat} {v : Value} {xs : List Value} (h : xs[j]?=some v) : ∀ o,Sl.cJ e sz n cap xs o→cellAt o j=some v:=by
  rintro o ⟨sp,rfl,_⟩
  have hj : j<xs.length:=(List.getElem?_eq_some_iff.1 h).1
  simpa [cellAt,List.getElem?_append_left hj] using h
inductive c9 : List aJ→Nat→(Obj→Prop)→Nat→(Obj→Prop)→List aJ→Prop where
  | here {b A b' A' M} : c9 (⟨b,A,true⟩::M) b A b' A' (⟨b',A',true⟩::M)
  | there {e M b A b' A' M'} : c9 M b A b' A' M'→c9 (e::M) b A b' A' (e::M')
section
variable {w0 : World} {S : List Nat} {M M' : List aJ} {w w' : World} {b b' : Nat} {A A' : Obj→Prop}
theorem c9.has (h : c9 M b A b' A' M') : Has M b A true:=by
  induction h with
  | here=>exact .here
  | there _ ih=>exact .there ih
theorem c9.GB (h : c9 M b A b A' M') : fy M b A A' M':=by
  generalize hb : b=b1 at h
  have : b=b1:=hb
  clear hb
  suffices ∀ {M M' : List aJ} {b b1 : Nat} {A A' : Obj→Prop},c9 M b A b1 A' M'→b=b1→fy M b A A' M' by exact this (by rw [← ‹b=b1›] at h ⊢;exact h) rfl
  intro M M' b b1 A A' h e
  induction h with
  | here=>subst e;exact .here
  | there _ ih=>exact .there (ih e)
theorem c9.mem (h : c9 M b A b' A' M') : ∀ e ∈ M',e=⟨b',A',true⟩∨e ∈ M:=by
  induction h with
  | here=>
    intro e he
    simp only [List.mem_cons] at he
    rcases he with rfl | he
    · exact .inl rfl
    · exact .inr (by simp [he])
  | there _ ih=>
    intro e he
    simp only [List.mem_cons] at he
    rcases he with rfl | he
    · exact .inr (by simp)
    · rcases ih e he with h | h
      · exact .inl h
      · exact .inr (by simp [h])
theorem c9.nodup (h : c9 M b A b' A' M') (hn : (M.map aJ.b).Nodup) (hb : b' ∉ M.map aJ.b) : (M'.map aJ.b).Nodup:=by
  induction h with
  | here=>
    simp only [List.map_cons,List.nodup_cons,List.mem_cons,not_or] at hn hb ⊢
    exact ⟨hb.2,hn.2⟩
  | @there e M b A b' A' M' hr ih=>
    simp only [List.map_cons,List.nodup_cons,List.mem_cons,not_or] at hn hb ⊢
    refine ⟨fun hm=>?_,ih hn.2 hb.2⟩
    obtain ⟨x,hx,hxe⟩:=List.mem_map.1 hm
    rcases hr.mem x hx with rfl | hx
    · exact hb.1 hxe
    · exact hn.1 (hxe ▸ List.mem_map_of_mem hx)
theorem ah.renew (h : ah w0 S M w) (o : Obj) (hr : c9 M b A w.heap.size A' M') (hA : A' o) (hw : w'.heap=w.heap.push o) (h1 : w'.os=w.os) (h2 : w'.tape=w.tape) (h3 : w'.output=w.output) : ah w0 S M' w':=by
  have hp:=h.push o hA hw h1 h2 h3
  refine ⟨hp.aH,hr.nodup h.nodup ?_,fun e he=>?_⟩
  · intro hm
    obtain ⟨e,he,hb⟩:=List.mem_map.1 hm
    have:=h.lt he
    omega
  · rcases hr.mem e he with rfl | he
    · exact hp.all _ (by simp)
    · exact hp.all e (by simp [he])
theorem ah.seen {o : Obj} (ho : w.heap[b]?=some o) (hA : A o) : ah w S [⟨b,A,false⟩] w:=⟨kM.refl _ _,by simp,by simp [ho,hA]⟩
theorem ah.fresh (h : ah w0 S M w) (hx : Ext w w') (hb : w.heap.size≤b) {o : Obj} (ho : w'.heap[b]?=some o) (hA : A o) : ah w0 S (⟨b,A,true⟩::M) w':=by
  have h':=h.ext hx
  refine ⟨h'.aH,?_,fun e he=>?_⟩
  · simp only [List.map_cons,List.nodup_cons,h.nodup,and_true]
    intro hm
    obtain ⟨e,he,hbe⟩:=List.mem_map.1 hm
    have:=h.lt he
    omega
  · simp only [List.mem_cons] at he
    rcases he with rfl | he
    · exact ⟨⟨o,ho,hA⟩,fun _=>.inr (Nat.le_trans h.aH.size hb)⟩
    · exact h'.all e he
theorem ah.iU (h : ah w0 S M w) (hu : fy M b A A' M') (hc : kM [b] w w') {o : Obj} (ho : w'.heap[b]?=some o) (hA : A' o) : ah w0 S M' w':=by
  have hin:=(h.all _ hu.has.mem).2 rfl
  refine ⟨⟨hc.os.trans h.aH.os,hc.tape.trans h.aH.tape,hc.output.trans h.aH.output,Nat.le_trans h.aH.size hc.size,fun k hk hS=>?_⟩,by rw [hu.keys];exact h.nodup,fun e he=>?_⟩
  · refine (hc.block k (Nat.lt_of_lt_of_le hk h.aH.size) ?_).trans (h.aH.block k hk hS)
    intro hkb
    have hkb : k=b:=by simpa using hkb
    subst hkb
    rcases hin with h4 | h4
    · exact hS h4
    · simp only [] at h4;omega
  · rcases hu.old h.nodup e he with rfl | ⟨h4,h5⟩
    · exact ⟨⟨o,ho,hA⟩,fun _=>hin⟩
    · obtain ⟨⟨o2,ho2,hA2⟩,h6⟩:=h.all e h4
      exact ⟨⟨o2,(hc.block _ (h.lt h4) (by simpa using h5)).trans ho2,hA2⟩,h6⟩
theorem ah.one {o : Obj} (ho : w.heap[b]?=some o) (hA : A o) : ah w [b] [⟨b,A,true⟩] w:=⟨kM.refl _ _,by simp,by simp [ho,hA]⟩
theorem ah.reads (h : ah w0 S M w) {ad : Option Addr} {cs : List Value} (hr : Reads w0 ad cs) (hS : cs≠[]→∀ a,ad=some a→a.block ∉ S) : Reads w ad cs:=by
  intro i v hv
  have hcs : cs≠[]:=by rintro rfl;simp at hv
  obtain ⟨b,j,h1,h2⟩:=hr i v hv
  have hb : b<w0.heap.size:=block_lt_of_cell h2
  exact ⟨b,j,h1,by simpa [World.cell?,h.old hb (hS hcs _ h1)] using h2⟩
end
section
variable {P : Program} {n : Nat} {w0 : World} {S : List Nat} {ops : Array Oper} {Q : Exit→Act→World→Prop} {l : List Oper} {E : Env} {M : List aJ} {C : World→Prop}
variable {dst : Option Tmp} {d b j : Nat} {t ty e : TypeId} {pos : String} {aft : Array Edge} {g : Option (Nat × Bool)} {v : Value} {x y : Operand} {A A' : Obj→Prop} {cs : List Value}
theorem OQ.kR {a : Addr} (hx : ev E x=some (.pointer (some a))) : OQ P n E C ⟨dst,.nilCheck x,ty,pos,aft,g⟩ (.pointer (some a)):=
  OQ.run fun c hk w _=>by
    have h1:=hk.eval hx
    simp [execOp,h1]
theorem OQ.len {ad : Option Addr} {k cap : Nat} (hu : P.underlying t=some (.slice e)) (hx : ev E x=some (.slice ad k cap)) : OQ P n E C ⟨dst,.call ⟨.builtin .len,#[x],#[t]⟩,ty,pos,aft,g⟩ (N k):=
  OQ.run fun a hk w _=>by
    have h1:=hk.eval hx
    have h3 : (underlying t).run P w=.ok (.slice e) w:=run_underlying hu w
    simp [execOp,h1,resolve,invoke,builtin,Builtin.len_,Sem.run_bind,h3,goInt]
theorem xH {t' : TypeId} {w : World} {ad : Option Addr} {dl dc sl sc : Nat} {r : List Value} (hu : P.underlying t=some (.slice e)) (hz : dm P e=some 1) (ho : w.heap[b]?=some (.cells r.toArray ty (0,0)))
    (hl : cs.length=sl) (hr : Reads w ad cs) (h1 : ∀ v ∈ cs,v.oneCell'=true) (hj : j+min sl dl≤r.length) :
    ∃ w',(Builtin.copy_ #[t,t'] 0 #[.slice (some ⟨b,j,none⟩) dl dc,.slice ad sl sc]).run P w=.ok (N (min sl dl)) w'∧w'.heap[b]?=some (.cells (r.take j++cs.take (min sl dl)++r.drop (j+min sl dl)).toArray ty (0,0))∧w'.heap.size=w.heap.size∧
      (∀ k,k≠b→w'.heap[k]?=w.heap[k]?)∧w'.os=w.os∧w'.tape=w.tape∧w'.output=w.output:=by
  have hlen : (cs.take (min sl dl)).length=min sl dl:=by simp;omega
  obtain ⟨w',r1,r2,r3,r4,r5,r6,r7⟩:=fe (P:=P) (b:=b) (j:=j) (e:=ty) (cs.take (min sl dl)) 0 w r (fun v hv=>h1 v (List.mem_of_mem_take hv)) ho (by omega)
  refine ⟨w',?_,by rw [hlen] at r2;simpa using r2,r3,r4,r5,r6,r7⟩
  have h3 : (underlying t).run P w=.ok (.slice e) w:=run_underlying hu w
  have h4:=nh (P:=P) (m:=min sl dl) (sz:=1) (c:=sc) (by rw [hlen,Nat.mul_one]) (hr.take (min sl dl)) sl
  simp only [Builtin.copy_,Sem.run_bind,Sem.run_pure,h3,Result.andThen_ok,Builtin.lenOf,aE hz,List.getElem?_toArray,List.getElem?_cons_zero,List.getElem?_cons_succ]
  have h5 : Nat.min sl dl=min sl dl:=rfl
  rw [h5,h4]
  simp only [Result.andThen_ok,r1]
  rfl
theorem JL.copy {t' : TypeId} {ad : Option Addr} {dl dc sl sc : Nat} {r r' : List Value} {M' : List aJ} {te : TypeId} (hu : P.underlying t=some (.slice e)) (hz : dm P e=some 1) (hx : ev E x=some (.slice (some ⟨b,j,none⟩) dl dc)) (hy : ev E y=some (.slice ad sl sc))
    (hup : fy M b (Row te r) (Row te r') M') (hl : cs.length=sl) (hr : ∀ w,ah w0 S M w→Reads w ad cs) (h1 : ∀ v ∈ cs,v.oneCell'=true) (hj : j+min sl dl≤r.length) (he : r.take j++cs.take (min sl dl)++r.drop (j+min sl dl)=r') (hd : Nat.blt d n=true)
    (k : JL P n w0 S ops Q l ((d,N (min sl dl))::E) M') : JL P n w0 S ops Q (⟨some d,.call ⟨.builtin .copy,#[x,y],#[t,t']⟩,ty,pos,aft,none⟩::l) E M:=
  ⟨fun a w ha hw=>wpList_plain rfl fun K hK=>by
    obtain ⟨o,ho,hAo⟩:=hw.get hup.has
    subst hAo
    obtain ⟨w',r1,r2,r3,r4,r5,r6,r7⟩:=xH (P:=P) (t':=t') (dc:=dc) (sc:=sc) (ty:=te) hu hz ho hl (hr w hw) h1 hj
    have r1' : (Builtin.copy_ #[t,t'] ty #[.slice (some ⟨b,j,none⟩) dl dc,.slice ad sl sc]).run P w=.ok (N (min sl dl)) w':=r1
    unfold Oper.wp
    simp only [execOp,resolve,invoke,builtin,Sem.run_bind,Sem.run_pure,Result.andThen_ok,List.map_toArray,List.map_cons,List.map_nil,ha.eval hx,ha.eval hy,r1']
    exact hK _ _ (k.go _ _ (ha.put d _ hd) (hw.write hup (he ▸ rfl) r2 r3 r4 r5 r6 r7))⟩
theorem JL.cK {r r' : List Value} {te : TypeId} {m : Nat} {M' : List aJ} (hz : dm P t=some m) (hx : ev E x=some (.pointer (some ⟨b,j,none⟩))) (hy : ev E y=some (.agg cs.toArray)) (hl : cs.length=m) (hv : cs.all Value.oneCell'=true) (hu : fy M b (Row te r) (Row te r') M')
    (hj : j+cs.length≤r.length) (he : r.take j++cs++r.drop (j+cs.length)=r') (k : JL P n w0 S ops Q l E M') : JL P n w0 S ops Q (⟨none,.store t x y,ty,pos,aft,none⟩::l) E M:=
  JL.oG hz hx hy hl hv hu (fun _ ho=>⟨r,te,ho,hj,by rw [he];rfl⟩) k
theorem mj {_t' : TypeId} {w : World} {base ad : Option Addr} {nl cap sc : Nat} {i : TypeInfo} (hu : P.underlying t=some (.slice e)) (hi : P.info? e=some i) (hc : nl≤cap) :
    (Builtin.append_ #[t,t] ty #[.slice base nl cap,.slice ad 0 sc]).run P w=.ok (.slice base nl cap) w:=by
  have h3 : (underlying t).run P w=.ok (.slice e) w:=run_underlying hu w
  cases base <;> cases ad <;> simp [Builtin.append_,run_underlying hu,sizeOf,typeInfo,hi,Builtin.lenOf,Builtin.firstCells,loadCells,loadCellsFrom,hc,storeCells]
theorem JL.append {z : Value} {ad : Option Addr} {sz by' k m cap sc : Nat} {xs : List Value} (M' : Nat→Nat→List aJ) (hu : P.underlying t=some (.slice e)) (hi : EI P e z sz by') (hx : ev E x=some (.slice (some ⟨b,0,none⟩) k cap)) (hy : ev E y=some (.slice ad m sc))
    (hup : ∀ b' cap',c9 M b (Sl.cJ e sz k cap xs) b' (Sl.cJ e sz (k+m) cap' (xs++cs)) (M' b' cap')) (hl : cs.length=m * sz) (hr : ∀ w,ah w0 S M w→Reads w ad cs) (h1 : ∀ v ∈ cs,v.oneCell'=true)
    (hzz : z.cells.size=sz) (h0 : 0<sz) (hsm : (k+m) * by'≤140737488355328) (hsm2 : k+m<9223372036854775808) (hd : Nat.blt d n=true)
    (kk : ∀ b' cap',JL P n w0 S ops Q l ((d,.slice (some ⟨b',0,none⟩) (k+m) cap')::E) (M' b' cap')) : JL P n w0 S ops Q (⟨some d,.call ⟨.builtin .append,#[x,y],#[t,t]⟩,ty,pos,aft,none⟩::l) E M:=
  ⟨fun a w ha hw=>wpList_plain rfl fun K hK=>by
    obtain ⟨i,hi1,hi2,hi3,hi4⟩:=hi.get
    obtain ⟨o,ho,sp,rfl,hc1,hc2,hc3⟩:=hw.get (hup 0 0).has
    have hru:=hr w hw
    unfold Oper.wp
    simp only [execOp,resolve,invoke,builtin,Sem.run_bind,Sem.run_pure,Result.andThen_ok,List.map_toArray,List.map_cons,List.map_nil,ha.eval hx,ha.eval hy]
    by_cases hm : m=0
    · subst hm
      have hcs : cs=[]:=List.eq_nil_of_length_eq_zero (by simpa using hl)
      subst hcs
      rw [mj (_t':=t) hu hi1 hc3]
      refine hK _ _ ((kk b cap).go _ _ (ha.put d _ hd) (hw.write (hup b cap).GB (o':=.cells (xs++sp).toArray e (0,0)) ?_ ho rfl (fun _ _=>rfl) rfl rfl rfl))
      exact ⟨sp,by simp,by simpa using hc1,by simpa using hc2,by omega⟩
    · have hpos : 0<cs.length:=by rw [hl];exact Nat.mul_pos (Nat.pos_of_ne_zero hm) h0
      obtain ⟨b2,j2,rfl,hcell⟩:=hru.at hpos
      by_cases hroom : k+m≤cap
      · have hfit : k * i.size+cs.length≤(xs++sp).toArray.size:=by
          rw [hl,hi3,List.size_toArray,hc1,← Nat.add_mul];exact Nat.mul_le_mul_right _ hroom
        rw [run_append_room (P:=P) w t ty e i hu hi1 b k cap (xs++sp).toArray ho ⟨b2,j2,none⟩ m sc cs (by rw [hl,hi3]) (fun u v hv=>by rw [cG];exact hcell u v hv) h1 hroom hfit]
        refine hK _ _ ((kk b cap).go _ _ (ha.put d _ hd) (hw.write (hup b cap).GB (o':=.cells ((xs++sp).take (k * i.size)++cs++(xs++sp).drop (k * i.size+cs.length)).toArray e (0,0)) ?_ (setRow_heap w b _ _ e _ ho) (by simp) (fun q hq=>setRow_other w b q _ hq) rfl rfl rfl))
        rw [hi3,← hc2,List.take_left]
        refine ⟨(xs++sp).drop (xs.length+cs.length),rfl,?_,by rw [List.length_append,hc2,hl,Nat.add_mul],hroom⟩
        have h7 : xs.length+cs.length≤(xs++sp).length:=by rw [hc1,hc2,hl,← Nat.add_mul];exact Nat.mul_le_mul_right _ hroom
        simp only [List.length_append,List.length_drop] at h7 hc1 ⊢
        omega
      · have hold : ∀ u v,xs[u]?=some v→w.cell? ((⟨b,0,none⟩ : Addr).add u)=some v:=fun u v hv=>by
          rw [cG]
          have hu' : u<xs.length:=(List.getElem?_eq_some_iff.1 hv).1
          exact mM ho (by simpa [cellAt,List.getElem?_append_left hu'] using hv)
        have hfit:=growslice_fits (need:=k+m) (old:=cap) (by omega) hsm
        rw [run_append_grow (P:=P) w t ty e i z hu hi1 hi2 ⟨b,0,none⟩ k cap xs (by rw [hc2,hi3]) hold ⟨b2,j2,none⟩ m sc cs (by rw [hl,hi3]) (fun u v hv=>by rw [cG];exact hcell u v hv) (by omega) (by omega) (by rw [hi4];exact hfit)]
        have hge:=grownCap_ge w (k+m) cap e
        generalize grownCap w (k+m) cap e=nc at hge
        refine hK _ _ ((kk w.heap.size nc).go _ _ (ha.put d _ hd) (hw.renew (.cells (xs.toArray++cs.toArray++Builtin.zeroCells z.cells (nc - (k+m))) e) (hup _ _) ?_ rfl rfl rfl rfl))
        refine ⟨(Builtin.zeroCells z.cells (nc - (k+m))).toList,by simp,?_,by rw [List.length_append,hc2,hl,Nat.add_mul],hge⟩
        have h8 : (Builtin.zeroCells z.cells (nc - (k+m))).size=(nc - (k+m)) * sz:=by simp [Builtin.zeroCells,hzz]
        simp only [List.length_append,Array.length_toList,h8,hc2,hl,← Nat.add_mul]
        congr 1
        omega⟩
theorem JL.append_nil {z : Value} {ad : Option Addr} {sz by' m sc : Nat} (hu : P.underlying t=some (.slice e)) (hi : EI P e z sz by') (hx : ev E x=some (.slice none 0 0)) (hy : ev E y=some (.slice ad m sc))
    (hl : cs.length=m * sz) (hr : ∀ w,ah w0 S M w→Reads w ad cs) (hm : 0<m)
    (hzz : z.cells.size=sz) (h0 : 0<sz) (hsm : m * by'≤140737488355328) (hsm2 : m<9223372036854775808) (hd : Nat.blt d n=true)
    (kk : ∀ b' cap',w0.heap.size≤b'→JL P n w0 S ops Q l ((d,.slice (some ⟨b',0,none⟩) m cap')::E) (⟨b',Sl.cJ e sz m cap' cs,true⟩::M)) : JL P n w0 S ops Q (⟨some d,.call ⟨.builtin .append,#[x,y],#[t,t]⟩,ty,pos,aft,none⟩::l) E M:=
  ⟨fun a w ha hw=>wpList_plain rfl fun K hK=>by
    obtain ⟨i,hi1,hi2,hi3,hi4⟩:=hi.get
    have hru:=hr w hw
    unfold Oper.wp
    simp only [execOp,resolve,invoke,builtin,Sem.run_bind,Sem.run_pure,Result.andThen_ok,List.map_toArray,List.map_cons,List.map_nil,ha.eval hx,ha.eval hy]
    have hpos : 0<cs.length:=by rw [hl];exact Nat.mul_pos hm h0
    obtain ⟨b2,j2,rfl,hcell⟩:=hru.at hpos
    rw [run_append_nil (P:=P) w t ty e i z hu hi1 hi2 ⟨b2,j2,none⟩ m sc cs (by rw [hl,hi3]) (fun u v hv=>by rw [cG];exact hcell u v hv) hm (by omega) (by rw [hi4];omega)]
    have hge:=grownCap_ge w m 0 e
    generalize grownCap w m 0 e=nc at hge
    refine hK _ _ ((kk w.heap.size nc hw.aH.size).go _ _ (ha.put d _ hd) (hw.push (.cells (cs.toArray++Builtin.zeroCells z.cells (nc - m)) e) ?_ rfl rfl rfl rfl))
    refine ⟨(Builtin.zeroCells z.cells (nc - m)).toList,by simp,?_,hl,hge⟩
    have h8 : (Builtin.zeroCells z.cells (nc - m)).size=(nc - m) * sz:=by simp [Builtin.zeroCells,hzz]
    simp only [List.length_append,Array.length_toList,h8,hl,← Nat.add_mul]
    congr 1
    omega⟩
structure JA (P : Program) (n : Nat) (w0 : World) (S : List Nat) (ops : Array Oper) (Q : Exit→Act→World→Prop) (f : Nat) (done : Array Bool) (E : Env) (M : List aJ) : Prop where
  go : ∀ a w,bD n E a→ah w0 S M w→wpAny P .any ops Q f done a w
theorem gx {Q : Exit→Act→World→Prop} {K : Act→World→Prop} {i : Nat} {o : Oper} {a : Act} {w : World} (ho : ops[i]?=some o) (h : wpList P ops (Exit.then K Q) [o] a w) : wpOp P ops Q i K a w:=by
  unfold wpOp
  simp only [ho]
  unfold wpList at h
  split
  · rename_i hw
    rw [if_pos hw] at h
    rcases h with h | h
    · left
      unfold Oper.wp Oper.upon at h ⊢
      generalize (execOp a.eval o).run P w=r at h ⊢
      cases r with
      | ok nx w'=>cases nx <;> first | exact h|(refine Calls.mono h ?_;rintro (v | c | _) w'' hh <;> exact hh)
      | halt x w'=>cases x <;> exact h
    · exact .inr h
  · rename_i hw
    rw [if_neg hw] at h
    exact h
theorem JC.any {id : Nat} {l : List Oper} (hm : P.follows .mixedOrders=true) (h : JA P n w0 S l.toArray Q l.toArray.size (Array.replicate l.toArray.size false) E M) : JC P n w0 S Q (.region id l.toArray true) E M:=
  ⟨fun a _ ha hw=>wp_region_any hm (h.go a _ ha (hw.drawn _))⟩
theorem JA.step {f : Nat} {done : Array Bool} {L : List Nat} (hr : Region.ready .any ops done=L) (hne : L.isEmpty=false) (h : ∀ i ∈ L,∃ o,ops[i]?=some o∧JL P n w0 S ops (Exit.then (fun a' w'=>wpAny P .any ops Q f (done.setIfInBounds i true) a' w') Q) [o] E M) :
    JA P n w0 S ops Q (f+1) done E M:=
  ⟨fun a w ha hw=>⟨fun h0=>(by rw [hr] at h0;subst h0;cases hne),fun i hi=>by
    obtain ⟨o,ho,hj⟩:=h i (hr ▸ hi)
    exact gx ho (hj.go a w ha hw)⟩⟩
theorem JA.done {done : Array Bool} (hr : Region.ready .any ops done=[]) (h : JE n w0 S Q .normal E M) : JA P n w0 S ops Q 0 done E M:=⟨fun a w ha hw=>⟨hr,h.go a w ha hw⟩⟩
theorem JE.any {f : Nat} {done : Array Bool} (h : JA P n w0 S ops Q f done E M) : JE n w0 S (Exit.then (fun a' w'=>wpAny P .any ops Q f done a' w') Q) .normal E M:=⟨h.go⟩
theorem aI {p : Nat→Prop} {i : Nat} {L : List Nat} (h : p i) (k : ∀ i ∈ L,p i) : ∀ j ∈ i::L,p j:=by
  intro j hj
  simp only [List.mem_cons] at hj
  rcases hj with rfl | hj
  · exact h
  · exact k j hj
theorem br {p : Nat→Prop} : ∀ j ∈ ([] : List Nat),p j:=by intro j hj;cases hj
theorem JC.mid {ι : Type} (Ei : ι→Env) (Mi : ι→List aJ) (I : ι→Prop) {p q : Code} (h : JC P n w0 S (Exit.then (fun a' w'=>∃ i,I i∧bD n (Ei i) a'∧ah w0 S (Mi i) w') Q) p E M)
    (k : ∀ i,I i→JC P n w0 S Q q (Ei i) (Mi i)) : JC P n w0 S Q (.seq p q) E M:=
  ⟨fun a w ha hw=>wp_seq (wp_mono (h.go a w ha hw) fun e a' w' he=>by
    cases e with
    | normal=>obtain ⟨i,hi,h1,h2⟩:=he;exact (k i hi).go a' w' h1 h2
    | exit _=>exact he
    | goto _=>exact he
    | ret=>exact he
    | panic _=>exact he
    | outgrown=>exact he)⟩
theorem JC.join {ι : Type} (Ei : ι→Env) (Mi : ι→List aJ) (I : ι→Prop) {p q : Code} {Q' : Exit→Act→World→Prop} (h : JC P n w0 S (Exit.then (fun a' w'=>∃ i,I i∧bD n (Ei i) a'∧ah w0 S (Mi i) w') Q) p E M)
    (k : ∀ i,I i→JC P n w0 S Q' q (Ei i) (Mi i)) : JC P n w0 S (Exit.then (q.wp P Q') Q) p E M:=
  ⟨fun a w ha hw=>wp_mono (h.go a w ha hw) fun e a' w' he=>by
    cases e with
    | normal=>obtain ⟨i,hi,h1,h2⟩:=he;exact (k i hi).go a' w' h1 h2
    | exit _=>exact he
    | goto _=>exact he
    | ret=>exact he
    | panic _=>exact he
    | outgrown=>exact he⟩
theorem JE.mid {ι : Type} {Ei : ι→Env} {Mi : ι→List aJ} {I : ι→Prop} (i : ι) (hi : I i) (hE : aj E (Ei i)) (hM : ax (Mi i) M) :
    JE n w0 S (Exit.then (fun a' w'=>∃ i,I i∧bD n (Ei i) a'∧ah w0 S (Mi i) w') Q) .normal E M:=
  ⟨fun _ _ ha hw=>⟨i,hi,ha.sub hE,hw.weak hM⟩⟩
end
end Sl
end
section
namespace Sl
section
variable {P : Program} {n : Nat} {w0 : World} {S : List Nat} {ops : Array Oper} {Q : Exit→Act→World→Prop} {l : List Oper} {E : Env} {M M' : List aJ}
variable {d b : Nat} {ty : TypeId} {pos : String} {aft : Array Edge} {v : Value} {A A' : Obj→Prop} {f : FuncId} {xs : List Operand} {ats : Array TypeId} {vs : List Value}
theorem JL.jT {ι : Type} (bf : ι→Nat) (vf : ι→Value) (Af : ι→Obj→Prop) (hg : aR P f) (hx : kQ E xs=some vs) (hd : Nat.blt d n=true)
    (hc : ∀ w,ah w0 S M w→Calls P f vs.toArray w fun e w'=>∃ i,e=.returned (vf i)∧Ext w w'∧w.heap.size≤bf i∧∃ o,w'.heap[bf i]?=some o∧Af i o)
    (k : ∀ i,w0.heap.size≤bf i→JL P n w0 S ops Q l ((d,vf i)::E) (⟨bf i,Af i,true⟩::M)) : JL P n w0 S ops Q (⟨some d,.call ⟨.value (.func f),xs.toArray,ats⟩,ty,pos,aft,none⟩::l) E M:=
  JL.call (ι:={ i : ι // w0.heap.size≤bf i }) (fun i=>vf i.1) (fun i=>⟨bf i.1,Af i.1,true⟩::M) hg hx hd
    (fun w hw=>(hc w hw).mono fun _ _ ⟨i,h1,h2,h3,_,h4,h5⟩=>⟨⟨i,Nat.le_trans hw.aH.size h3⟩,h1,hw.fresh h2 h3 h4 h5⟩) (fun i=>k i.1 i.2)
theorem JL.xI (hu : fy M b A A' M') (hg : aR P f) (hx : kQ E xs=some vs) (hd : Nat.blt d n=true)
    (hc : ∀ w,ah w0 S M w→Calls P f vs.toArray w fun e w'=>e=.returned v∧kM [b] w w'∧∃ o,w'.heap[b]?=some o∧A' o)
    (k : JL P n w0 S ops Q l ((d,v)::E) M') : JL P n w0 S ops Q (⟨some d,.call ⟨.value (.func f),xs.toArray,ats⟩,ty,pos,aft,none⟩::l) E M:=
  JL.call (ι:=Unit) (fun _=>v) (fun _=>M') hg hx hd (fun _ hw=>(hc _ hw).mono fun _ _ ⟨h1,h2,_,h4,h5⟩=>⟨(),h1,hw.iU hu h2 h4 h5⟩) (fun _=>k)
variable {t e : TypeId} {x : Operand} {z : Value} {by' : Nat}
theorem Cv : Array.range 0=#[]:=by decide
theorem Cw : Array.range 1=#[0]:=by decide
theorem Cx : Array.range 3=#[0,1,2]:=by decide
theorem tq {w : World} (hu : P.underlying t=some (.slice e)) (hi : EI P e z 1 by') : (Instr.buildSlice t 0 #[]).run P w=.ok (.slice (some ⟨w.heap.size,0,none⟩) 0 0) { w with heap:=w.heap.push (.cells ([] : List Value).toArray e (0,0)) }:=by
  have h3 : (underlying t).run P w=.ok (.slice e) w:=run_underlying hu w
  simp [Instr.buildSlice,Sem.run_bind,h3,aE hi.sz,Instr.fill,newRow,newObj,Sem.run,Cv]
theorem tr {w : World} (hu : P.underlying t=some (.slice e)) (hi : EI P e z 1 by') (_hz : z.cells.size=1) (hv : v.cells=#[v]) : (Instr.buildSlice t 1 #[(0,v)]).run P w=.ok (.slice (some ⟨w.heap.size,0,none⟩) 1 1) { w with heap:=w.heap.push (.cells [v].toArray e (0,0)) }:=by
  have h3 : (underlying t).run P w=.ok (.slice e) w:=run_underlying hu w
  obtain ⟨i,h4,h5,_⟩:=hi.get
  simp [Instr.buildSlice,Sem.run_bind,h3,aE hi.sz,zeroValue,typeInfo,h4,h5,Instr.fill,hv,newRow,newObj,Sem.run,Cw]
theorem tu {w : World} {v1 v2 v3 : Value} (hu : P.underlying t=some (.slice e)) (hi : EI P e z 1 by') (_hz : z.cells.size=1) (hv1 : v1.cells=#[v1]) (hv2 : v2.cells=#[v2]) (hv3 : v3.cells=#[v3]) :
    (Instr.buildSlice t 3 #[(0,v1),(1,v2),(2,v3)]).run P w=.ok (.slice (some ⟨w.heap.size,0,none⟩) 3 3) { w with heap:=w.heap.push (.cells [v1,v2,v3].toArray e (0,0)) }:=by
  have h3 : (underlying t).run P w=.ok (.slice e) w:=run_underlying hu w
  obtain ⟨i,h4,h5,_⟩:=hi.get
  simp [Instr.buildSlice,Sem.run_bind,h3,aE hi.sz,zeroValue,typeInfo,h4,h5,Instr.fill,hv1,hv2,hv3,newRow,newObj,Sem.run,Cx]
theorem JL.FF (hu : P.underlying t=some (.slice e)) (hi : EI P e z 1 by') (hd : Nat.blt d n=true)
    (k : ∀ b,w0.heap.size≤b→JL P n w0 S ops Q l ((d,.slice (some ⟨b,0,none⟩) 0 0)::E) (⟨b,Row e [],true⟩::M)) : JL P n w0 S ops Q (⟨some d,.buildSlice t 0 #[],ty,pos,aft,none⟩::l) E M:=
  ⟨fun a w ha hw=>wpList_plain rfl fun K hK=>by
    unfold Oper.wp
    have hm : (#[] : Array (Nat × Operand)).map (fun (i,x)=>(i,a.eval x))=#[]:=by simp
    simp only [execOp,hm,Sem.run_bind,tq hu hi,Result.andThen_ok]
    exact hK _ _ ((k w.heap.size hw.aH.size).go _ _ (ha.put d _ hd) (hw.push _ rfl rfl rfl rfl rfl))⟩
theorem JL.gy (hu : P.underlying t=some (.slice e)) (hi : EI P e z 1 by') (hz : z.cells.size=1) (hx : ev E x=some v) (hv : v.cells=#[v]) (hd : Nat.blt d n=true)
    (k : ∀ b,w0.heap.size≤b→JL P n w0 S ops Q l ((d,.slice (some ⟨b,0,none⟩) 1 1)::E) (⟨b,Row e [v],true⟩::M)) : JL P n w0 S ops Q (⟨some d,.buildSlice t 1 #[(0,x)],ty,pos,aft,none⟩::l) E M:=
  ⟨fun a w ha hw=>wpList_plain rfl fun K hK=>by
    unfold Oper.wp
    have hm : (#[(0,x)] : Array (Nat × Operand)).map (fun (i,x)=>(i,a.eval x))=#[(0,v)]:=by simp [ha.eval hx]
    simp only [execOp,hm,Sem.run_bind,tr hu hi hz hv,Result.andThen_ok]
    exact hK _ _ ((k w.heap.size hw.aH.size).go _ _ (ha.put d _ hd) (hw.push _ rfl rfl rfl rfl rfl))⟩
theorem JL.Ej {x1 x2 x3 : Operand} {v1 v2 v3 : Value} (hu : P.underlying t=some (.slice e)) (hi : EI P e z 1 by') (hz : z.cells.size=1) (hx1 : ev E x1=some v1) (hx2 : ev E x2=some v2) (hx3 : ev E x3=some v3) (hv1 : v1.cells=#[v1]) (hv2 : v2.cells=#[v2]) (hv3 : v3.cells=#[v3]) (hd : Nat.blt d n=true)
    (k : ∀ b,w0.heap.size≤b→JL P n w0 S ops Q l ((d,.slice (some ⟨b,0,none⟩) 3 3)::E) (⟨b,Row e [v1,v2,v3],true⟩::M)) : JL P n w0 S ops Q (⟨some d,.buildSlice t 3 #[(0,x1),(1,x2),(2,x3)],ty,pos,aft,none⟩::l) E M:=
  ⟨fun a w ha hw=>wpList_plain rfl fun K hK=>by
    unfold Oper.wp
    have hm : (#[(0,x1),(1,x2),(2,x3)] : Array (Nat × Operand)).map (fun (i,x)=>(i,a.eval x))=#[(0,v1),(1,v2),(2,v3)]:=by simp [ha.eval hx1,ha.eval hx2,ha.eval hx3]
    simp only [execOp,hm,Sem.run_bind,tu hu hi hz hv1 hv2 hv3,Result.andThen_ok]
    exact hK _ _ ((k w.heap.size hw.aH.size).go _ _ (ha.put d _ hd) (hw.push _ rfl rfl rfl rfl rfl))⟩
theorem JL.weak {E' : Env} (h : JL P n w0 S ops Q l E' M') (hE : aj E E') (hM : ax M' M) : JL P n w0 S ops Q l E M:=⟨fun a w ha hw=>h.go a w (ha.sub hE) (hw.weak hM)⟩
variable {C : World→Prop} {dst : Option Tmp} {g : Option (Nat × Bool)} {y : Operand} {t' : TypeId}
theorem OQ.FG {a b : Int} (hx : ev E x=some (.int .i64 a)) (hy : ev E y=some (.int .i64 b)) : OQ P n E C ⟨dst,.binOp .gtr t x y t',ty,pos,aft,g⟩ (.bool (decide (b<a))):=
  OQ.bin hx hy rfl fun _=>gT rfl
theorem OQ.FH {a b : Int} (hx : ev E x=some (.int .i64 a)) (hy : ev E y=some (.int .i64 b)) : OQ P n E C ⟨dst,.binOp .lss t x y t',ty,pos,aft,g⟩ (.bool (decide (a<b))):=
  OQ.bin hx hy rfl fun _=>gT rfl
end
end Sl
end
section
namespace Sl
open Extern.Stop (cell)
section
variable {P : Program} {n : Nat} {w0 : World} {S : List Nat} {ops : Array Oper} {Q : Exit→Act→World→Prop} {l : List Oper} {E : Env} {M M' : List aJ} {C : World→Prop}
variable {dst : Option Tmp} {d b j : Nat} {op : Op} {t t' ty e : TypeId} {pos : String} {aft : Array Edge} {g : Option (Nat × Bool)} {v u : Value} {x y z : Operand} {want : Bool}
theorem ni {o : Oper} {j : Nat} {want b : Bool} (ho : o.guard=some (j,want)) (h : fG ops E j=some b) (hf : dS ops n j=true) {a : Act} (ha : bD n E a) : Region.wanted o (yielded ops a.tmps)=(b == want):=by
  simp only [Region.wanted,ho,m6 h ha (gR hf)]
  cases b <;> cases want <;> rfl
theorem JL.bn {dst : Option Nat} (hg : fG ops E j=some want) (hf : dS ops n j=true) (h : JL P n w0 S ops Q (⟨dst,op,ty,pos,aft,none⟩::l) E M) : JL P n w0 S ops Q (⟨dst,op,ty,pos,aft,some (j,want)⟩::l) E M:=
  ⟨fun a w ha hw=>by
    have h1:=h.go a w ha hw
    unfold wpList at h1 ⊢
    rw [ni rfl hg hf ha]
    simp only [beq_self_eq_true,if_true]
    rw [show Region.wanted ⟨dst,op,ty,pos,aft,none⟩ (yielded ops a.tmps)=true from rfl,if_pos rfl] at h1
    exact h1⟩
theorem JQ.bn {Φ : Act→Prop} {dst : Option Nat} (hg : fG ops E j=some want) (hf : dS ops n j=true) (h : JQ P n w0 S ops M Φ (⟨dst,op,ty,pos,aft,none⟩::l) E) : JQ P n w0 S ops M Φ (⟨dst,op,ty,pos,aft,some (j,want)⟩::l) E:=
  ⟨fun a ha=>by
    have h1:=h.go a ha
    unfold wpQuiet at h1 ⊢
    rw [ni rfl hg hf ha]
    simp only [beq_self_eq_true,if_true]
    rw [show Region.wanted ⟨dst,op,ty,pos,aft,none⟩ (yielded ops a.tmps)=true from rfl,if_pos rfl] at h1
    exact h1⟩
theorem OQ.bV (hc : ev E z=some (.bool true)) (hx : ev E x=some v) : OQ P n E C ⟨dst,.pick z x y,ty,pos,aft,g⟩ v:=
  OQ.run fun a ha w _=>by
    have h1:=ha.eval hc
    have h2:=ha.eval hx
    simp [execOp,h1,h2,asBool]
theorem OQ.bG (hc : ev E z=some (.bool false)) (hy : ev E y=some v) : OQ P n E C ⟨dst,.pick z x y,ty,pos,aft,g⟩ v:=
  OQ.run fun a ha w _=>by
    have h1:=ha.eval hc
    have h2:=ha.eval hy
    simp [execOp,h1,h2,asBool]
theorem OQ.not {c : Bool} (hx : ev E x=some (.bool c)) : OQ P n E C ⟨dst,.unOp .not t x,ty,pos,aft,g⟩ (.bool (!c)):=
  OQ.run fun a ha w _=>by
    have h1:=ha.eval hx
    simp [execOp,h1,Op.unary]
theorem OQ.Ek {k : IntKind} {a b : Int} (hx : ev E x=some (.int k a)) (hy : ev E y=some (.int k b)) (h : a=b) : OQ P n E C ⟨dst,.binOp .eql t x y t',ty,pos,aft,g⟩ (.bool true):=
  (decide_eq_true h : decide (a=b)=true) ▸ OQ.FB hx hy
theorem OQ.xJ {k : IntKind} {a b : Int} (hx : ev E x=some (.int k a)) (hy : ev E y=some (.int k b)) (h : a=b) : OQ P n E C ⟨dst,.binOp .neq t x y t',ty,pos,aft,g⟩ (.bool false):=by
  have:=OQ.Fq (P:=P) (n:=n) (C:=C) (dst:=dst) (ty:=ty) (t:=t) (t':=t') (pos:=pos) (aft:=aft) (g:=g) hx hy
  rwa [decide_eq_true h] at this
theorem OQ.Cy {a b : Nat} (hx : ev E x=some (N a)) (hy : ev E y=some (N b)) (h : b<a) : OQ P n E C ⟨dst,.binOp .gtr t x y t',ty,pos,aft,g⟩ (.bool true):=
  (decide_eq_true h : decide (b<a)=true) ▸ OQ.Ct hx hy
theorem OQ.xK {a b : Nat} (hx : ev E x=some (N a)) (hy : ev E y=some (N b)) (h : a<b) : OQ P n E C ⟨dst,.binOp .lss t x y t',ty,pos,aft,g⟩ (.bool true):=
  (decide_eq_true h : decide (a<b)=true) ▸ OQ.cF hx hy
theorem OQ.gW {a b : Nat} (hx : ev E x=some (N a)) (hy : ev E y=some (N b)) (h : ¬ a<b) : OQ P n E C ⟨dst,.binOp .lss t x y t',ty,pos,aft,g⟩ (.bool false):=
  (decide_eq_false h : decide (a<b)=false) ▸ OQ.cF hx hy
theorem OQ.xL {a b : Int} (hx : ev E x=some (.int .i64 a)) (hy : ev E y=some (.int .i64 b)) (h : ¬ a<b) : OQ P n E C ⟨dst,.binOp .lss t x y t',ty,pos,aft,g⟩ (.bool false):=
  (decide_eq_false h : decide (a<b)=false) ▸ OQ.FH hx hy
theorem OQ.xM {a b : Int} (hx : ev E x=some (.int .i64 a)) (hy : ev E y=some (.int .i64 b)) (h : ¬ b<a) : OQ P n E C ⟨dst,.binOp .gtr t x y t',ty,pos,aft,g⟩ (.bool false):=
  (decide_eq_false h : decide (b<a)=false) ▸ OQ.FG hx hy
theorem jU (r : List (BitVec 8)) : r.map U8=(r.map UInt8.ofBitVec).map cell:=by
  rw [List.map_map]
  rfl
theorem u9 (r q : List (BitVec 8)) : (r.map UInt8.ofBitVec == q.map UInt8.ofBitVec)=decide (r=q):=by
  rw [Bool.eq_iff_iff]
  simp only [beq_iff_eq,decide_eq_true_eq]
  constructor
  · intro h
    have:=congrArg (List.map UInt8.toBitVec) h
    rw [List.map_map,List.map_map] at this
    have hid : (UInt8.toBitVec ∘ UInt8.ofBitVec)=(id : BitVec 8→BitVec 8):=rfl
    rwa [hid,List.map_id,List.map_id] at this
  · rintro rfl;rfl
theorem OQ.G5 {m : Nat} {r q : List (BitVec 8)} (hu : P.underlying t=some (.array m e)) (he : P.underlying e=some (.int .u8)) (hz : dm P e=some 1) (hgd : P.eqGuardType P.depth t=false) (hx : ev E x=some (.agg (r.map U8).toArray)) (hy : ev E y=some (.agg (q.map U8).toArray)) (hr : r.length=m) (hq : q.length=m) :
    OQ P n E C ⟨dst,.binOp .eql t x y t',ty,pos,aft,g⟩ (.bool (decide (r=q))):=
  OQ.run fun a ha w _=>by
    have h1:=ha.eval hx
    have h2:=ha.eval hy
    have h3:=fun w=>run_eql_bytes (P:=P) w t e m hu he (fun w=>aE hz w) (r.map UInt8.ofBitVec) (q.map UInt8.ofBitVec) (by simpa using hr) (by simpa using hq)
    rw [u9] at h3
    rw [jU] at h1 h2
    have h4:=fun w=>run_eqGuard_agg (P:=P) (w:=w) .eql t x y ((r.map UInt8.ofBitVec).map cell).toArray ((q.map UInt8.ofBitVec).map cell).toArray hgd
    simp only [execOp,h1,h2,Sem.run_bind,h4,Result.andThen_ok,h3]
    rfl
theorem OQ.GC {m : Nat} {r q : List (BitVec 8)} (hu : P.underlying t=some (.array m e)) (he : P.underlying e=some (.int .u8)) (hz : dm P e=some 1) (hgd : P.eqGuardType P.depth t=false) (hx : ev E x=some (.agg (r.map U8).toArray)) (hy : ev E y=some (.agg (q.map U8).toArray)) (hr : r.length=m) (hq : q.length=m) :
    OQ P n E C ⟨dst,.binOp .neq t x y t',ty,pos,aft,g⟩ (.bool (!decide (r=q))):=
  OQ.run fun a ha w _=>by
    have h1:=ha.eval hx
    have h2:=ha.eval hy
    have h3:=fun w=>run_equalIn_bytes (P:=P) w 9998 t e m hu he (fun w=>aE hz w) (r.map UInt8.ofBitVec) (q.map UInt8.ofBitVec) (by simpa using hr) (by simpa using hq)
    rw [u9] at h3
    rw [jU] at h1 h2
    have h4:=fun w=>run_eqGuard_agg (P:=P) (w:=w) .neq t x y ((r.map UInt8.ofBitVec).map cell).toArray ((q.map UInt8.ofBitVec).map cell).toArray hgd
    have h5:=fun w=>run_neq_struct (P:=P) (w:=w) t ((r.map UInt8.ofBitVec).map cell).toArray ((q.map UInt8.ofBitVec).map cell).toArray
    simp only [execOp,h1,h2,Sem.run_bind,h4,Result.andThen_ok,h5,h3]
    rfl
def FI (e : TypeId) (r : List Value) : Obj→Prop:=fun o=>∃ fr,o=.cells r.toArray e fr
theorem FI.all {r : List Value} : ∀ o,FI e r o→aY o 0 r:=by
  rintro o ⟨fr,rfl⟩
  exact ⟨_,_,_,rfl,fun i _=>by simp⟩
theorem JL.mark {r : List Value} {te : TypeId} {len cap : Nat} (hu : P.underlying t=some (.slice e)) (he : P.underlying e=some (.int .u8)) (hx : ev E x=some (.slice (some ⟨b,0,none⟩) len cap)) (hup : fy M b (Row te r) (FI te r) M') (hd : Nat.blt d n=true)
    (k : JL P n w0 S ops Q l ((d,.slice (some ⟨b,0,none⟩) len cap)::E) M') : JL P n w0 S ops Q (⟨some d,.convert t t x,ty,pos,aft,none⟩::l) E M:=
  ⟨fun a w ha hw=>wpList_plain rfl fun K hK=>by
    obtain ⟨o,ho,hA⟩:=hw.get hup.has
    subst hA
    have h1:=ha.eval hx
    have h3 : ∀ w,(underlying t).run P w=.ok (.slice e) w:=run_underlying hu
    have h4 : ∀ w,(underlying e).run P w=.ok (.int .u8) w:=run_underlying he
    have hsh : w.shape? b=some (te,r.length):=by simp [World.shape?,ho]
    have hrun : (convert t t (.slice (some ⟨b,0,none⟩) len cap)).run P w=.ok (.slice (some ⟨b,0,none⟩) len cap) (w.freeze { block:=b,off:=r.length } 1):=by
      simp [convert,Sem.run_bind,h3,h4,markStringish,shape,freeze,Sem.run,hsh]
    unfold Oper.wp
    simp only [execOp,h1,Sem.run_bind,hrun,Result.andThen_ok]
    refine hK _ _ (k.go _ _ (ha.put d _ hd) (hw.write hup (o':=.cells r.toArray te (r.length,r.length+1)) ⟨_,rfl⟩ ?_ (by simp [World.freeze]) (fun q hq=>?_) rfl rfl rfl))
    · simp [World.freeze,Array.getElem?_modify,ho]
    · simp [World.freeze,Array.getElem?_modify,Ne.symm hq]⟩
end
end Sl
end
section
namespace Sl
abbrev X:=Nat × Nat
abbrev X3:=Nat × Nat × Nat
theorem xN {f : Nat→Value} {E : Env} (h : ∀ p ∈ E,f p.1=p.2) {p : Nat × Value} (hp : p ∈ E) : lk E p.1=some p.2:=by
  induction E with
  | nil=>cases hp
  | cons q E ih=>
    simp only [lk]
    by_cases e : q.1=p.1
    · have h1:=h q (by simp)
      have h2:=h p hp
      rw [e] at h1
      simp [e,← h1,← h2]
    · have : Nat.beq q.1 p.1=false:=Bool.eq_false_iff.2 fun h=>e (Nat.eq_of_beq_eq_true h)
      rw [this]
      refine ih (fun q hq=>h q (by simp [hq])) ?_
      simp only [List.mem_cons] at hp
      rcases hp with rfl | hp
      · exact absurd rfl e
      · exact hp
theorem Cz {E : Env} {t : Nat} {v : Value} (h : lk E t=some v) : (t,v) ∈ E:=by
  induction E with
  | nil=>simp [lk] at h
  | cons q E ih=>
    simp only [lk] at h
    by_cases e : q.1=t
    · subst e
      simp at h
      subst h
      simp
    · have : Nat.beq q.1 t=false:=Bool.eq_false_iff.2 fun h=>e (Nat.eq_of_beq_eq_true h)
      rw [this] at h
      simp [ih h]
theorem bD.of {n : Nat} {E : Env} {a : Act} (h1 : a.tmps.size=n) (h2 : a.defers=[]) (h : ∀ p ∈ E,a.tmps.getD p.1 undef=p.2) : bD n E a:=⟨h1,h2,fun _ _ hl=>h _ (Cz hl)⟩
theorem bD.mem {n : Nat} {E : Env} {a : Act} {f : Nat→Value} (h : bD n E a) (hf : ∀ p ∈ E,f p.1=p.2) {p : Nat × Value} (hp : p ∈ E) : a.tmps.getD p.1 undef=p.2:=h.all _ _ (xN hf hp)
structure gA (w0 : World) (S : List Nat) (L : Nat→Prop) (f : Nat→List aJ) (w : World) : Prop where
  aH : kM S w0 w
  all : ∀ j,L j→∀ e ∈ f j,(∃ o,w.heap[e.b]?=some o∧e.A o)∧(e.wr=true→e.b ∈ S∨w0.heap.size≤e.b)
  nodup : ∀ j,L j→((f j).map aJ.b).Nodup
  apart : ∀ j k,j≠k→L j→L k→∀ e ∈ f j,∀ e' ∈ f k,e.b≠e'.b
section
variable {w0 w : World} {S : List Nat} {L : Nat→Prop} {f : Nat→List aJ}
theorem gA.to (h : gA w0 S L f w) (Js : List Nat) (hn : Js.Nodup) (hL : ∀ j ∈ Js,L j) : ah w0 S (Js.flatMap f) w:=by
  refine ⟨h.aH,?_,fun e he=>?_⟩
  · induction Js with
    | nil=>simp
    | cons j Js ih=>
      rw [List.flatMap_cons,List.map_append,List.nodup_append]
      refine ⟨h.nodup j (hL j (by simp)),ih (List.nodup_cons.1 hn).2 (fun k hk=>hL k (by simp [hk])),fun b hb b' hb'=>?_⟩
      simp only [List.mem_map,List.mem_flatMap] at hb hb'
      obtain ⟨e,he,rfl⟩:=hb
      obtain ⟨e',⟨k,hk,he'⟩,rfl⟩:=hb'
      have hjk : j≠k:=fun e=>(List.nodup_cons.1 hn).1 (e ▸ hk)
      exact h.apart j k hjk (hL j (by simp)) (hL k (by simp [hk])) e he e' he'
  · obtain ⟨j,hj,he⟩:=List.mem_flatMap.1 he
    exact h.all j (hL j hj) e he
theorem tv {Js : List Nat} (h : ((Js.flatMap f).map aJ.b).Nodup) : (∀ j ∈ Js,((f j).map aJ.b).Nodup)∧∀ j k,j≠k→j ∈ Js→k ∈ Js→∀ e ∈ f j,∀ e' ∈ f k,e.b≠e'.b:=by
  induction Js with
  | nil=>simp
  | cons i Js ih=>
    rw [List.flatMap_cons,List.map_append,List.nodup_append] at h
    obtain ⟨h1,h2,h3⟩:=h
    obtain ⟨i1,i2⟩:=ih h2
    have h4 : ∀ k ∈ Js,∀ e ∈ f i,∀ e' ∈ f k,e.b≠e'.b:=fun k hk e he e' he'=>
      h3 e.b (List.mem_map.2 ⟨e,he,rfl⟩) e'.b (List.mem_map.2 ⟨e',List.mem_flatMap.2 ⟨k,hk,he'⟩,rfl⟩)
    refine ⟨fun j hj=>?_,fun j k hjk hj hk e he e' he'=>?_⟩
    · simp only [List.mem_cons] at hj
      rcases hj with rfl | hj
      · exact h1
      · exact i1 j hj
    · simp only [List.mem_cons] at hj hk
      rcases hj with rfl | hj
      · rcases hk with rfl | hk
        · exact absurd rfl hjk
        · exact h4 k hk e he e' he'
      · rcases hk with rfl | hk
        · exact (h4 j hj e' he' e he).symm
        · exact i2 j k hjk hj hk e he e' he'
theorem gA.of {Js : List Nat} (h : ah w0 S (Js.flatMap f) w) (hL : ∀ j,L j→j ∈ Js) : gA w0 S L f w:=by
  obtain ⟨h1,h2⟩:=tv h.nodup
  exact ⟨h.aH,fun j hj e he=>h.all e (List.mem_flatMap.2 ⟨j,hL j hj,he⟩),fun j hj=>h1 j (hL j hj),fun j k hjk hj hk=>h2 j k hjk (hL j hj) (hL k hk)⟩
end
theorem qY {l : List Nat} {p q : Nat→Bool} (h : ∀ j ∈ l,q j=p j) : l.countP q=l.countP p:=by
  induction l with
  | nil=>rfl
  | cons a l ih=>simp only [List.countP_cons,h a (by simp),ih fun j hj=>h j (by simp [hj])]
theorem nk {l : List Nat} {p q : Nat→Bool} {i : Nat} (hn : l.Nodup) (hi : i ∈ l) (h1 : p i=true) (h2 : q i=false) (h3 : ∀ j,j≠i→q j=p j) : l.countP q+1=l.countP p:=by
  induction l with
  | nil=>cases hi
  | cons a l ih=>
    simp only [List.countP_cons]
    by_cases e : a=i
    · subst e
      have:=qY (l:=l) (p:=p) (q:=q) fun j hj=>h3 j fun e=>(List.nodup_cons.1 hn).1 (e ▸ hj)
      simp [h1,h2,this]
    · have hi' : i ∈ l:=by
        simp only [List.mem_cons] at hi
        rcases hi with rfl | hi
        · exact absurd rfl e
        · exact hi
      have:=ih (List.nodup_cons.1 hn).2 hi'
      rw [h3 a e]
      omega
variable {Y : Type}
structure bW (Y : Type) where
  E0 : Env
  N : Nat
  v : Nat→Y→Value
  M : Nat→Y→List aJ
  need : Nat→List (Nat × Nat)
  jV : Nat→List Nat
  qZ : Nat→List Nat
  src : Nat→Option Nat
  E1 : Nat→Env
def behind (o : Oper) (j : Nat) : Bool:=o.after.toList.any fun e=>e.on == j && Region.binds .any e
def dL (l : List Oper) (j : Nat) : Option Nat:=match l[j]? with | some q=>q.dst | none=>none
def cI (l : List Oper) (j i : Nat) : Bool:=match l[j]? with | some q=>behind q i | none=>false
def nq : List Nat→Bool
  | []=>true
  | a::l=>!l.contains a && nq l
theorem jt {l : List Nat} (h : nq l=true) : l.Nodup:=by
  induction l with
  | nil=>simp
  | cons a l ih=>
    simp only [nq,Bool.and_eq_true,Bool.not_eq_true',List.contains_eq_mem,decide_eq_false_iff_not] at h
    exact List.nodup_cons.2 ⟨h.1,ih h.2⟩
def kS (l : List Oper) (E0 : Env) (i : Nat) : Option Nat→Bool
  | some d=>(List.range l.length).all (fun k=>k == i || dL l k != some d) && E0.all fun p=>p.1 != d
  | none=>true
def ve (o : Oper) : Option Nat→Bool
  | some k=>behind o k
  | none=>true
def bW.CA (g : bW Y) (l : List Oper) (i : Nat) : Bool:=
  (g.E1 i).all fun p=>(List.range l.length).all fun k=>dL l k != some p.1 || (k != i && cI l k i)
def bW.kT (g : bW Y) (l : List Oper) (i : Nat) (o : Oper) : Bool:=
  (((g.need i).all (fun p=>behind o p.1 && dL l p.1 == some p.2) && ve o (g.src i)) && g.CA l i) &&
  ((g.jV i).all (fun j=>decide (j<g.N) && (decide (l.length≤j) || behind o j)) &&
  ((g.qZ i).all (fun j=>(g.jV i).contains j) &&
  ((List.range l.length).all (fun k=>k == i || (g.qZ k).all fun j=>!(g.jV i).contains j || cI l k i) &&
  (nq (g.jV i) && (o.after.toList.all (fun e=>!Region.binds .any e || decide (e.on<i)) && kS l g.E0 i o.dst)))))
def bW.ff (g : bW Y) (l : List Oper) : Nat→List Oper→Bool
  | _,[]=>true
  | i,o::r=>g.kT l i o && g.ff l (i+1) r
theorem bW.cW {g : bW Y} {l : List Oper} : ∀ {r : List Oper} {i : Nat},g.ff l i r=true→∀ {j o},r[j]?=some o→g.kT l (i+j) o=true
  | [],_,_,j,o,h=>by simp at h
  | q::r,i,hk,j,o,h=>by
    simp only [bW.ff,Bool.and_eq_true] at hk
    cases j with
    | zero=>
      simp only [List.getElem?_cons_zero,Option.some.injEq] at h
      subst h
      exact hk.1
    | succ j=>
      have:=bW.cW hk.2 (j:=j) (o:=o) (by simpa using h)
      rwa [show i+1+j=i+(j+1) by omega] at this
def slot (d : Option Nat) (v : Value) : Env:=match d with | some d=>[(d,v)] | none=>[]
def bW.El (g : bW Y) (P : Program) (n : Nat) (w0 : World) (S : List Nat) (l : List Oper) (i : Nat) (o : Oper) : Prop:=
  ∀ (x : Nat→Y) (EF : Env) (MF : List aJ) (Q : Exit→Act→World→Prop),
    (∀ xi : Y,(∀ k,g.src i=some k→xi=x k)→JE n w0 S Q .normal (slot o.dst (g.v i xi)++((g.need i).map (fun p=>(p.2,g.v p.1 (x p.1)))++(g.E0++(g.E1 i++EF)))) (g.M i xi++(((g.jV i).filter fun j=>!(g.qZ i).contains j).flatMap (fun j=>g.M j (x j))++MF)))→
    JL P n w0 S l.toArray Q [o] ((g.need i).map (fun p=>(p.2,g.v p.1 (x p.1)))++(g.E0++(g.E1 i++EF))) ((g.jV i).flatMap (fun j=>g.M j (x j))++MF)
def bW.pU (g : bW Y) (P : Program) (n : Nat) (w0 : World) (S : List Nat) (l : List Oper) : Nat→List Oper→Prop
  | _,[]=>True
  | i,o::r=>g.El P n w0 S l i o∧g.pU P n w0 S l (i+1) r
theorem bW.jW {g : bW Y} {P : Program} {n : Nat} {w0 : World} {S : List Nat} {l : List Oper} : ∀ {r : List Oper} {i : Nat},g.pU P n w0 S l i r→∀ {j o},r[j]?=some o→g.El P n w0 S l (i+j) o
  | [],_,_,j,o,h=>by simp at h
  | q::r,i,hk,j,o,h=>by
    cases j with
    | zero=>
      simp only [List.getElem?_cons_zero,Option.some.injEq] at h
      subst h
      exact hk.1
    | succ j=>
      have:=bW.jW hk.2 (j:=j) (o:=o) (by simpa using h)
      rwa [show i+1+j=i+(j+1) by omega] at this
def bW.live (g : bW Y) (m : Nat) (done : Array Bool) (j : Nat) : Prop:=j<g.N∧(m≤j∨done.getD j false=true)∧∀ k,done.getD k false=true→j ∉ g.qZ k
structure bW.Inv (g : bW Y) (n : Nat) (w0 : World) (S : List Nat) (l : List Oper) (done : Array Bool) (x : Nat→Y) (a : Act) (w : World) : Prop where
  size : a.tmps.size=n
  defers : a.defers=[]
  oK : done.size=l.length
  base : ∀ p ∈ g.E0,a.tmps.getD p.1 undef=p.2
  first : ∀ j,j<l.length→done.getD j false=false→∀ p ∈ g.E1 j,a.tmps.getD p.1 undef=p.2
  vals : ∀ j d,done.getD j false=true→dL l j=some d→a.tmps.getD d undef=g.v j (x j)
  rel : ∀ j k,done.getD j false=true→g.src j=some k→x j=x k
  down : ∀ j i,done.getD j false=true→cI l j i=true→done.getD i false=true
  mem : gA w0 S (g.live l.length done) (fun j=>g.M j (x j)) w
section
variable {P : Program} {n : Nat} {w0 : World} {S : List Nat} {Q : Exit→Act→World→Prop} {E : Env} {M : List aJ} {g : bW Y} {l : List Oper}
theorem ri {done : Array Bool} {i j : Nat} (hi : i<done.size) : (done.setIfInBounds i true).getD j false=(decide (j=i) || done.getD j false):=by
  by_cases e : j=i
  · subst e
    simp [hi]
  · simp [e,Ne.symm e]
theorem bW.run (hok : g.ff l 0 l=true) (hj : g.pU P n w0 S l 0 l)
    (hend : ∀ done x a w,g.Inv n w0 S l done x a w→(∀ j,j<l.length→done.getD j false=true)→Q .normal a w) :
    ∀ (f : Nat) (done : Array Bool) (x : Nat→Y) (a : Act) (w : World),f=(List.range l.length).countP (fun j=>!done.getD j false)→g.Inv n w0 S l done x a w→wpAny P .any l.toArray Q f done a w:=by
  have hrdy : ∀ done : Array Bool,done.size=l.length→Region.ready .any l.toArray done=[]→∀ j,j<l.length→done.getD j false=true:=by
    intro done hds hr j
    induction j using Nat.strongRecOn with
    | _ j ih=>
      intro hjl
      cases hd : done.getD j false with
      | true=>rfl
      | false=>
        obtain ⟨o,ho⟩ : ∃ o,l[j]?=some o:=⟨_,List.getElem?_eq_getElem hjl⟩
        have hk:=bW.cW hok ho
        simp only [bW.kT,Bool.and_eq_true,Nat.zero_add] at hk
        have hkk:=hk.2.2.2.2.2.1
        have : j ∈ Region.ready .any l.toArray done:=by
          rw [mem_ready]
          refine ⟨?_,o,by simpa using ho,fun e he hb=>?_⟩
          · rw [Array.getD_eq_getD_getElem?,Array.getElem?_eq_getElem (by omega)] at hd ⊢
            simpa using hd
          · have:=List.all_eq_true.1 hkk e (by simpa using he)
            simp only [hb,Bool.not_true,Bool.false_or,decide_eq_true_eq] at this
            exact ih e.on this (by omega)
        rw [hr] at this
        cases this
  intro f
  induction f with
  | zero=>
    intro done x a w hf hI
    have hall : ∀ j,j<l.length→done.getD j false=true:=fun j hjl=>by
      have:=List.countP_eq_zero.1 hf.symm j (List.mem_range.2 hjl)
      simpa using this
    refine ⟨?_,hend done x a w hI hall⟩
    refine List.eq_nil_iff_forall_not_mem.2 fun i hi=>?_
    obtain ⟨hu,o,ho,_⟩:=mem_ready.1 hi
    have hil : i<l.length:=by
      have:=(Array.getElem?_eq_some_iff.1 ho).1
      simpa using this
    have:=hall i hil
    rw [Array.getD_eq_getD_getElem?,Array.getElem?_eq_getElem (by have:=hI.oK;omega)] at hu this
    simp only [Option.getD_some] at hu this
    rw [hu] at this
    cases this
  | succ f ih=>
    intro done x a w hf hI
    have hds:=hI.oK
    refine ⟨fun h0=>hend done x a w hI (hrdy done hds h0),fun i hi=>?_⟩
    obtain ⟨hu,o,ho,hbe⟩:=mem_ready.1 hi
    have hil : i<l.length:=by
      have:=(Array.getElem?_eq_some_iff.1 ho).1
      simpa using this
    have ho' : l[i]?=some o:=by simpa using ho
    have hu' : done.getD i false=false:=by
      rw [Array.getD_eq_getD_getElem?,Array.getElem?_eq_getElem (by omega)] at hu ⊢
      simpa using hu
    have hk:=bW.cW hok ho'
    simp only [bW.kT,Bool.and_eq_true,Nat.zero_add] at hk
    obtain ⟨⟨⟨k1,k8⟩,k9⟩,k2,k3,k4,k5,_,k7⟩:=hk
    have hbeh : ∀ j,behind o j=true→done.getD j false=true:=fun j hj=>by
      simp only [behind,List.any_eq_true,Bool.and_eq_true,beq_iff_eq] at hj
      obtain ⟨e,he,rfl,hb⟩:=hj
      exact hbe e (by simpa using he) hb
    have hbi : ∀ k,cI l k i=true→done.getD k false=false:=fun k hk=>by
      cases h : done.getD k false with
      | false=>rfl
      | true=>have:=hI.down k i h hk;rw [hu'] at this;cases this
    have hinp : ∀ j ∈ g.jV i,g.live l.length done j:=by
      intro j hj
      have h2:=List.all_eq_true.1 k2 j hj
      simp only [Bool.and_eq_true,Bool.or_eq_true,decide_eq_true_eq] at h2
      refine ⟨h2.1,h2.2.imp id (hbeh j),fun k hkd hjk=>?_⟩
      have hkl : k<l.length:=by
        by_cases h : k<l.length
        · exact h
        · rw [Array.getD_eq_getD_getElem?,Array.getElem?_eq_none (by omega)] at hkd
          cases hkd
      have h4:=List.all_eq_true.1 k4 k (List.mem_range.2 hkl)
      have hki : k≠i:=fun e=>by rw [e,hu'] at hkd;cases hkd
      simp only [Bool.or_eq_true,beq_iff_eq,hki,false_or] at h4
      have h5:=List.all_eq_true.1 h4 j hjk
      simp only [Bool.or_eq_true,Bool.not_eq_true',List.contains_eq_mem,decide_eq_false_iff_not,hj,not_true,false_or] at h5
      rw [hbi k h5] at hkd
      cases hkd
    have hdone_ne : ∀ j,done.getD j false=true→j≠i:=fun j hj e=>by rw [e,hu'] at hj;cases hj
    have hlen : ∀ k,done.getD k false=true→k<l.length:=fun k hkd=>by
      by_cases h : k<l.length
      · exact h
      · rw [Array.getD_eq_getD_getElem?,Array.getElem?_eq_none (by omega)] at hkd
        cases hkd
    have hdi : dL l i=o.dst:=by simp [dL,ho']
    have hne : ∀ j d,done.getD j false=true→dL l j=some d→o.dst≠some d:=by
      intro j d hjd hd he
      rw [he] at k7
      simp only [kS,Bool.and_eq_true] at k7
      have:=List.all_eq_true.1 k7.1 j (List.mem_range.2 (hlen j hjd))
      simp [hdone_ne j hjd,hd] at this
    have hne0 : ∀ p ∈ g.E0,o.dst≠some p.1:=by
      intro p hp he
      rw [he] at k7
      simp only [kS,Bool.and_eq_true] at k7
      have:=List.all_eq_true.1 k7.2 p hp
      simp at this
    let rest : List Nat:=(List.range g.N).filter fun j=>@decide (g.live l.length done j) (Classical.propDecidable _) && !(g.jV i).contains j
    have hrest : ∀ j,j ∈ rest↔g.live l.length done j∧j ∉ g.jV i:=by
      intro j
      simp only [rest,List.mem_filter,List.mem_range,Bool.and_eq_true,Bool.not_eq_true',List.contains_eq_mem,decide_eq_false_iff_not]
      refine ⟨fun ⟨_,h2,h3⟩=>⟨@of_decide_eq_true _ (Classical.propDecidable _) h2,h3⟩,fun ⟨h2,h3⟩=>⟨h2.1,@decide_eq_true _ (Classical.propDecidable _) h2,h3⟩⟩
    have hnd : (g.jV i++rest).Nodup:=by
      rw [List.nodup_append]
      refine ⟨jt k5,List.nodup_range.filter _,fun a ha b hb e=>?_⟩
      exact ((hrest b).1 hb).2 (e ▸ ha)
    have H1:=hI.mem.to (g.jV i++rest) hnd (fun j hj=>by
      rcases List.mem_append.1 hj with h | h
      · exact hinp j h
      · exact ((hrest j).1 h).1)
    rw [List.flatMap_append] at H1
    let EF0 : Env:=(List.range l.length).filterMap fun j=>if done.getD j false=true then (dL l j).map (fun d=>(d,g.v j (x j))) else none
    let EF1 : Env:=(List.range l.length).flatMap fun j=>if done.getD j false=true then [] else g.E1 j
    let EF : Env:=EF0++EF1
    have hEF : ∀ p,p ∈ EF0↔∃ j d,done.getD j false=true∧dL l j=some d∧p=(d,g.v j (x j)):=by
      intro p
      simp only [EF0,List.mem_filterMap,List.mem_range]
      constructor
      · rintro ⟨j,_,hp⟩
        split at hp
        · rename_i hjd
          obtain ⟨d,hd,rfl⟩:=Option.map_eq_some_iff.1 hp
          exact ⟨j,d,hjd,hd,rfl⟩
        · cases hp
      · rintro ⟨j,d,hjd,hd,rfl⟩
        exact ⟨j,hlen j hjd,by rw [if_pos hjd,hd];rfl⟩
    have hEF1 : ∀ j,j<l.length→done.getD j false=false→∀ p ∈ g.E1 j,p ∈ EF1:=by
      intro j hjl hjd p hp
      simp only [EF1,List.mem_flatMap,List.mem_range]
      exact ⟨j,hjl,by rw [if_neg (by rw [hjd];decide)];exact hp⟩
    have hne1 : ∀ j,j<l.length→done.getD j false=false→∀ p ∈ g.E1 j,o.dst≠some p.1:=by
      intro j hjl hjd p hp he
      have hjo : l[j]?=some (l[j]'hjl):=List.getElem?_eq_getElem hjl
      have hkj:=bW.cW hok hjo
      simp only [bW.kT,Bool.and_eq_true,Nat.zero_add] at hkj
      have h9:=List.all_eq_true.1 hkj.1.2 p hp
      have h10:=List.all_eq_true.1 h9 i (List.mem_range.2 hil)
      simp only [hdi,he,bne_self_eq_false,Bool.false_or,Bool.and_eq_true] at h10
      have h11 : behind o j=true:=by simpa [cI,ho'] using h10.2
      rw [hbeh j h11] at hjd
      cases hjd
    have hneed : ∀ p ∈ g.need i,done.getD p.1 false=true∧dL l p.1=some p.2:=by
      intro p hp
      have h1:=List.all_eq_true.1 k1 p hp
      simp only [Bool.and_eq_true,beq_iff_eq] at h1
      exact ⟨hbeh _ h1.1,h1.2⟩
    have hK : ∀ p ∈ ((g.need i).map (fun p=>(p.2,g.v p.1 (x p.1)))++(g.E0++(g.E1 i++EF))),a.tmps.getD p.1 undef=p.2∧o.dst≠some p.1:=by
      intro p hp
      rcases List.mem_append.1 hp with h | h
      · obtain ⟨q,hq,rfl⟩:=List.mem_map.1 h
        obtain ⟨h1,h2⟩:=hneed q hq
        exact ⟨hI.vals _ _ h1 h2,hne _ _ h1 h2⟩
      · rcases List.mem_append.1 h with h | h
        · exact ⟨hI.base p h,hne0 p h⟩
        · rcases List.mem_append.1 h with h | h
          · exact ⟨hI.first i hil hu' p h,hne1 i hil hu' p h⟩
          · rcases List.mem_append.1 h with h | h
            · obtain ⟨j,d,h1,h2,rfl⟩:=(hEF p).1 h
              exact ⟨hI.vals _ _ h1 h2,hne _ _ h1 h2⟩
            · simp only [EF1,List.mem_flatMap,List.mem_range] at h
              obtain ⟨j,hjl,h⟩:=h
              cases hjd : done.getD j false with
              | true=>rw [hjd] at h;simp at h
              | false=>
                rw [hjd] at h
                simp only [Bool.false_eq_true,if_false] at h
                exact ⟨hI.first j hjl hjd p h,hne1 j hjl hjd p h⟩
    have job:=bW.jW hj ho'
    rw [Nat.zero_add] at job
    refine gx ho ((job x EF (rest.flatMap fun j=>g.M j (x j)) _ fun xi hxi=>⟨fun a' w' hK' hH'=>?_⟩).go a w (bD.of hI.size hI.defers fun p hp=>(hK p hp).1) H1)
    have hd' : ∀ j,(done.setIfInBounds i true).getD j false=(decide (j=i) || done.getD j false):=fun j=>ri (by omega)
    refine ih _ (fun j=>if j=i then xi else x j) a' w' ?_ ?_
    · have:=nk (l:=List.range l.length) (p:=fun j=>!done.getD j false) (q:=fun j=>!(done.setIfInBounds i true).getD j false) (i:=i) List.nodup_range (List.mem_range.2 hil) (by simp only [hu'];rfl) (by simp only [hd'];simp) (fun j hj=>by simp only [hd'];simp [hj])
      omega
    · have hmem : ∀ p ∈ (slot o.dst (g.v i xi)++((g.need i).map (fun p=>(p.2,g.v p.1 (x p.1)))++(g.E0++(g.E1 i++EF)))),a'.tmps.getD p.1 undef=p.2:=by
        intro p hp
        refine hK'.mem (f:=fun t=>if o.dst=some t then g.v i xi else a.tmps.getD t undef) (fun q hq=>?_) hp
        rcases List.mem_append.1 hq with h | h
        · cases hod : o.dst with
          | none=>rw [hod] at h;cases h
          | some d=>
            rw [hod] at h
            simp only [slot,List.mem_singleton] at h
            subst h
            simp
        · have:=hK q h
          simp only [this.2,if_false]
          exact this.1
      refine ⟨hK'.size,hK'.defers,by simp [hds],fun p hp=>hmem p (by simp [hp]),fun j hjl hjd p hp=>?_,?_,?_,?_,?_⟩
      · rw [hd'] at hjd
        simp only [Bool.or_eq_false_iff] at hjd
        exact hmem p (List.mem_append_right _ (List.mem_append_right _ (List.mem_append_right _ (List.mem_append_right _ (List.mem_append_right _ (hEF1 j hjl hjd.2 p hp))))))
      · intro j d hjd hd
        by_cases e : j=i
        · subst e
          rw [hdi] at hd
          have:=hmem (d,g.v j xi) (by simp [hd,slot])
          simpa using this
        · rw [hd'] at hjd
          simp only [e,decide_false,Bool.false_or] at hjd
          have:=hmem (d,g.v j (x j)) (List.mem_append_right _ (List.mem_append_right _ (List.mem_append_right _ (List.mem_append_right _ (List.mem_append_left _ ((hEF _).2 ⟨j,d,hjd,hd,rfl⟩))))))
          simpa [e] using this
      · intro j k hjd hs
        rw [hd'] at hjd
        by_cases e : j=i
        · subst e
          rw [hs] at k8
          simp only [if_true,hdone_ne k (hbeh k k8),if_false]
          exact hxi k hs
        · simp only [e,decide_false,Bool.false_or] at hjd
          have hjo : l[j]?=some (l[j]'(hlen j hjd)):=List.getElem?_eq_getElem (hlen j hjd)
          have hkj:=bW.cW hok hjo
          simp only [bW.kT,Bool.and_eq_true,Nat.zero_add] at hkj
          have h8:=hkj.1.1.2
          rw [hs] at h8
          have hkd:=hI.down j k hjd (by simpa [cI,hjo,ve] using h8)
          simp only [e,hdone_ne k hkd,if_false]
          exact hI.rel j k hjd hs
      · intro j i' hjd hb
        rw [hd'] at hjd ⊢
        by_cases e : j=i
        · subst e
          have : behind o i'=true:=by simpa [cI,ho'] using hb
          simp [hbeh i' this]
        · simp only [e,decide_false,Bool.false_or] at hjd
          simp [hI.down j i' hjd hb]
      · have hnl : ¬ g.live l.length done i:=fun h=>by
          rcases h.2.1 with h | h
          · omega
          · rw [hu'] at h;cases h
        have hcg : ∀ L : List Nat,(∀ j ∈ L,g.live l.length done j)→L.flatMap (fun j=>g.M j (if j=i then xi else x j))=L.flatMap fun j=>g.M j (x j):=by
          intro L
          induction L with
          | nil=>simp
          | cons j L ih=>
            intro h
            have hji : j≠i:=fun e=>hnl (e ▸ h j (by simp))
            simp only [List.flatMap_cons,hji,if_false,ih fun k hk=>h k (by simp [hk])]
        refine gA.of (Js:=i::(((g.jV i).filter fun j=>!(g.qZ i).contains j)++rest)) ?_ ?_
        · rw [List.flatMap_cons,List.flatMap_append,hcg _ (fun j hj=>hinp j (List.mem_filter.1 hj).1),hcg rest (fun j hj=>((hrest j).1 hj).1)]
          simpa using hH'
        · intro j hj
          by_cases e : j=i
          · simp [e]
          · have hl : g.live l.length done j:=by
              refine ⟨hj.1,hj.2.1.imp id (fun h=>?_),fun k hk=>hj.2.2 k (by rw [hd'];simp [hk])⟩
              rw [hd'] at h
              simpa [e] using h
            have hne : j ∉ g.qZ i:=hj.2.2 i (by rw [hd'];simp)
            by_cases hji : j ∈ g.jV i
            · simp [e,hji,hne]
            · have:=(hrest j).2 ⟨hl,hji⟩
              simp [e,this]
theorem JC.BY [Inhabited Y] (g : bW Y) (outs : List (Nat × Nat)) (ends : List Nat) {id : Nat} (hm : P.follows .mixedOrders=true) (hE : aj E g.E0) (hE1 : ∀ i,i<l.length→aj E (g.E1 i)) (hM : ax (((List.range g.N).filter fun j=>decide (l.length≤j)).flatMap fun j=>g.M j default) M)
    (hok : g.ff l 0 l=true) (ho : (outs.all fun p=>decide (p.1<l.length) && dL l p.1 == some p.2)=true)
    (he : (nq ends && ends.all fun j=>decide (j<g.N) && (List.range l.length).all fun k=>!(g.qZ k).contains j)=true)
    (hj : g.pU P n w0 S l 0 l)
    (k : ∀ x : Nat→Y,(∀ j k,j<l.length→g.src j=some k→x j=x k)→JE n w0 S Q .normal (outs.map (fun p=>(p.2,g.v p.1 (x p.1)))++g.E0) (ends.flatMap fun j=>g.M j (x j))) : JC P n w0 S Q (.region id l.toArray true) E M:=
  ⟨fun a w ha hw=>by
    refine wp_region_any hm ?_
    have hw':=(hw.drawn (w.drawn+1)).weak hM
    simp only [Bool.and_eq_true] at he
    refine bW.run hok hj (fun done x a w hI hall=>?_) _ _ (fun _=>default) a _ ?_ ?_
    · refine (k x fun j k hj hs=>hI.rel j k (hall j hj) hs).go a w (bD.of hI.size hI.defers fun p hp=>?_) (hI.mem.to ends (jt he.1) fun j hj=>?_)
      · rcases List.mem_append.1 hp with h | h
        · obtain ⟨q,hq,rfl⟩:=List.mem_map.1 h
          have:=List.all_eq_true.1 ho q hq
          simp only [Bool.and_eq_true,decide_eq_true_eq,beq_iff_eq] at this
          exact hI.vals _ _ (hall _ this.1) this.2
        · exact hI.base p h
      · have:=List.all_eq_true.1 he.2 j hj
        simp only [Bool.and_eq_true,decide_eq_true_eq] at this
        refine ⟨this.1,?_,fun k hk hjk=>?_⟩
        · by_cases h : l.length≤j
          · exact .inl h
          · exact .inr (hall j (by omega))
        · have hkl : k<l.length:=by
            by_cases h : k<l.length
            · exact h
            · have:=hI.oK
              rw [Array.getD_eq_getD_getElem?,Array.getElem?_eq_none (by omega)] at hk
              cases hk
          have:=List.all_eq_true.1 this.2 k (List.mem_range.2 hkl)
          simp [hjk] at this
    · have : ∀ j,(Array.replicate l.toArray.size false).getD j false=false:=fun j=>by
        simp only [Array.getD_eq_getD_getElem?,Array.getElem?_replicate]
        split <;> rfl
      rw [List.countP_eq_length.2 (fun j _=>by simp only [this];rfl)]
      simp
    · have hf : ∀ j,(Array.replicate l.toArray.size false).getD j false=false:=fun j=>by
        simp only [Array.getD_eq_getD_getElem?,Array.getElem?_replicate]
        split <;> rfl
      refine ⟨ha.size,ha.defers,by simp,fun p hp=>ha.all _ _ (hE.all p hp),fun j hj _ p hp=>ha.all _ _ ((hE1 j hj).all p hp),fun j d h=>?_,fun j k h=>?_,fun j i h=>?_,?_⟩
      · rw [hf] at h;cases h
      · rw [hf] at h;cases h
      · rw [hf] at h;cases h
      · refine gA.of hw' fun j hj=>?_
        rw [List.mem_filter]
        refine ⟨List.mem_range.2 hj.1,?_⟩
        rcases hj.2.1 with h | h
        · simpa using h
        · rw [hf] at h;cases h⟩
structure CC (Y : Type) where
  E0 : Env
  N : Nat
  v : Nat→Y→Value
  M : Nat→Y→List aJ
  need : Nat→List (Nat × Nat)
  jV : Nat→List Nat
  qZ : Nat→List Nat
  src : Nat→Option Nat
def CC.o (g : CC Y) : bW Y:=⟨g.E0,g.N,g.v,g.M,g.need,g.jV,g.qZ,g.src,fun _=>[]⟩
theorem JC.grow [Inhabited Y] (g : CC Y) (outs : List (Nat × Nat)) (ends : List Nat) {id : Nat} (hm : P.follows .mixedOrders=true) (hE : aj E g.E0) (hM : ax (((List.range g.N).filter fun j=>decide (l.length≤j)).flatMap fun j=>g.M j default) M)
    (hok : g.o.ff l 0 l=true) (ho : (outs.all fun p=>decide (p.1<l.length) && dL l p.1 == some p.2)=true)
    (he : (nq ends && ends.all fun j=>decide (j<g.N) && (List.range l.length).all fun k=>!(g.qZ k).contains j)=true)
    (hj : g.o.pU P n w0 S l 0 l)
    (k : ∀ x : Nat→Y,(∀ j k,j<l.length→g.src j=some k→x j=x k)→JE n w0 S Q .normal (outs.map (fun p=>(p.2,g.v p.1 (x p.1)))++g.E0) (ends.flatMap fun j=>g.M j (x j))) : JC P n w0 S Q (.region id l.toArray true) E M:=
  JC.BY g.o outs ends hm hE (fun _ _=>.nil) hM hok ho he hj k
end
end Sl
end
section
namespace Sl
section
variable {P : Program} {t tx e : TypeId}
theorem pV (n : Nat) : Builtin.zeroCells #[.int .u8 0] n=(List.replicate n (Value.int .u8 0)).toArray:=by
  apply Array.ext'
  simp only [Builtin.zeroCells,List.size_toArray,List.length_cons,List.length_nil,Array.toList_map,Array.toList_range]
  apply List.ext_getElem?
  intro i
  by_cases h : i<n
  · simp [h,Nat.mod_one]
  · simp [h]
variable {n : Nat} {w0 : World} {S : List Nat} {ops : Array Oper} {Q : Exit→Act→World→Prop} {l : List Oper} {E : Env} {M : List aJ} {d b : Nat} {ty : TypeId} {pos : String} {aft : Array Edge} {x y : Operand}
end
end Sl
end
section
set_option maxRecDepth 10000
open Sl
abbrev Bt:=BitVec 8
structure aT where
  ad : Option Addr
  cap : Nat
  l : List Bt
def aT.v (s : aT) : Value:=.slice s.ad s.l.length s.cap
structure aT.ok (w : World) (s : aT) : Prop where
  len : s.l.length≤s.cap
  reads : Reads w s.ad (s.l.map U8)
theorem aT.ok.lt {w : World} {s : aT} (h : s.ok w) (h0 : s.l≠[]) : ∀ a,s.ad=some a→a.block<w.heap.size:=by
  obtain ⟨b,j,h1,h2⟩:=h.reads.at (by simpa using List.length_pos_iff.2 h0)
  intro a ha
  rw [h1] at ha
  cases ha
  exact block_lt_of_cell (h2 0 _ (dx U8 0 (List.length_pos_iff.2 h0)))
theorem aT.ok.holds {w0 w : World} {S : List Nat} {M : List aJ} {s : aT} (h : s.ok w0) (hw : ah w0 S M w) (hS : S=[]) : s.ok w:=⟨h.len,hw.reads h.reads (fun _ a _=>by rw [hS];simp)⟩
theorem OQ.rj {P : Program} {n : Nat} {E : Env} {C : World→Prop} {dst : Option Tmp} {t t' ty e : TypeId} {x y : Operand} {pos : String} {aft : Array Edge} {g : Option (Nat × Bool)} {m : Nat} {r q : List (BitVec 8)} (hu : P.underlying t=some (.array m e)) (he : P.underlying e=some (.int .u8)) (hz : dm P e=some 1) (hgd : P.eqGuardType P.depth t=false) (hx : ev E x=some (.agg (r.map U8).toArray)) (hy : ev E y=some (.agg (q.map U8).toArray)) (hr : r.length=m) (hq : q.length=m) (h : r=q) :
    OQ P n E C ⟨dst,.binOp .neq t x y t',ty,pos,aft,g⟩ (.bool false):=by
  have:=OQ.GC (P:=P) (n:=n) (E:=E) (C:=C) (dst:=dst) (t':=t') (ty:=ty) (pos:=pos) (aft:=aft) (g:=g) hu he hz hgd hx hy hr hq
  simpa [h] using this
def jX : aT:=⟨none,0,[]⟩
theorem mQ (w : World) : jX.ok w:=⟨by simp [jX],Reads.nil _ _⟩
theorem fh (A M : List aJ) : ax A (A++M):=by
  induction A with
  | nil=>exact .nil _
  | cons e A ih=>exact .keep _ _ _ _ _ _ (fun _ h=>h) ih
theorem xO {o : Obj} {j k t : Nat} {cs : List Value} (h : aY o j cs) (hk : k+t≤cs.length) : aY o (j+k) ((cs.drop k).take t):=by
  obtain ⟨c,e,fr,rfl,h⟩:=h
  refine ⟨c,e,fr,rfl,fun i hi=>?_⟩
  have hi : i<t:=by simp at hi;omega
  rw [Nat.add_assoc,h (k+i) (by omega),List.getElem?_take,if_pos hi,List.getElem?_drop]
theorem JC.fact {P : Program} {n : Nat} {w0 : World} {S : List Nat} {Q : Exit→Act→World→Prop} {c : Code} {E : Env} {M : List aJ} {b : Nat} {A : Obj→Prop} {wr : Bool} {p : Prop} (hM : Has M b A wr) (hA : ∀ o,A o→p) (h : p→JC P n w0 S Q c E M) : JC P n w0 S Q c E M:=
  ⟨fun a w ha hw=>let ⟨o,_,ho⟩:=hw.get hM;(h (hA o ho)).go a w ha hw⟩
theorem Sl.ah.swap {w0 w : World} {S : List Nat} {e1 e2 : aJ} {M : List aJ} (h : ah w0 S (e1::e2::M) w) : ah w0 S (e2::e1::M) w:=by
  refine ⟨h.aH,?_,fun e he=>h.all e ?_⟩
  · have:=h.nodup
    simp only [List.map_cons,List.nodup_cons,List.mem_cons,not_or] at this ⊢
    exact ⟨⟨Ne.symm this.1.1,this.2.1⟩,this.1.2,this.2.2⟩
  · simp only [List.mem_cons] at he ⊢
    rcases he with h | h | h
    · exact .inr (.inl h)
    · exact .inl h
    · exact .inr (.inr h)
theorem JE.swap {n : Nat} {w0 : World} {S : List Nat} {Q : Exit→Act→World→Prop} {e : Exit} {E : Env} {e1 e2 : aJ} {M : List aJ} (h : JE n w0 S Q e E (e2::e1::M)) : JE n w0 S Q e E (e1::e2::M):=⟨fun a w ha hw=>h.go a w ha hw.swap⟩
theorem JE.less {n : Nat} {w0 : World} {S : List Nat} {Q : Exit→Act→World→Prop} {e : Exit} {E : Env} {M M' : List aJ} (hM : ax M' M) (h : JE n w0 S Q e E M') : JE n w0 S Q e E M:=⟨fun a w ha hw=>h.go a w ha (hw.weak hM)⟩
theorem Sl.cJ.has {e : TypeId} {k cap m : Nat} {r : List Bt} : ∀ o,Sl.cJ e 1 k cap (r.map U8) o→aY o 0 ((r.take m).map U8)∧k≤cap:=by
  rintro o ⟨sp,rfl,h1,h2,h3⟩
  refine ⟨⟨_,_,_,rfl,fun i hi=>?_⟩,h3⟩
  have hi' : i<m∧i<r.length:=by simp at hi;omega
  simp [List.getElem?_append_left,hi'.1,hi'.2]
def aT.nt (s : aT) : List aJ:=match s.ad with
  | some a=>[⟨a.block,fun o=>aY o a.off (s.l.map U8)∧s.l.length≤s.cap∧a.spot=none,true⟩]
  | none=>[]
theorem aT.pW {s : aT} {w0 w : World} {S : List Nat} {M : List aJ} (h : ah w0 S (s.nt++M) w) (h0 : s.ad=none→s.l=[]) : s.ok w:=by
  obtain ⟨ad,cap,l⟩:=s
  cases ad with
  | none=>
    have : l=[]:=h0 rfl
    subst this
    exact ⟨by simp,Reads.nil _ _⟩
  | some a=>
    obtain ⟨o,ho,h1,h2,h3⟩:=h.get (b:=a.block) (A:=fun o=>aY o a.off (l.map U8)∧l.length≤cap∧a.spot=none) (wr:=true) .here
    obtain ⟨b,j,sp⟩:=a
    simp only at h3
    subst h3
    exact ⟨h2,Reads.block ho h1⟩
structure CD (s : aT) (l : List Bt) (cap : Nat) : Prop where
  val : s.l=l
  cap : s.cap=cap
  none : s.ad=.none→s.l=[]
section
variable {P : Program} {n : Nat} {w0 w w' : World} {S : List Nat} {ops : Array Oper} {Q : Exit→Act→World→Prop} {l : List Oper} {E : Env} {M Ms : List aJ} {d : Nat} {t t' e ty : TypeId} {pos : String} {aft : Array Edge} {x : Operand}
theorem Sl.ah.both (h : ah w0 S M w) (h2 : ah w [] Ms w') (hw : ∀ e ∈ Ms,e.wr=true) : ah w0 S (Ms++M) w':=by
  have hx : Ext w w':=h2.aH
  have h1:=h.ext hx
  have hfr : ∀ e ∈ Ms,w.heap.size≤e.b:=fun e he=>by
    rcases (h2.all e he).2 (hw e he) with h | h
    · cases h
    · exact h
  refine ⟨h1.aH,?_,fun e he=>?_⟩
  · rw [List.map_append,List.nodup_append]
    refine ⟨h2.nodup,h1.nodup,fun a ha b hb e=>?_⟩
    simp only [List.mem_map] at ha hb
    obtain ⟨e1,he1,rfl⟩:=ha
    obtain ⟨e2,he2,rfl⟩:=hb
    have:=hfr e1 he1
    obtain ⟨⟨o,ho,_⟩,_⟩:=h.all e2 he2
    have:=(Array.getElem?_eq_some_iff.1 ho).1
    omega
  · rcases List.mem_append.1 he with he | he
    · refine ⟨(h2.all e he).1,fun _=>.inr (Nat.le_trans h.aH.size (hfr e he))⟩
    · exact h1.all e he
theorem aT.Au (s : aT) : ∀ e ∈ s.nt,e.wr=true:=by
  intro e he
  unfold aT.nt at he
  split at he
  · simp only [List.mem_singleton] at he
    subst he
    rfl
  · cases he
theorem JL.dK {ι : Type} (vf : ι→Value) (Mf : ι→List aJ) {f : FuncId} {xs : List Operand} {ats : Array TypeId} {vs : List Value} (hg : aR P f) (hx : kQ E xs=some vs) (hd : Nat.blt d n=true) (hwr : ∀ i,∀ e ∈ Mf i,e.wr=true)
    (hc : ∀ w,ah w0 S M w→Calls P f vs.toArray w fun e w'=>∃ i,e=.returned (vf i)∧ah w [] (Mf i) w')
    (k : ∀ i,JL P n w0 S ops Q l ((d,vf i)::E) (Mf i++M)) : JL P n w0 S ops Q (⟨some d,.call ⟨.value (.func f),xs.toArray,ats⟩,ty,pos,aft,none⟩::l) E M:=
  JL.call (ι:=ι) vf (fun i=>Mf i++M) hg hx hd (fun w hw=>(hc w hw).mono fun _ _ ⟨i,h1,h2⟩=>⟨i,h1,hw.both h2 (hwr i)⟩) k
end
section
variable {P : Program} {n : Nat} {w0 w w' : World} {S : List Nat} {ops : Array Oper} {Q : Exit→Act→World→Prop} {l : List Oper} {E : Env} {M Ms : List aJ} {d : Nat} {t t' e ty : TypeId} {pos : String} {aft : Array Edge} {x : Operand}
def bytesOf (s : ByteArray) : List Bt:=s.data.toList.map UInt8.toBitVec
theorem fj (s : ByteArray) : (bytesOf s).length=s.size:=by simp [bytesOf]
theorem JL.G6 {s : ByteArray} {u : TypeDesc} (hs : P.underlying t=some u) (hu : P.underlying t'=some (.slice e)) (he : P.underlying e=some (.int .u8)) (hx : ev E x=some (.string s)) (hd : Nat.blt d n=true)
    (k : ∀ b cap,JL P n w0 S ops Q l ((d,aT.v ⟨some ⟨b,0,none⟩,cap,bytesOf s⟩)::E) ((⟨some ⟨b,0,none⟩,cap,bytesOf s⟩ : aT).nt++M)) : JL P n w0 S ops Q (⟨some d,.convert t t' x,ty,pos,aft,none⟩::l) E M:=
  ⟨fun a w ha hw=>wpList_plain rfl fun K hK=>by
    have hrun:=Lib.run_convert_string_bytes (P:=P) w t t' e s hs hu he
    have hheap : (Lib.bytesWorld w e s).heap=w.heap.push (.cells (Lib.bytesCells w e s) e ((Lib.bytesCells w e s).size,(Lib.bytesCells w e s).size+1)):=by
      apply Array.ext_getElem?
      intro i
      rw [Array.getElem?_push]
      by_cases h : i=w.heap.size
      · rw [if_pos h,h,Lib.bytesWorld_at_new]
      · rw [if_neg h]
        by_cases h2 : i<w.heap.size
        · rw [Lib.bytesWorld_at_old _ _ _ _ h2]
        · rw [Array.getElem?_eq_none (by rw [Lib.bytesWorld_size];omega),Array.getElem?_eq_none (by omega)]
    have hge:=grownCap_ge w s.size 0 e
    have hcells : aY (.cells (Lib.bytesCells w e s) e ((Lib.bytesCells w e s).size,(Lib.bytesCells w e s).size+1)) 0 ((bytesOf s).map U8):=by
      refine ⟨_,_,_,rfl,fun i hi=>?_⟩
      have hi : i<s.data.size:=by simpa [bytesOf] using hi
      simp only [Lib.bytesCells,bytesOf,Nat.zero_add,Array.getElem?_append,Array.size_map,hi,if_true,Array.getElem?_map,List.getElem?_map,Array.getElem?_toList,Option.map_map]
      rfl
    have h5 : aT.v ⟨some ⟨w.heap.size,0,none⟩,grownCap w s.size 0 e,bytesOf s⟩=.slice (some ⟨w.heap.size,0,none⟩) s.size (grownCap w s.size 0 e):=by
      simp [aT.v,fj]
    unfold Oper.wp
    simp only [execOp,ha.eval hx,Sem.run_bind,hrun,Result.andThen_ok]
    rw [← h5]
    exact hK _ _ ((k w.heap.size (grownCap w s.size 0 e)).go _ _ (ha.put d _ hd) (hw.push _ ⟨hcells,by show (bytesOf s).length≤_;rw [fj];exact hge,rfl⟩ hheap rfl rfl rfl))⟩
end
section
variable {P : Program} {n : Nat} {E : Env} {C : World→Prop} {dst : Option Tmp} {t t' ty : TypeId} {pos : String} {aft : Array Edge} {g : Option (Nat × Bool)} {x y : Operand}
theorem OQ.FJ {a b : Bt} (hx : ev E x=some (U8 a)) (hy : ev E y=some (U8 b)) : OQ P n E C ⟨dst,.binOp .neq t x y t',ty,pos,aft,g⟩ (.bool (!decide (a=b))):=by
  have:=OQ.Fq (P:=P) (n:=n) (C:=C) (dst:=dst) (ty:=ty) (t:=t) (t':=t') (pos:=pos) (aft:=aft) (g:=g) hx hy
  have h : decide ((a.toNat : Int)=b.toNat)=decide (a=b):=decide_eq_decide.2 ⟨fun h=>BitVec.eq_of_toNat_eq (by omega),fun h=>by rw [h]⟩
  rwa [h] at this
end
theorem ju {w0 w : World} {S : List Nat} {M : List aJ} {b j cap : Nat} {e : TypeId} {l : List Bt} {wr : Bool} (hw : ah w0 S M w) (hM : Has M b (Row e (l.map U8)) wr) (hj : j=0) (hc : l.length≤cap) : aT.ok w ⟨some ⟨b,j,none⟩,cap,l⟩:=by
  subst hj
  obtain ⟨o,ho,hA⟩:=hw.get hM
  exact ⟨hc,Reads.block ho (Row.all _ hA)⟩
theorem dN {w0 w : World} {S : List Nat} {M : List aJ} {b k cap : Nat} {e : TypeId} {l : List Bt} {wr : Bool} (hw : ah w0 S M w) (hM : Has M b (Sl.cJ e 1 k cap (l.map U8)) wr) : aT.ok w ⟨some ⟨b,0,none⟩,cap,l⟩:=by
  obtain ⟨o,ho,hA⟩:=hw.get hM
  have hh:=Sl.cJ.cells _ hA
  obtain ⟨sp,rfl,h2,h3,h4⟩:=hA
  simp only [List.length_map,Nat.mul_one] at h3
  exact ⟨by show l.length≤cap;omega,Reads.block ho hh⟩
theorem OQ.to {P : Program} {n : Nat} {E : Env} {C : World→Prop} {o : Oper} {v v' : Value} (h : OQ P n E C o v) (e : v=v') : OQ P n E C o v':=e ▸ h
def aT.fst (s : aT) (m : Nat) : aT:=⟨if s.cap=0 then s.ad else s.ad.map (·.add 0),s.cap,s.l.take m⟩
def aT.snd (s : aT) (m : Nat) : aT:=⟨if s.cap=m then s.ad else s.ad.map (·.add (m * 1)),s.cap - m,s.l.drop m⟩
theorem aT.ok.fst {s : aT} {w : World} (h : s.ok w) (m : Nat) : (s.fst m).ok w:=by
  refine ⟨by show (s.l.take m).length≤s.cap;have:=h.len;rw [List.length_take];omega,?_⟩
  show Reads w _ ((s.l.take m).map U8)
  by_cases h0 : s.l=[]
  · rw [h0];simpa using Reads.nil _ _
  · obtain ⟨b,j,hae,_⟩:=h.reads.at (by simpa using List.length_pos_iff.2 h0)
    have h1:=h.reads.take m
    rw [← List.map_take] at h1
    have h2 : (s.fst m).ad=s.ad:=by
      show (if s.cap=0 then s.ad else s.ad.map (·.add 0))=s.ad
      rw [hae]
      split <;> simp [Addr.add]
    rw [h2]
    exact h1
theorem aT.ok.snd {s : aT} {w : World} (h : s.ok w) (m : Nat) (hm : m≤s.l.length) : (s.snd m).ok w:=by
  refine ⟨by show (s.l.drop m).length≤s.cap - m;have:=h.len;rw [List.length_drop];omega,?_⟩
  have:=h.reads.drop (len:=s.l.length) (cap:=s.cap) (lo:=m) (by simp) h.len hm
  rwa [← List.map_drop] at this
theorem aT.Em (s : aT) (m : Nat) (hm : m≤s.l.length) : .slice (if s.cap=0 then s.ad else s.ad.map (·.add 0)) m s.cap=(s.fst m).v:=by simp [aT.v,aT.fst,Nat.min_eq_left hm]
theorem aT.Eo (s : aT) (m : Nat) : .slice (if s.cap=m then s.ad else s.ad.map (·.add (m * 1))) (s.l.length - m) (s.cap - m)=(s.snd m).v:=by simp [aT.v,aT.snd]
theorem rq {e : TypeId} {xs : List Value} {n : Nat} (h : xs.length=n) : ∀ o,Row e xs o→Sl.cJ e 1 n n xs o:=by
  rintro o rfl
  exact ⟨[],by simp,by simp [h],by simp [h],Nat.le_refl _⟩
theorem OQ.fst {P : Program} {n : Nat} {E : Env} {C : World→Prop} {dst : Option Tmp} {t ty e : TypeId} {pos : String} {aft : Array Edge} {g : Option (Nat × Bool)} {x y : Operand} {s : aT} {m : Nat} (hu : P.underlying t=some (.slice e)) (hz : dm P e=some 1) (hx : ev E x=some s.v) (hh : ev E y=some (N m)) (h : m≤s.l.length) (hc : s.l.length≤s.cap) :
    OQ P n E C ⟨dst,.slice t x none (some y) none,ty,pos,aft,g⟩ (s.fst m).v:=
  OQ.to (OQ.tn (ad:=s.ad) (len:=s.l.length) (cap:=s.cap) hu hz hx hh (Nat.le_trans h hc)) (aT.Em s m h)
theorem OQ.snd {P : Program} {n : Nat} {E : Env} {C : World→Prop} {dst : Option Tmp} {t ty e : TypeId} {pos : String} {aft : Array Edge} {g : Option (Nat × Bool)} {x y : Operand} {s : aT} {m : Nat} (hu : P.underlying t=some (.slice e)) (hz : dm P e=some 1) (hx : ev E x=some s.v) (hl : ev E y=some (N m)) (h : m≤s.l.length) :
    OQ P n E C ⟨dst,.slice t x (some y) none none,ty,pos,aft,g⟩ (s.snd m).v:=
  OQ.to (OQ.pT (ad:=s.ad) (len:=s.l.length) (cap:=s.cap) hu hz hx hl h) (aT.Eo s m)
theorem JL.BZ {P : Program} {n : Nat} {w0 : World} {S : List Nat} {ops : Array Oper} {Q : Exit→Act→World→Prop} {E : Env} {M : List aJ} {l : List Oper} {d : Tmp} {t ty e : TypeId} {pos : String} {aft : Array Edge} {z : Value} {by' : Nat} (hu : P.underlying t=some (.slice e)) (hi : EI P e z 1 by') (hd : Nat.blt d n=true)
    (k : ∀ b,w0.heap.size≤b→JL P n w0 S ops Q l ((d,.slice (some ⟨b,0,none⟩) 0 0)::E) (⟨b,Sl.cJ e 1 0 0 [],true⟩::M)) : JL P n w0 S ops Q (⟨some d,.buildSlice t 0 #[],ty,pos,aft,none⟩::l) E M:=
  JL.FF hu hi hd fun b hb=>⟨fun a w ha hw=>(k b hb).go a w ha (hw.weak (.keep _ _ _ _ _ _ (rq rfl) (ax.refl _)))⟩
structure D7 where
  ad : Option Addr
  cap : Nat
  l : List Int
def D7.v (s : D7) : Value:=.slice s.ad s.l.length s.cap
structure D7.ok (w : World) (s : D7) : Prop where
  len : s.l.length≤s.cap
  reads : Reads w s.ad (s.l.map fun i=>.int .i64 i)
theorem D7.ok.holds {w0 w : World} {S : List Nat} {M : List aJ} {s : D7} (h : s.ok w0) (hw : ah w0 S M w) (hS : S=[]) : s.ok w:=⟨h.len,hw.reads h.reads (fun _ a _=>by rw [hS];simp)⟩
theorem OQ.Ep {P : Program} {n : Nat} {E : Env} {C : World→Prop} {dst : Option Tmp} {t t' ty : TypeId} {pos : String} {aft : Array Edge} {g : Option (Nat × Bool)} {x y : Operand} {a : Bool} (hu : P.underlying t=some .bool) (hx : ev E x=some (.bool a)) (hy : ev E y=some (.bool a)) : OQ P n E C ⟨dst,.binOp .neq t x y t',ty,pos,aft,g⟩ (.bool false):=
  OQ.run fun c ha w _=>by
    have h1:=ha.eval hx
    have h2:=ha.eval hy
    have h3 : ∀ w,(underlying t).run P w=.ok .bool w:=run_underlying hu
    have h4 : (binOp .neq t (.bool a) (.bool a)).run P w=.ok (.bool false) w:=by
      show (do pure (.bool (!(← Op.equalIn (9999+1) t (.bool a) (.bool a)))) : Sem Value).run P w=_
      unfold Op.equalIn
      simp [Sem.run_bind,h3]
    simp [execOp,h1,h2,eqGuard,h4]
end
section
namespace Sl
section
variable {P : Program} {n : Nat} {w0 : World} {S : List Nat} {ops : Array Oper} {Q : Exit→Act→World→Prop} {l : List Oper} {E : Env} {M : List aJ} {C : World→Prop}
variable {dst : Option Tmp} {d b : Nat} {t e ty : TypeId} {pos : String} {aft : Array Edge} {g : Option (Nat × Bool)} {v : Value} {x y z : Operand}
theorem OQ.extract {vs : Array Value} {i : Nat} (hx : ev E x=some (.tuple vs)) (hi : vs[i]?=some v) : OQ P n E C ⟨dst,.extract x i,ty,pos,aft,g⟩ v:=
  OQ.run fun a ha w _=>by
    have h1:=ha.eval hx
    simp [execOp,h1,Instr.extract,hi]
theorem OQ.vg {len cap hi mx sz : Nat} {ad : Option Addr} (hu : P.underlying t=some (.slice e)) (hz : dm P e=some sz) (hx : ev E x=some (.slice ad len cap)) (hh : ev E y=some (N hi)) (hm : ev E z=some (N mx)) (h : hi≤mx) (h' : mx≤cap) :
    OQ P n E C ⟨dst,.slice t x none (some y) (some z),ty,pos,aft,g⟩ (.slice (if mx=0 then ad else ad.map (·.add 0)) hi mx):=
  OQ.run fun a ha w _=>by
    have h1:=ha.eval hx
    have h2:=ha.eval hh
    have h4:=ha.eval hm
    have h3 : (underlying t).run P w=.ok (.slice e) w:=run_underlying hu w
    simp [execOp,h1,h2,h4,Instr.sliceAt,Sem.run_bind,h3,Instr.slice,Instr.sliceBounds,Instr.sliceBound,asIntOf,h,h',aE hz]
theorem vh {k : Nat} (zc : Array Value) (h : zc=(List.replicate k (Value.int .u8 0)).toArray) (h0 : 0<k) (m : Nat) : madeCells zc m=(List.replicate m (Value.int .u8 0)).toArray:=by
  subst h
  apply Array.ext'
  simp only [madeCells,List.size_toArray,List.length_replicate,Array.toList_map,Array.toList_range]
  apply List.ext_getElem?
  intro i
  by_cases h : i<m
  · simp [h,Nat.mod_lt _ h0]
  · simp [h]
theorem JL.make {zv : Value} {sz by' c : Nat} (hu : P.underlying t=some (.slice e)) (hi : EI P e zv sz by') (hz : zv.cells=(List.replicate sz (Value.int .u8 0)).toArray) (h0 : 0<sz) (hx : ev E x=some (N c)) (hy : ev E y=some (N c)) (hb : by' * c≤281474976710656) (hc : c<9223372036854775808) (hd : Nat.blt d n=true)
    (k : ∀ b,w0.heap.size≤b→JL P n w0 S ops Q l ((d,.slice (some ⟨b,0,none⟩) c c)::E) (⟨b,Row e (List.replicate (c * sz) (.int .u8 0)),true⟩::M)) : JL P n w0 S ops Q (⟨some d,.makeSlice t x y,ty,pos,aft,none⟩::l) E M:=
  ⟨fun a w ha hw=>wpList_plain rfl fun K hK=>by
    obtain ⟨i,hi1,hi2,hi3,hi4⟩:=hi.get
    have hbb : (i.bytes : Int) * (c : Int)≤281474976710656:=by
      rw [hi4,← Int.natCast_mul]
      exact Int.ofNat_le.2 hb
    have hrun:=run_make (P:=P) w t e i zv hu hi1 hi2 .i64 .i64 c c (by omega) (Int.le_refl _) hbb (by omega)
    simp only [Int.toNat_natCast,hi3] at hrun
    rw [vh _ hz h0] at hrun
    unfold Oper.wp
    simp only [execOp,ha.eval hx,ha.eval hy,Sem.run_bind,hrun,Result.andThen_ok]
    exact hK _ _ ((k w.heap.size hw.aH.size).go _ _ (ha.put d _ hd) (hw.push (.cells (List.replicate (c * sz) (Value.int .u8 0)).toArray e (0,0)) rfl rfl rfl rfl rfl))⟩
end
end Sl
end
section
namespace Sl
section
variable {P : Program} {n : Nat} {w0 : World} {S : List Nat} {ops : Array Oper} {Q : Exit→Act→World→Prop} {l : List Oper} {E : Env} {M : List aJ}
variable {d : Nat} {t e ty : TypeId} {pos : String} {aft : Array Edge} {v z : Value} {x : Operand} {sz by' : Nat} {cs : List Value}
theorem tw {w : World} (hu : P.underlying t=some (.slice e)) (hi : EI P e z sz by') (_hz : z.cells.size=sz) (h0 : 0<sz) (hsm : sz≤16777216) (hl : cs.length=sz) :
    (Instr.buildSlice t 1 #[(0,.agg cs.toArray)]).run P w=.ok (.slice (some ⟨w.heap.size,0,none⟩) 1 1) { w with heap:=w.heap.push (.cells cs.toArray e (0,0)) }:=by
  have h3 : (underlying t).run P w=.ok (.slice e) w:=run_underlying hu w
  obtain ⟨i,h4,h5,_⟩:=hi.get
  obtain ⟨r,h6,h7,h8⟩:=Great.fill_dense h0 [.agg cs.toArray] 0 ((Array.range (1 * sz)).map (z.cells[· % z.cells.size]!)) (by simp [Value.cells,hl]) (by simp)
  have hr : r=cs.toArray:=by
    apply Array.ext_getElem?
    intro k
    rw [h8 k]
    by_cases hk : k<sz
    · rw [if_pos (by simp;omega)]
      simp [Nat.div_eq_of_lt hk,Nat.mod_eq_of_lt hk,Value.cells]
    · rw [if_neg (by simp;omega),Array.getElem?_eq_none (by simp;omega),Array.getElem?_eq_none (by simp;omega)]
  subst hr
  have h9 : ¬ (16777216<1 * sz):=by omega
  have h10 : ¬ (1 * sz=0):=by omega
  simp only [List.zipIdx_cons,List.zipIdx_nil,List.map_cons,List.map_nil] at h6
  have h11 : (zeroValue e).run P w=.ok z w:=by simp [zeroValue,typeInfo,h4,h5]
  have h12 : ¬ (16777216<sz):=by omega
  have h13 : ¬ (sz=0):=by omega
  rw [Nat.one_mul] at h6
  simp [Instr.buildSlice,Sem.run_bind,h3,aE hi.sz,h11,h12,h13,h6,newRow,newObj,Sem.run]
theorem JL.Er (hu : P.underlying t=some (.slice e)) (hi : EI P e z sz by') (hz : z.cells.size=sz) (h0 : 0<sz) (hsm : sz≤16777216) (hx : ev E x=some (.agg cs.toArray)) (hl : cs.length=sz) (hd : Nat.blt d n=true)
    (k : ∀ b,w0.heap.size≤b→JL P n w0 S ops Q l ((d,.slice (some ⟨b,0,none⟩) 1 1)::E) (⟨b,Row e cs,true⟩::M)) : JL P n w0 S ops Q (⟨some d,.buildSlice t 1 #[(0,x)],ty,pos,aft,none⟩::l) E M:=
  ⟨fun a w ha hw=>wpList_plain rfl fun K hK=>by
    unfold Oper.wp
    have hm : (#[(0,x)] : Array (Nat × Operand)).map (fun (i,x)=>(i,a.eval x))=#[(0,.agg cs.toArray)]:=by simp [ha.eval hx]
    simp only [execOp,hm,Sem.run_bind,tw hu hi hz h0 hsm hl,Result.andThen_ok]
    exact hK _ _ ((k w.heap.size hw.aH.size).go _ _ (ha.put d _ hd) (hw.push _ rfl rfl rfl rfl rfl))⟩
theorem tD {w : World} (hu : P.underlying t=some (.slice e)) (hi : EI P e z sz by') : (Instr.buildSlice t 0 #[]).run P w=.ok (.slice (some ⟨w.heap.size,0,none⟩) 0 0) { w with heap:=w.heap.push (.cells ([] : List Value).toArray e (0,0)) }:=by
  have h3 : (underlying t).run P w=.ok (.slice e) w:=run_underlying hu w
  have hr : Array.range 0=#[]:=by decide
  simp [Instr.buildSlice,Sem.run_bind,h3,aE hi.sz,Instr.fill,newRow,newObj,Sem.run,hr]
theorem JL.FK (hu : P.underlying t=some (.slice e)) (hi : EI P e z sz by') (hd : Nat.blt d n=true)
    (k : ∀ b,w0.heap.size≤b→JL P n w0 S ops Q l ((d,.slice (some ⟨b,0,none⟩) 0 0)::E) (⟨b,Sl.cJ e sz 0 0 [],true⟩::M)) : JL P n w0 S ops Q (⟨some d,.buildSlice t 0 #[],ty,pos,aft,none⟩::l) E M:=
  ⟨fun a w ha hw=>wpList_plain rfl fun K hK=>by
    unfold Oper.wp
    have hm : (#[] : Array (Nat × Operand)).map (fun (i,x)=>(i,a.eval x))=#[]:=by simp
    simp only [execOp,hm,Sem.run_bind,tD hu hi,Result.andThen_ok]
    exact hK _ _ ((k w.heap.size hw.aH.size).go _ _ (ha.put d _ hd) (hw.push (.cells ([] : List Value).toArray e (0,0)) ⟨[],rfl,by simp,by simp,Nat.le_refl _⟩ rfl rfl rfl rfl))⟩
end
end Sl
end
section
namespace Sl
section
variable {P : Program} {n : Nat} {w0 : World} {S : List Nat} {ops : Array Oper} {Q : Exit→Act→World→Prop} {l : List Oper} {E : Env} {M : List aJ} {C : World→Prop}
variable {dst : Option Tmp} {d b : Nat} {t t' e ty : TypeId} {pos : String} {aft : Array Edge} {g : Option (Nat × Bool)} {v zv : Value} {x y z : Operand} {by' : Nat}
theorem OQ.gZ {len cap lo hi sz : Nat} {ad : Option Addr} (hu : P.underlying t=some (.slice e)) (hz : dm P e=some sz) (hx : ev E x=some (.slice ad len cap)) (hl : ev E y=some (N lo)) (hh : ev E z=some (N hi)) (h : lo≤hi) (h' : hi≤cap) :
    OQ P n E C ⟨dst,.slice t x (some y) (some z) none,ty,pos,aft,g⟩ (.slice (if cap=lo then ad else ad.map (·.add (lo * sz))) (hi - lo) (cap - lo)):=
  OQ.run fun a ha w _=>by
    have h1:=ha.eval hx
    have h2:=ha.eval hl
    have h4:=ha.eval hh
    have h3 : (underlying t).run P w=.ok (.slice e) w:=run_underlying hu w
    simp [execOp,h1,h2,h4,Instr.sliceAt,Sem.run_bind,h3,Instr.slice,Instr.sliceBounds,Instr.sliceBound,asIntOf,h,h',aE hz]
theorem OQ.FL {a c : Nat} (hx : ev E x=some (N a)) (hy : ev E y=some (N c)) : OQ P n E C ⟨dst,.call ⟨.builtin .min,#[x,y],#[t,t']⟩,ty,pos,aft,g⟩ (N (min a c)):=
  OQ.run fun ac ha w _=>by
    have h1:=ha.eval hx
    have h2:=ha.eval hy
    have h3 : (if c<a then (c : Int) else (a : Int))=((min a c : Nat) : Int):=by split <;> omega
    simp [execOp,h1,h2,resolve,invoke,builtin,Builtin.min_,Builtin.min2,Sem.run_bind,N,h3]
theorem OQ.xP {len i sz : Nat} {cs ps : List Value} (hu : P.underlying t=some (.array len e)) (hz : dm P e=some sz) (ha' : ei P e=true) (hx : ev E x=some (.agg cs.toArray)) (hy : ev E y=some (N i)) (hi : i<len) (hv : (cs.drop (i * sz)).take sz=ps) :
    OQ P n E C ⟨dst,.index t x y,ty,pos,aft,g⟩ (.agg ps.toArray):=
  OQ.run fun a ha w _=>by
    have h1:=ha.eval hx
    have h2:=ha.eval hy
    have h3 : (underlying t).run P w=.ok (.array len e) w:=run_underlying hu w
    simp [execOp,h1,h2,Instr.index,asIntOf,Sem.run_bind,h3,hi,aE hz,part,fZ ha',hv]
theorem ot {j s : Nat} (h : (ops[j]?).bind (·.dst)=some s) (hl : lk E s=some undef) (hs : Nat.blt s n=true) {a : Act} (ha : bD n E a) : yielded ops a.tmps j=none:=by
  have hlt : s<n:=by simpa using hs
  have h1:=ha.all s undef hl
  have h2 : a.tmps[s]?=some undef:=by
    have : s<a.tmps.size:=by rw [ha.size];exact hlt
    rw [Array.getElem?_eq_getElem this]
    simpa [Array.getD,this] using h1
  simp [yielded,h,h2,undef]
theorem JL.xQ {j s : Nat} {want : Bool} {op : Op} (h : (ops[j]?).bind (·.dst)=some s) (hl : lk E s=some undef) (hs : Nat.blt s n=true) (hd : Nat.blt d n=true) (k : JL P n w0 S ops Q l ((d,undef)::E) M) :
    JL P n w0 S ops Q (⟨some d,op,ty,pos,aft,some (j,want)⟩::l) E M:=
  ⟨fun a w ha hw=>wpList_skip (by simp [Region.wanted,ot h hl hs ha]) (k.go _ _ (ha.put d undef hd) hw)⟩
def pairs : Nat→List Operand→List (Nat × Operand)
  | _,[]=>[]
  | i,x::xs=>(i,x)::pairs (i+1) xs
theorem oL {a : Act} (hk : bD n E a) : ∀ {xs : List Operand} {vs : List Value} (i : Nat),kQ E xs=some vs→(pairs i xs).map (fun p=>(p.1,a.eval p.2))=(vs.zipIdx i).map fun x=>(x.2,x.1)
  | [],vs,i,h=>by
    simp only [kQ,Option.some.injEq] at h
    subst h
    rfl
  | x::xs,vs,i,h=>by
    simp only [kQ] at h
    cases h1 : ev E x with
    | none=>simp [h1] at h
    | some v=>
      cases h2 : kQ E xs with
      | none=>simp [h1,h2] at h
      | some us=>
        simp only [h1,h2,Option.some.injEq] at h
        subst h
        simp [pairs,hk.eval h1,oL hk (i+1) h2]
theorem tE {w : World} {vs : List Value} {m : Nat} (hu : P.underlying t=some (.slice e)) (hi : EI P e zv 1 by') (hz : zv.cells.size=1) (h1 : ∀ v ∈ vs,v.cells=#[v]) (hm : vs.length=m) (h0 : 0<m) (hsm : m≤16777216) :
    (Instr.buildSlice t m ((vs.zipIdx 0).map fun x=>(x.2,x.1)).toArray).run P w=.ok (.slice (some ⟨w.heap.size,0,none⟩) m m) { w with heap:=w.heap.push (.cells vs.toArray e (0,0)) }:=by
  have h3 : (underlying t).run P w=.ok (.slice e) w:=run_underlying hu w
  obtain ⟨i,h4,h5,_⟩:=hi.get
  have h6:=Great.fill_flat vs ((Array.range (m * 1)).map (zv.cells[· % zv.cells.size]!)) h1 (by simp [hm])
  have h9 : ¬ (16777216<m):=by omega
  have h10 : ¬ (m=0):=by omega
  have h11 : (zeroValue e).run P w=.ok zv w:=by simp [zeroValue,typeInfo,h4,h5]
  simp only [Nat.mul_one] at h6
  simp [Instr.buildSlice,Sem.run_bind,h3,aE hi.sz,h9,h10,h11,h6,newRow,newObj,Sem.run]
theorem JL.CE {xs : List Operand} {ps : Array (Nat × Operand)} {vs : List Value} {m : Nat} (hu : P.underlying t=some (.slice e)) (hi : EI P e zv 1 by') (hz : zv.cells.size=1) (hps : ps=(pairs 0 xs).toArray) (hx : kQ E xs=some vs) (h1 : vs.all (fun v=>v.oneCell')=true) (h2 : ∀ v ∈ vs,v.cells=#[v]) (hm : vs.length=m) (h0 : 0<m) (hsm : m≤16777216) (hd : Nat.blt d n=true)
    (k : ∀ b,w0.heap.size≤b→JL P n w0 S ops Q l ((d,.slice (some ⟨b,0,none⟩) m m)::E) (⟨b,Row e vs,true⟩::M)) : JL P n w0 S ops Q (⟨some d,.buildSlice t m ps,ty,pos,aft,none⟩::l) E M:=
  ⟨fun a w ha hw=>wpList_plain rfl fun K hK=>by
    unfold Oper.wp
    have hm' : ps.map (fun (i,x)=>(i,a.eval x))=((vs.zipIdx 0).map fun x=>(x.2,x.1)).toArray:=by
      rw [hps,List.map_toArray,← oL ha 0 hx]
    simp only [execOp,hm',Sem.run_bind,tE hu hi hz h2 hm h0 hsm,Result.andThen_ok]
    exact hK _ _ ((k w.heap.size hw.aH.size).go _ _ (ha.put d _ hd) (hw.push _ rfl rfl rfl rfl rfl))⟩
end
end Sl
end
section
namespace Sl
section
variable {P : Program} {n : Nat} {w0 : World} {S : List Nat} {ops : Array Oper} {Q : Exit→Act→World→Prop} {l : List Oper} {E : Env} {M : List aJ} {C : World→Prop}
variable {dst : Option Tmp} {d b : Nat} {t t' e ty : TypeId} {pos : String} {aft : Array Edge} {g : Option (Nat × Bool)} {v zv : Value} {x y z : Operand} {by' : Nat}
theorem OQ.G7 {a b : BitVec 8} (hx : ev E x=some (U8 a)) (hy : ev E y=some (U8 b)) : OQ P n E C ⟨dst,.binOp .or t x y t',ty,pos,aft,g⟩ (U8 (a ||| b)):=
  OQ.bin hx hy rfl fun _=>eg (k:=.u8) (show IntKind.u8.wrap ((BitVec.ofInt 8 (a.toNat : Int) ||| BitVec.ofInt 8 (b.toNat : Int)).toNat : Int)=_ by rw [bK,bK,th])
theorem JL.vi {c : Nat} (hu : P.underlying t=some (.slice e)) (hi : EI P e (.int .u8 0) 1 1) (hx : ev E x=some (N 0)) (hy : ev E y=some (N c)) (hb : c≤281474976710656) (hd : Nat.blt d n=true)
    (k : ∀ b,w0.heap.size≤b→JL P n w0 S ops Q l ((d,.slice (some ⟨b,0,none⟩) 0 c)::E) (⟨b,Sl.cJ e 1 0 c [],true⟩::M)) : JL P n w0 S ops Q (⟨some d,.makeSlice t x y,ty,pos,aft,none⟩::l) E M:=
  ⟨fun a w ha hw=>wpList_plain rfl fun K hK=>by
    obtain ⟨i,hi1,hi2,hi3,hi4⟩:=hi.get
    have hbb : (i.bytes : Int) * (c : Int)≤281474976710656:=by
      rw [hi4,← Int.natCast_mul,Nat.one_mul]
      exact Int.ofNat_le.2 hb
    have hrun:=run_make (P:=P) w t e i _ hu hi1 hi2 .i64 .i64 0 c (by omega) (by omega) hbb (by omega)
    have hz : (Value.int .u8 0).cells=(List.replicate 1 (Value.int .u8 0)).toArray:=rfl
    simp only [Int.toNat_natCast,hi3,Int.toNat_zero] at hrun
    rw [vh _ hz (by decide)] at hrun
    have h0 : (N 0 : Value)=.int .i64 0:=rfl
    unfold Oper.wp
    simp only [execOp,ha.eval hx,ha.eval hy,Sem.run_bind,h0,hrun,Result.andThen_ok]
    exact hK _ _ ((k w.heap.size hw.aH.size).go _ _ (ha.put d _ hd) (hw.push (.cells (List.replicate (c * 1) (Value.int .u8 0)).toArray e (0,0)) ⟨List.replicate (c * 1) (.int .u8 0),rfl,by simp,rfl,Nat.zero_le _⟩ rfl rfl rfl rfl))⟩
end
end Sl
end
section
namespace Sl
@[reducible] def I (a : Int) : Value:=.int .i64 a
section
variable {P : Program} {n : Nat} {E : Env} {C : World→Prop} {dst : Option Tmp} {ty t t' : TypeId} {pos : String} {aft : Array Edge} {g : Option (Nat × Bool)} {x y : Operand}
theorem OQ.vj {d : TypeDesc} {a : BitVec 8} (hs : P.underlying t=some d) (hd : P.underlying t'=some (.int .i64)) (hx : ev E x=some (U8 a)) : OQ P n E C ⟨dst,.convert t t' x,ty,pos,aft,g⟩ (N a.toNat):=
  OQ.conv hs hd hx (by rw [mg (by omega) (by have:=a.isLt;omega)])
theorem OQ.xR {a b : BitVec 8} (hx : ev E x=some (U8 a)) (hy : ev E y=some (U8 b)) : OQ P n E C ⟨dst,.binOp .and t x y t',ty,pos,aft,g⟩ (U8 (a &&& b)):=
  OQ.bin hx hy rfl fun _=>eg (k:=.u8) (show IntKind.u8.wrap ((BitVec.ofInt 8 (a.toNat : Int) &&& BitVec.ofInt 8 (b.toNat : Int)).toNat : Int)=_ by rw [bK,bK,th])
theorem OQ.CF {a b : BitVec 8} (hx : ev E x=some (U8 a)) (hy : ev E y=some (U8 b)) : OQ P n E C ⟨dst,.binOp .add t x y t',ty,pos,aft,g⟩ (U8 (a+b)):=
  OQ.bin hx hy rfl fun _=>eg (k:=.u8) (show IntKind.u8.wrap ((a.toNat : Int)+b.toNat)=_ by rw [← Int.natCast_add,oH,BitVec.toNat_add])
theorem OQ.FM {a b : BitVec 8} (hx : ev E x=some (U8 a)) (hy : ev E y=some (U8 b)) (h : 0<b.toNat) : OQ P n E C ⟨dst,.binOp .quo t x y t',ty,pos,aft,g⟩ (U8 (a / b)):=
  OQ.bin hx hy rfl fun w=>by
    have h4 : ((a.toNat : Int).tdiv b.toNat)=((a.toNat / b.toNat : Nat) : Int):=by rw [Int.tdiv_eq_ediv_of_nonneg (by omega)];exact_mod_cast rfl
    have h5 : ¬ (b.toNat : Int)=0:=by omega
    have h6 : IntKind.u8.wrap ((a.toNat : Int).tdiv b.toNat)=((a / b).toNat : Int):=by
      rw [h4,oH,BitVec.toNat_udiv,Nat.mod_eq_of_lt (Nat.lt_of_le_of_lt (Nat.div_le_self _ _) a.isLt)]
    have h7 : Op.intDiv .quo .u8 (a.toNat : Int) b.toNat=(Pure.pure (.int .u8 (IntKind.u8.wrap ((a.toNat : Int).tdiv b.toNat))) : Sem Value):=by simp only [Op.intDiv,if_neg h5]
    show Sem.run P (Op.intDiv .quo .u8 (a.toNat : Int) b.toNat) w=_
    rw [h7,h6];rfl
theorem OQ.FN {a b : BitVec 8} (hx : ev E x=some (U8 a)) (hy : ev E y=some (U8 b)) (h : 0<b.toNat) : OQ P n E C ⟨dst,.binOp .rem t x y t',ty,pos,aft,g⟩ (U8 (a % b)):=
  OQ.bin hx hy rfl fun w=>by
    have h4 : ((a.toNat : Int).tmod b.toNat)=((a % b).toNat : Int):=by rw [Int.tmod_eq_emod_of_nonneg (by omega),BitVec.toNat_umod];exact_mod_cast rfl
    have h5 : ¬ (b.toNat : Int)=0:=by omega
    have h7 : Op.intDiv .rem .u8 (a.toNat : Int) b.toNat=(Pure.pure (.int .u8 ((a.toNat : Int).tmod b.toNat)) : Sem Value):=by simp only [Op.intDiv,if_neg h5]
    show Sem.run P (Op.intDiv .rem .u8 (a.toNat : Int) b.toNat) w=_
    rw [h7,h4];rfl
theorem OQ.FO {a : BitVec 8} {yk : IntKind} {k : Nat} (hx : ev E x=some (U8 a)) (hy : ev E y=some (.int yk k)) : OQ P n E C ⟨dst,.binOp .shr t x y t',ty,pos,aft,g⟩ (U8 (a >>> k)):=
  OQ.bin hx hy rfl fun w=>by
    have h1 : (a.toNat : Int).fdiv (2 ^ (min k 8))=((a >>> k).toNat : Int):=by
      rw [Int.fdiv_eq_ediv_of_nonneg _ (by exact Int.le_of_lt (Int.pow_pos (by decide))),BitVec.toNat_ushiftRight,Nat.shiftRight_eq_div_pow]
      by_cases hk : k≤8
      · rw [Nat.min_eq_left hk];simp
      · rw [Nat.min_eq_right (by omega)]
        have:=a.isLt
        rw [Nat.div_eq_of_lt (Nat.lt_of_lt_of_le this (Nat.pow_le_pow_right (by omega) (by omega)))]
        exact Int.ediv_eq_zero_of_lt (by omega) (by exact_mod_cast this)
    have h7 : Op.shift .shr .u8 (a.toNat : Int) yk (k : Int)=(Pure.pure (.int .u8 ((a.toNat : Int).fdiv (2 ^ (min k 8)))) : Sem Value):=by
      unfold Op.shift
      rw [if_neg (by omega)];rfl
    show Sem.run P (Op.shift .shr .u8 (a.toNat : Int) yk (k : Int)) w=_
    rw [h7,h1];rfl
end
end Sl
end
section
namespace Sl
section
variable {P : Program} {n : Nat} {E : Env} {C : World→Prop} {dst : Option Tmp} {ty t t' : TypeId} {pos : String} {aft : Array Edge} {g : Option (Nat × Bool)} {x y z : Operand}
theorem OQ.v9 {a b : BitVec 64} (hx : ev E x=some (ai a)) (hy : ev E y=some (ai b)) : OQ P n E C ⟨dst,.binOp .or t x y t',ty,pos,aft,g⟩ (ai (a ||| b)):=
  OQ.bin hx hy rfl fun _=>eg (k:=.u64) (show IntKind.u64.wrap ((BitVec.ofInt 64 (a.toNat : Int) ||| BitVec.ofInt 64 (b.toNat : Int)).toNat : Int)=_ by rw [bK,bK,pS])
theorem OQ.xS {a b : BitVec 64} (hx : ev E x=some (ai a)) (hy : ev E y=some (ai b)) : OQ P n E C ⟨dst,.binOp .xor t x y t',ty,pos,aft,g⟩ (ai (a ^^^ b)):=
  OQ.bin hx hy rfl fun _=>eg (k:=.u64) (show IntKind.u64.wrap ((BitVec.ofInt 64 (a.toNat : Int) ^^^ BitVec.ofInt 64 (b.toNat : Int)).toNat : Int)=_ by rw [bK,bK,pS])
theorem vk (i : Int) : IntKind.u64.wrap i=i % 18446744073709551616:=by simp [IntKind.wrap,IntKind.bits,IntKind.signed]
theorem OQ.CG {a b : BitVec 64} (hx : ev E x=some (ai a)) (hy : ev E y=some (ai b)) : OQ P n E C ⟨dst,.binOp .sub t x y t',ty,pos,aft,g⟩ (ai (a - b)):=
  OQ.bin hx hy rfl fun _=>eg (k:=.u64) (show IntKind.u64.wrap ((a.toNat : Int) - b.toNat)=((a - b).toNat : Int) by
    rw [BitVec.toNat_sub,vk]
    have:=a.isLt
    have:=b.isLt
    omega)
theorem OQ.Es {a : BitVec 64} (hx : ev E x=some (ai a)) : OQ P n E C ⟨dst,.unOp .neg t x,ty,pos,aft,g⟩ (ai (-a)):=
  OQ.run fun c ha w _=>by
    have h1:=ha.eval hx
    have h3 : IntKind.u64.wrap ((0 : Int) - (a.toNat : Int))=((-a).toNat : Int):=by
      rw [BitVec.toNat_neg,vk]
      have:=a.isLt
      omega
    simp only [execOp,h1]
    exact congrArg (fun z : Int=>(Result.ok (Next.value (Value.int .u64 z)) w : Result Next)) h3
theorem OQ.oM {a : BitVec 64} {yk : IntKind} {k : Nat} (hx : ev E x=some (ai a)) (hy : ev E y=some (.int yk k)) : OQ P n E C ⟨dst,.binOp .shl t x y t',ty,pos,aft,g⟩ (ai (a <<< k)):=
  OQ.bin hx hy rfl fun w=>by
    have h1 : IntKind.u64.wrap ((a.toNat : Int) * 2 ^ (min k 64))=((a <<< k).toNat : Int):=by
      rw [show ((a.toNat : Int) * 2 ^ (min k 64))=((a.toNat * 2 ^ (min k 64) : Nat) : Int) by simp,wrap64,BitVec.toNat_shiftLeft,Nat.shiftLeft_eq]
      by_cases hk : k≤64
      · rw [Nat.min_eq_left hk]
      · rw [Nat.min_eq_right (by omega)]
        congr 1
        rw [show k=64+(k - 64) by omega,Nat.pow_add,Nat.mul_mod_left,Nat.mul_left_comm,Nat.mul_mod_right]
    have h7 : Op.shift .shl .u64 (a.toNat : Int) yk (k : Int)=(Pure.pure (.int .u64 (IntKind.u64.wrap ((a.toNat : Int) * 2 ^ (min k 64)))) : Sem Value):=by
      unfold Op.shift
      rw [if_neg (by omega)];rfl
    show Sem.run P (Op.shift .shl .u64 (a.toNat : Int) yk (k : Int)) w=_
    rw [h7,h1];rfl
theorem OQ.nu {d : TypeDesc} {a : BitVec 8} (hs : P.underlying t=some d) (hd : P.underlying t'=some (.int .u64)) (hx : ev E x=some (U8 a)) : OQ P n E C ⟨dst,.convert t t' x,ty,pos,aft,g⟩ (ai (a.setWidth 64)):=
  OQ.conv hs hd hx (by rw [wrap64];simp [ai])
theorem OQ.ru {s f o : Nat} {fs : Array Field} {fd : Field} {b j sz : Nat} (hu : P.underlying s=some (.struct fs)) (hf : fs[f]?=some fd) (hz : dm P fd.type=some sz) (h0 : sz≠0) (hx : ev E x=some (.pointer (some ⟨b,j,none⟩))) (ho : j+fd.offset=o) :
    OQ P n E C ⟨dst,.fieldAddr s x f,ty,pos,aft,g⟩ (.pointer (some ⟨b,o,none⟩)):=ho ▸ OQ.cw hu hf hz h0 hx
structure B0 (P : Program) (f : FuncId) : Prop where
  go : ∃ fn,P.funcs[f]?=some fn∧(fn.name == "runtime.NumGoroutine")=false∧fn.body.isNone=true∧Extern.findNext fn=none∧Extern.find fn=some add64Entry
theorem OQ.xT {f : FuncId} {ats : Array TypeId} {a b c s o : BitVec 64} (hf : B0 P f) (hx : ev E x=some (ai a)) (hy : ev E y=some (ai b)) (hz : ev E z=some (ai c)) (hc : c.toNat≤1)
    (hs : s.toNat=(a.toNat+b.toNat+c.toNat) % 18446744073709551616) (ho : o.toNat=(a.toNat+b.toNat+c.toNat) / 18446744073709551616) :
    OQ P n E C ⟨dst,.call ⟨.value (.func f),#[x,y,z],ats⟩,ty,pos,aft,g⟩ (.tuple #[ai s,ai o]):=by
  refine ⟨fun ac hk w hw=>?_⟩
  obtain ⟨fn,h1,h2,h3,h4,h5⟩:=hf.go
  have r:=run_callFunc_extern h1 h2 h3 h4 h5 #[ai a,ai b,ai c] w
  rw [run_add64 (P:=P) (a.toNat : Int) (b.toNat : Int) (c.toNat : Int) (by omega) (by omega) (by omega) (by omega) w] at r
  have e1 : ((a.toNat : Int)+b.toNat+c.toNat) % 18446744073709551616=(s.toNat : Int):=by omega
  have e2 : ((a.toNat : Int)+b.toNat+c.toNat) / 18446744073709551616=(o.toNat : Int):=by omega
  rw [e1,e2] at r
  unfold Oper.quietAt
  have r' : (execOp ac.eval ⟨dst,.call ⟨.value (.func f),#[x,y,z],ats⟩,ty,pos,aft,g⟩).run P w=.ok (.value (.tuple #[ai s,ai o])) w:=by
    simp only [Result.andThen] at r
    have k1:=hk.eval hx
    have k2:=hk.eval hy
    have k3:=hk.eval hz
    rw [← r]
    simp [execOp,resolve,Sem.run_bind,Act.eval,Deferred.ofValue,invoke,k1,k2,k3]
    simp [Act.eval] at k1 k2 k3
    simp [k1,k2,k3]
  rw [r']
  exact ⟨rfl,rfl⟩
end
end Sl
end
section
open Sl
def rz (l : List Bt) : ByteArray:=⟨(l.map UInt8.ofBitVec).toArray⟩
@[reducible] def Z (l : List Bt) : Value:=.string (rz l)
theorem jY (l : List Bt) : bytesOf (rz l)=l:=by
  show ((l.map UInt8.ofBitVec).toArray.toList).map UInt8.toBitVec=l
  simp [Function.comp_def]
section
variable {P : Program} {n : Nat} {E : Env} {C : World→Prop} {dst : Option Tmp} {ty t t' e : TypeId} {pos : String} {aft : Array Edge} {g : Option (Nat × Bool)} {x y : Operand} {l r : List Bt}
end
section
variable {P : Program} {n : Nat} {E : Env} {w0 : World} {S : List Nat} {M : List aJ} {dst : Option Tmp} {ty t t' e : TypeId} {pos : String} {aft : Array Edge} {g : Option (Nat × Bool)} {x : Operand}
end
structure GD (x : aT) (l : List Bt) : Prop where
  val : x.l=l
  none : x.ad=.none→x.l=[]
theorem iG (A M : List aJ) : ax M (A++M):=by
  induction A with
  | nil=>exact ax.refl _
  | cons e A ih=>exact .drop _ _ _ ih
theorem GD.ok {x : aT} {l : List Bt} {w0 w : World} {S : List Nat} {M : List aJ} (h : GD x l) (hw : ah w0 S (x.nt++M) w) : x.ok w:=aT.pW hw h.none
end
section
open Sl
theorem kM.over {w0 w1 w2 : World} {S : List Nat} (h1 : Ext w0 w1) (h2 : kM S w1 w2) (hS : ∀ b ∈ S,w0.heap.size≤b) : Ext w0 w2:=
  ⟨h2.os.trans h1.os,h2.tape.trans h1.tape,h2.output.trans h1.output,Nat.le_trans h1.size h2.size,
   fun k hk hk'=>(h2.block k (Nat.lt_of_lt_of_le hk h1.size) (fun h=>by have:=hS k h;omega)).trans (h1.block k hk hk')⟩
theorem rA {A B : List aJ} (C : List aJ) (h : ax A B) : ax A (C++B):=by
  induction C with
  | nil=>exact h
  | cons e C ih=>exact .drop _ _ _ ih
theorem iH {B B' : List aJ} (h : ax B' B) : ∀ A : List aJ,ax (A++B') (A++B)
  | []=>h
  | ⟨_,_,_⟩::A=>.keep _ _ _ _ _ _ (fun _ h=>h) (iH h A)
structure D8 where
  ad : Option Addr
  cap : Nat
  rs : List aT
def D8.v (s : D8) : Value:=.slice s.ad s.rs.length s.cap
structure D8.ok (w : World) (s : D8) : Prop where
  len : s.rs.length≤s.cap
  reads : Reads w s.ad (s.rs.map aT.v)
  all : ∀ y ∈ s.rs,y.ok w
theorem Sl.ah.base {w0 w1 w2 : World} {M : List aJ} (h1 : Ext w0 w1) (h : ah w1 [] M w2) : ah w0 [] M w2:=
  ⟨kM.over h1 h.aH (by simp),h.nodup,fun e he=>⟨(h.all e he).1,fun hr=>.inr (((h.all e he).2 hr).elim (fun h=>by simp at h) (fun h=>Nat.le_trans h1.size h))⟩⟩
theorem JE.CH {P : Program} {fn : Func} {R : Ending→World→Prop} {n : Nat} {w0 : World} {S : List Nat} {E : Env} {M : List aJ} {r1 r2 r3 : ResultVar} {v1 v2 v3 : Value} (hr : fn.results=#[r1,r2,r3]) (h1 : RV P n w0 S E M r1 v1) (h2 : RV P n w0 S E M r2 v2) (h3 : RV P n w0 S E M r3 v3) (hR : ∀ w,ah w0 S M w→R (.returned (.tuple #[v1,v2,v3])) w) : JE n w0 S (bodyPost P fn R) .ret E M:=by
  refine ⟨fun a w ha hw=>?_⟩
  refine ⟨ha.defers,.tuple #[v1,v2,v3],?_,hR w hw⟩
  have e1:=h1 a w ha hw
  have e2:=h2 a w ha hw
  have e3:=h3 a w ha hw
  rw [js,hr]
  simp [Sem.run_bind,e1,e2,e3]
theorem D8.ok.holds {w0 w : World} {S : List Nat} {M : List aJ} {s : D8} (h : s.ok w0) (hw : ah w0 S M w) (hS : S=[]) : s.ok w:=⟨h.len,hw.reads h.reads (fun _ a _=>by rw [hS];simp),fun y hy=>(h.all y hy).holds hw hS⟩
section
variable {P : Program} {n : Nat} {E : Env} {C : World→Prop} {dst : Option Tmp} {ty t t' : TypeId} {pos : String} {aft : Array Edge} {g : Option (Nat × Bool)} {x y : Operand}
end
end
section
namespace Sl
section
variable {P : Program} {t tx e : TypeId}
variable {n : Nat} {w0 : World} {S : List Nat} {ops : Array Oper} {Q : Exit→Act→World→Prop} {l : List Oper} {E : Env} {M : List aJ} {d b : Nat} {ty : TypeId} {pos : String} {aft : Array Edge} {x y : Operand}
end
end Sl
end
section
namespace Sl
section
variable {P : Program} {n : Nat} {E : Env} {C : World→Prop} {dst : Option Tmp} {t t' ty : TypeId} {pos : String} {aft : Array Edge} {g : Option (Nat × Bool)} {x y : Operand} {c : Bool}
theorem OQ.Av {k : IntKind} {a b : Int} (hx : ev E x=some (.int k a)) (hy : ev E y=some (.int k b)) (h : decide (a≤b)=c) : OQ P n E C ⟨dst,.binOp .leq t x y t',ty,pos,aft,g⟩ (.bool c):=OQ.bin hx hy rfl fun _=>by cases k <;> exact gT h
theorem OQ.kU {k : IntKind} {a b : Int} (hx : ev E x=some (.int k a)) (hy : ev E y=some (.int k b)) (h : decide (b<a)=c) : OQ P n E C ⟨dst,.binOp .gtr t x y t',ty,pos,aft,g⟩ (.bool c):=OQ.bin hx hy rfl fun _=>by cases k <;> exact gT h
theorem OQ.we {k : IntKind} {a b : Int} (hx : ev E x=some (.int k a)) (hy : ev E y=some (.int k b)) (h : decide (b≤a)=c) : OQ P n E C ⟨dst,.binOp .geq t x y t',ty,pos,aft,g⟩ (.bool c):=OQ.bin hx hy rfl fun _=>by cases k <;> exact gT h
theorem OQ.D9 {k : IntKind} {a b : Int} (hx : ev E x=some (.int k a)) (hy : ev E y=some (.int k b)) (h : decide (a=b)=c) : OQ P n E C ⟨dst,.binOp .eql t x y t',ty,pos,aft,g⟩ (.bool c):=h ▸ OQ.FB hx hy
theorem OQ.Aj {k : IntKind} {a b : Int} (hx : ev E x=some (.int k a)) (hy : ev E y=some (.int k b)) (h : decide (a=b)=c) : OQ P n E C ⟨dst,.binOp .neq t x y t',ty,pos,aft,g⟩ (.bool (!c)):=by
  have:=OQ.Fq (P:=P) (n:=n) (C:=C) (dst:=dst) (ty:=ty) (t:=t) (t':=t') (pos:=pos) (aft:=aft) (g:=g) hx hy
  rw [h] at this
  exact this
end
end Sl
end
section
open Sl
abbrev Acc:=Option (Nat × Nat)
def aA (q : Acc) (k : Nat) : Value:=match q with
  | none=>.slice none 0 0
  | some p=>.slice (some ⟨p.1,0,none⟩) k p.2
def aZ (e : TypeId) (q : Acc) (xs : List Value) : List aJ:=match q with
  | none=>[]
  | some p=>[⟨p.1,Sl.cJ e 1 xs.length p.2 xs,true⟩]
theorem eT (e : TypeId) (q : Acc) (xs : List Value) : ∀ x ∈ aZ e q xs,x.wr=true:=by
  intro x hx
  cases q with
  | none=>cases hx
  | some p=>rw [List.mem_singleton.1 hx]
section
variable {P : Program} {n : Nat} {w0 : World} {S : List Nat} {ops : Array Oper} {Q : Exit→Act→World→Prop} {l : List Oper} {E : Env} {M : List aJ} {d : Nat} {t tx e ty : TypeId} {pos : String} {aft : Array Edge} {x y : Operand}
theorem JL.xU {i : TypeInfo} {ad : Option Addr} {sc : Nat} (hu : P.underlying t=some (.slice e)) (hi : P.info? e=some i) (hx : ev E x=some (.slice none 0 0)) (hy : ev E y=some (.slice ad 0 sc)) (hd : Nat.blt d n=true)
    (kk : JL P n w0 S ops Q l ((d,.slice none 0 0)::E) M) : JL P n w0 S ops Q (⟨some d,.call ⟨.builtin .append,#[x,y],#[t,t]⟩,ty,pos,aft,none⟩::l) E M:=
  ⟨fun a w ha hw=>wpList_plain rfl fun K hK=>by
    unfold Oper.wp
    simp only [execOp,resolve,invoke,builtin,Sem.run_bind,Sem.run_pure,Result.andThen_ok,List.map_toArray,List.map_cons,List.map_nil,ha.eval hx,ha.eval hy]
    rw [mj (_t':=t) hu hi (Nat.le_refl 0)]
    exact hK _ _ (kk.go _ _ (ha.put d _ hd) hw)⟩
theorem JL.pX {z : Value} {by' m sc : Nat} {ad : Option Addr} {xs cs : List Value} (q : Acc) (hu : P.underlying t=some (.slice e)) (hi : EI P e z 1 by') (hq : q=none→xs=[]) (hx : ev E x=some (aA q xs.length)) (hy : ev E y=some (.slice ad m sc))
    (hl : cs.length=m) (hr : ∀ w,ah w0 S (aZ e q xs++M) w→Reads w ad cs) (h1 : ∀ v ∈ cs,v.oneCell'=true)
    (hzz : z.cells.size=1) (hsm : (xs.length+m) * by'≤140737488355328) (hsm2 : xs.length+m<9223372036854775808) (hd : Nat.blt d n=true)
    (kk : ∀ q' : Acc,(q'=none→xs++cs=[])→JL P n w0 S ops Q l ((d,aA q' (xs++cs).length)::E) (aZ e q' (xs++cs)++M)) : JL P n w0 S ops Q (⟨some d,.call ⟨.builtin .append,#[x,y],#[t,t]⟩,ty,pos,aft,none⟩::l) E (aZ e q xs++M):=by
  subst hl
  cases q with
  | none=>
    obtain rfl:=hq rfl
    cases cs with
    | nil=>
      obtain ⟨i,hi1,_⟩:=hi.get
      exact JL.xU hu hi1 hx hy hd (kk none fun _=>rfl)
    | cons c cs=>
      refine JL.append_nil (cs:=c::cs) hu hi hx hy (by rw [Nat.mul_one]) hr (by simp) hzz (by decide) (by simpa using hsm) (by simpa using hsm2) hd fun b' cap' _=>?_
      exact kk (some (b',cap')) (fun h=>by cases h)
  | some p=>
    have e1 : (xs++cs).length=xs.length+cs.length:=List.length_append
    refine JL.append (cs:=cs) (b:=p.1) (cap:=p.2) (xs:=xs) (fun b' cap'=>aZ e (some (b',cap')) (xs++cs)++M) hu hi hx hy (fun b' cap'=>?_) (by rw [Nat.mul_one]) hr h1 hzz (by decide) hsm hsm2 hd fun b' cap'=>?_
    · show c9 (⟨p.1,Sl.cJ e 1 xs.length p.2 xs,true⟩::M) _ _ _ _ (⟨b',Sl.cJ e 1 (xs++cs).length cap' (xs++cs),true⟩::M)
      rw [e1]
      exact .here
    · have:=kk (some (b',cap')) (fun h=>by cases h)
      show JL P n w0 S ops Q l ((d,.slice (some ⟨b',0,none⟩) (xs.length+cs.length) cap')::E) _
      rw [← e1]
      exact this
end
end
section
set_option maxRecDepth 10000
open Sl
theorem iV : Tryd.prog.follows .mixedOrders=true:=by kernel_rfl
theorem dH : dm Tryd.prog 5=some 1:=by kernel_rfl
theorem om : fP Tryd.prog 5=true:=by kernel_rfl
theorem qN : EI Tryd.prog 5 (.int .u8 0) 1 1:=by unfold EI;kernel_rfl
end
section
set_option maxRecDepth 10000
open Sl
abbrev Pr:=List Bt × List Bt
def pc (p : Pr) : List Value:=[Z p.1,Z p.2]
structure wg where
  ad : Option Addr
  cap : Nat
  l : List Pr
def wg.cells (s : wg) : List Value:=s.l.flatMap pc
def wg.v (s : wg) : Value:=.slice s.ad s.l.length s.cap
structure wg.ok (w : World) (s : wg) : Prop where
  len : s.l.length≤s.cap
  reads : Reads w s.ad s.cells
theorem wg.ok.holds {w0 w : World} {S : List Nat} {M : List aJ} {s : wg} (h : s.ok w0) (hw : ah w0 S M w) (hS : S=[]) : s.ok w:=⟨h.len,hw.reads h.reads (fun _ a _=>by rw [hS];simp)⟩
theorem B1 : ∀ (l : List Pr) {i : Nat},i<l.length→(l.flatMap pc)[2 * i]?=some (Z (l.getD i ([],[])).1)∧(l.flatMap pc)[2 * i+1]?=some (Z (l.getD i ([],[])).2)
  | [],i,h=>by simp at h
  | p::l,0,_=>⟨rfl,rfl⟩
  | p::l,i+1,h=>by
    have:=B1 l (i:=i) (by simpa using h)
    simp only [List.flatMap_cons,List.getD_cons_succ]
    rw [show 2 * (i+1)=2 * i+2 by omega]
    exact this
theorem wg.ok.at {w : World} {s : wg} (h : s.ok w) {i : Nat} (hi : i<s.l.length) : ∃ b j,s.ad=some ⟨b,j,none⟩∧b<w.heap.size∧w.cell? ⟨b,j+i * 2,none⟩=some (Z (s.l.getD i ([],[])).1)∧w.cell? ⟨b,j+i * 2+1,none⟩=some (Z (s.l.getD i ([],[])).2):=by
  obtain ⟨h1,h2⟩:=B1 s.l hi
  obtain ⟨b,j,e1,c1⟩:=h.reads _ _ h1
  obtain ⟨b',j',e2,c2⟩:=h.reads _ _ h2
  rw [e1] at e2
  cases e2
  exact ⟨b,j,e1,block_lt_of_cell c1,by rw [Nat.mul_comm];exact c1,by rw [Nat.mul_comm,Nat.add_assoc];exact c2⟩
section
variable {P : Program} {n : Nat} {E : Env} {C : World→Prop} {dst : Option Tmp} {t t' ty : TypeId} {pos : String} {aft : Array Edge} {g : Option (Nat × Bool)} {x y : Operand} {p q : Pr}
end
end
section
set_option maxRecDepth 10000
open Sl
structure vl where
  ad : Option Addr
  cap : Nat
  l : List (List Bt)
def vl.cells (s : vl) : List Value:=s.l.map Z
def vl.v (s : vl) : Value:=.slice s.ad s.l.length s.cap
structure vl.ok (w : World) (s : vl) : Prop where
  len : s.l.length≤s.cap
  reads : Reads w s.ad s.cells
theorem vl.ok.holds {w0 w : World} {S : List Nat} {M : List aJ} {s : vl} (h : s.ok w0) (hw : ah w0 S M w) (hS : S=[]) : s.ok w:=⟨h.len,hw.reads h.reads (fun _ a _=>by rw [hS];simp)⟩
theorem vl.ok.at {w : World} {s : vl} (h : s.ok w) (h0 : 0<s.l.length) : ∃ b j,s.ad=some ⟨b,j,none⟩∧b<w.heap.size∧∀ i,i<s.l.length→w.cell? ⟨b,j+i,none⟩=some (Z (s.l.getD i [])):=by
  obtain ⟨b,j,h1,h2⟩:=h.reads.at (by simpa [vl.cells] using h0)
  have hc : ∀ i,i<s.l.length→w.cell? ⟨b,j+i,none⟩=some (Z (s.l.getD i [])):=fun i hi=>h2 i _ (dx Z [] hi)
  exact ⟨b,j,h1,block_lt_of_cell (hc 0 h0),hc⟩
def wg.nt (s : wg) : List aJ:=match s.ad with
  | some a=>[⟨a.block,fun o=>aY o a.off s.cells∧s.l.length≤s.cap∧a.spot=none,true⟩]
  | none=>[]
def vl.nt (s : vl) : List aJ:=match s.ad with
  | some a=>[⟨a.block,fun o=>aY o a.off s.cells∧s.l.length≤s.cap∧a.spot=none,true⟩]
  | none=>[]
structure Gz (A : List (List Bt)) where
  z : vl
  h : z.l=A
  n : z.ad=none→z.l=[]
structure G2 (A : List Pr) where
  z : wg
  h : z.l=A
  n : z.ad=none→z.l=[]
def tF (M : List aJ) : List aJ:=M.map fun e=>⟨e.b,e.A,false⟩
theorem ah.tF {w0 w : World} {S : List Nat} {M : List aJ} (h : ah w0 S M w) : ah w [] (tF M) w:=by
  refine ⟨kM.refl _ _,?_,fun e he=>?_⟩
  · rw [Proofs.YtkfeolclllhfpaaDoor.tF,List.map_map]
    exact h.nodup
  · obtain ⟨q,hq,rfl⟩:=List.mem_map.1 he
    exact ⟨(h.all q hq).1,nofun⟩
end
section
set_option maxRecDepth 10000
namespace Sl
theorem Aw {N M : List aJ} {b : Nat} {A : Obj→Prop} {wr : Bool} (h : Has M b A wr) : Has (N++M) b A wr:=by
  induction N with
  | nil=>exact h
  | cons e N ih=>exact .there ih
section
variable {P : Program} {n : Nat} {w0 : World} {S : List Nat} {ops : Array Oper} {Q : Exit→Act→World→Prop} {l : List Oper} {E : Env} {M M' M0 : List aJ} {d : Nat} {t e ty : TypeId} {pos : String} {aft : Array Edge} {x y : Operand}
theorem ah.perm' {w0 w : World} {S : List Nat} {M M' : List aJ} (hp : M.Perm M') (h : ah w0 S M w) : ah w0 S M' w:=
  h.sub ((hp.map aJ.b).nodup_iff.1 h.nodup) fun e he=>hp.mem_iff.2 he
theorem JL.xV (h : JL P n w0 S ops Q l E M') (hM : ax M' M) : JL P n w0 S ops Q l E M:=⟨fun a w ha hw=>h.go a w ha (hw.weak hM)⟩
theorem JL.perm (h : JL P n w0 S ops Q l E M') (hp : M.Perm M') : JL P n w0 S ops Q l E M:=⟨fun a w ha hw=>h.go a w ha (hw.perm' hp)⟩
theorem JC.xV {c : Code} (h : JC P n w0 S Q c E M') (hM : ax M' M) : JC P n w0 S Q c E M:=⟨fun a w ha hw=>h.go a w ha (hw.weak hM)⟩
end
end Sl
end
section
namespace Sl
section
variable {P : Program} {n : Nat} {E : Env} {C : World→Prop} {dst : Option Tmp} {t ty : TypeId} {pos : String} {aft : Array Edge} {g : Option (Nat × Bool)} {x y z : Operand} {l : List Bt}
end
end Sl
end
section
set_option maxRecDepth 10000
namespace Sl
def wh (P : Program) (w0 : World) (fv : Value) (p : Bt→Bool) : Prop:=
  ∃ (f : FuncId) (caps : List Value),fv=.func (.func f) #[] caps.toArray∧aR P f∧∀ (c : Bt) (w : World),Ext w0 w→Calls P f (U8 c::caps).toArray w fun e w'=>e=.returned (.bool (p c))∧Ext w w'
theorem wh.ext {P : Program} {w0 w1 : World} {fv : Value} {p : Bt→Bool} (h : wh P w0 fv p) (hx : Ext w0 w1) : wh P w1 fv p:=by
  obtain ⟨f,caps,h1,h2,h3⟩:=h
  exact ⟨f,caps,h1,h2,fun c w hw=>h3 c w (hx.trans hw)⟩
theorem wh.holds {P : Program} {w0 w1 : World} {M : List aJ} {fv : Value} {p : Bt→Bool} (h : wh P w0 fv p) (hw : ah w0 [] M w1) : wh P w1 fv p:=h.ext hw.aH
section
variable {P : Program} {n : Nat} {w0 : World} {S : List Nat} {Q Q' : Exit→Act→World→Prop} {E E' : Env} {M M' : List aJ}
variable {dst : Option Tmp} {ty : TypeId} {pos : String} {aft : Array Edge} {g : Option (Nat × Bool)} {x y : Operand} {ats : Array TypeId}
theorem JC.mono {c : Code} (h : JC P n w0 S Q c E M) (hq : ∀ e a w,Q e a w→Q' e a w) : JC P n w0 S Q' c E M:=
  ⟨fun a w ha hw b k cs=>let ⟨e,a',w',h1,h2⟩:=h.go a w ha hw b k cs;⟨e,a',w',hq e a' w' h1,h2⟩⟩
theorem JC.goto {l : Nat} (h : JE n w0 S Q (.goto l) E M) : JC P n w0 S Q (.goto l) E M:=⟨fun a w ha hw=>wp_goto (h.go a w ha hw)⟩
end
end Sl
end
section
set_option maxRecDepth 10000
namespace Sl
section
variable {w0 w w' : World} {S : List Nat} {X Y M M0 : List aJ}
def keys (X : List aJ) : List Nat:=X.map aJ.b
theorem ah.own (h : ah w0 S (X++M0) w) : ah w (keys X) (X++tF M0) w:=by
  refine ⟨kM.refl _ _,?_,fun e he=>?_⟩
  · have : (X++tF M0).map aJ.b=(X++M0).map aJ.b:=by simp [tF,Function.comp_def]
    rw [this];exact h.nodup
  · rcases List.mem_append.1 he with he | he
    · exact ⟨(h.all e (List.mem_append_left _ he)).1,fun _=>.inl (List.mem_map_of_mem he)⟩
    · obtain ⟨q,hq,rfl⟩:=List.mem_map.1 he
      exact ⟨(h.all q (List.mem_append_right _ hq)).1,nofun⟩
theorem ah.B2 (h : ah w0 S (X++M0) w) (h2 : ah w (keys X) Y w') (hX : ∀ e ∈ X,e.wr=true) (hY : ∀ e ∈ Y,e.wr=true) : ah w0 S (Y++M0) w':=by
  have hs : ∀ k ∈ keys X,k ∈ S∨w0.heap.size≤k:=fun k hk=>by
    obtain ⟨e,he,rfl⟩:=List.mem_map.1 hk
    exact (h.all e (List.mem_append_left _ he)).2 (hX e he)
  have hnd:=h.nodup
  rw [List.map_append,List.nodup_append] at hnd
  refine ⟨⟨h2.aH.os.trans h.aH.os,h2.aH.tape.trans h.aH.tape,h2.aH.output.trans h.aH.output,Nat.le_trans h.aH.size h2.aH.size,fun k hk hS=>?_⟩,?_,fun e he=>?_⟩
  · refine (h2.aH.block k (Nat.lt_of_lt_of_le hk h.aH.size) fun hm=>?_).trans (h.aH.block k hk hS)
    rcases hs k hm with h | h
    · exact hS h
    · omega
  · rw [List.map_append,List.nodup_append]
    refine ⟨h2.nodup,hnd.2.1,fun a ha b hb e=>?_⟩
    subst e
    obtain ⟨e1,he1,rfl⟩:=List.mem_map.1 ha
    obtain ⟨e2,he2,hb2⟩:=List.mem_map.1 hb
    rcases (h2.all e1 he1).2 (hY e1 he1) with hk | hk
    · exact hnd.2.2 _ hk _ hb rfl
    · have:=h.lt (List.mem_append_right X he2)
      omega
  · rcases List.mem_append.1 he with he | he
    · refine ⟨(h2.all e he).1,fun hw=>?_⟩
      rcases (h2.all e he).2 hw with hk | hk
      · exact hs _ hk
      · exact .inr (Nat.le_trans h.aH.size hk)
    · obtain ⟨⟨o,ho,hA⟩,hw⟩:=h.all e (List.mem_append_right X he)
      refine ⟨⟨o,(h2.aH.block e.b (h.lt (List.mem_append_right X he)) fun hm=>?_).trans ho,hA⟩,hw⟩
      exact hnd.2.2 _ hm _ (List.mem_map_of_mem he) rfl
end
section
variable {P : Program} {n : Nat} {w0 : World} {S : List Nat} {ops : Array Oper} {Q : Exit→Act→World→Prop} {l : List Oper} {E : Env} {M M' : List aJ} {C : World→Prop}
variable {dst : Option Tmp} {d b j : Nat} {op : Op} {t t' ty e : TypeId} {pos : String} {aft : Array Edge} {g : Option (Nat × Bool)} {x y : Operand} {cs : List Value}
theorem JL.xW {ι : Type} {X M0 : List aJ} (vf : ι→Value) (Yf : ι→List aJ) {f : FuncId} {xs : List Operand} {ats : Array TypeId} {vs : List Value} (hg : aR P f) (hx : kQ E xs=some vs) (hd : Nat.blt d n=true) (hX : ∀ e ∈ X,e.wr=true) (hY : ∀ i,∀ e ∈ Yf i,e.wr=true)
    (hc : ∀ w,ah w (keys X) (X++tF M0) w→Calls P f vs.toArray w fun e w'=>∃ i,e=.returned (vf i)∧ah w (keys X) (Yf i) w')
    (k : ∀ i,JL P n w0 S ops Q l ((d,vf i)::E) (Yf i++M0)) : JL P n w0 S ops Q (⟨some d,.call ⟨.value (.func f),xs.toArray,ats⟩,ty,pos,aft,none⟩::l) E (X++M0):=
  JL.call (ι:=ι) vf (fun i=>Yf i++M0) hg hx hd (fun w hw=>(hc w hw.own).mono fun _ _ ⟨i,h1,h2⟩=>⟨i,h1,hw.B2 h2 hX (hY i)⟩) k
theorem xX {b hi cap : Nat} : Value.slice (if cap=0 then some ⟨b,0,none⟩ else (some ⟨b,0,none⟩ : Option Addr).map (·.add 0)) hi cap=.slice (some ⟨b,0,none⟩) hi cap:=by
  split <;> simp [Addr.add]
theorem JL.Et {A : Obj→Prop} {wr : Bool} {F : Prop} (hM : Has M b A wr) (hA : ∀ o,A o→F) (k : F→JL P n w0 S ops Q l E M) : JL P n w0 S ops Q l E M:=
  ⟨fun a w ha hw=>by obtain ⟨o,_,h⟩:=hw.get hM;exact (k (hA o h)).go a w ha hw⟩
theorem OQ.Eu {ad : Option Addr} {k cap : Nat} (hu : P.underlying t=some (.slice e)) (hx : ev E x=some (.slice ad k cap)) : OQ P n E C ⟨dst,.call ⟨.builtin .cap,#[x],#[t]⟩,ty,pos,aft,g⟩ (N cap):=
  OQ.run fun a hk w _=>by
    have h1:=hk.eval hx
    have h3 : (underlying t).run P w=.ok (.slice e) w:=run_underlying hu w
    simp [execOp,h1,resolve,invoke,builtin,Builtin.cap_,Sem.run_bind,h3,goInt]
structure GF (P : Program) (f : FuncId) (tS tR : TypeId) : Prop where
  go : ∃ fn,P.funcs[f]?=some fn∧(fn.name == "runtime.NumGoroutine")=false∧fn.body.isNone=true∧Extern.findNext fn=none∧Extern.find fn=some (Extern.SlicesOverlaps.overlaps #[tS,tS] #[tR])
end
end Sl
end
end Go.Proofs.YtkfeolclllhfpaaDoor
