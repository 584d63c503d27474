/-
  Of no statement by itself: the texts DskA, DskB, Slf, Slfi, Slgr, Slfr, Slrw, DskC, DskD, Slcv, DskE, Sliv, JrnP, NumP, NumA, JrnA, DskL, JrnM, JrnB, Slal, JrnC, JrnD, JrnE, JrnF in one.
  Conditions: each theorem's own.
-/
import Derived.Test.YtmhlgnbdhnolaaaGreatDoorQa
import Derived.Laws.Tables
import Derived.RangeFuncWrites
import Derived.RangeFuncLeaves
import Derived.TacticsIn
import Derived.Shelf.Abstract
import Derived.OrdersIn
import Derived.Laws.Cover3
import Derived.Laws.StructEq
set_option linter.unusedSimpArgs false
set_option linter.unusedVariables false
namespace Go.Proofs.YtmhlgnbdhnolaaaGreatDoor
section
set_option maxRecDepth 10000
open Sl cY
theorem pK : dH Tryz.prog 141=some 64:=by kernel_rfl
theorem qb : jX Tryz.prog 141=true:=by kernel_rfl
theorem CA : zc Tryz.prog 141=some (List.replicate 64 (.int .u8 0)):=by kernel_rfl
theorem DA : EI Tryz.prog 141 (.agg (List.replicate 64 (.int .u8 0)).toArray) 64 64:=by unfold EI;kernel_rfl
theorem Ea : EI Tryz.prog 331 (.agg (Value.int .i64 0::List.replicate 64 (.int .u8 0)).toArray) 65 72:=by unfold EI;kernel_rfl
theorem Az : dP Tryz.prog 95=true:=by kernel_rfl
theorem EG : dP Tryz.prog 96=true:=by kernel_rfl
theorem Eb : dH Tryz.prog 96=some 1:=by kernel_rfl
theorem bI : dP Tryz.prog 3=true:=by kernel_rfl
def bc (b : Bk) : List Value:=b.map U8
def wc (w : Nat × Bk) : List Value:=N w.1::bc w.2
def kW (bl : List Bk) : List (List Value):=bl.map bc
def oI (pd : List (Nat × Bk)) : List (List Value):=pd.map wc
structure Dp where
  p : Nat
  q : Nat
  cap : Nat
  a : Acc
def iM (x : Dp) (bl : List Bk) (pd : List (Nat × Bk)) : List Value:=[.slice (some ⟨x.q,0,none⟩) bl.length x.cap,ah x.a pd.length]
def cg (x : Dp) (bl : List Bk) (pd : List (Nat × Bk)) : List ai:=
  ⟨x.p,Row 98 (iM x bl pd),true⟩::⟨x.q,Sl.Own 141 64 bl.length x.cap (kW bl).flatten,true⟩::aY 331 65 x.a (oI pd)
theorem cl (x : Dp) (bl : List Bk) (pd : List (Nat × Bk)) : ∀ e ∈ cg x bl pd,e.wr=true:=by
  intro e he
  rcases List.mem_cons.1 he with rfl | he
  · rfl
  · rcases List.mem_cons.1 he with rfl | he
    · rfl
    · exact jy _ _ _ _ e he
structure bB (x : Dp) (bl : List Bk) (pd : List (Nat × Bk)) : Prop where
  ok : Ok bl pd
  n0 : 0<bl.length
  n1 : bl.length≤65536
  m : pd.length≤1000000
  a : x.a=none→pd=[]
theorem cL {b : Bk} (h : b.length=64) : (bc b).length=64:=by rw [bc,List.length_map];exact h
theorem ld {bl : List Bk} {pd : List (Nat × Bk)} (h : Ok bl pd) : ∀ c ∈ kW bl,c.length=64:=by
  intro c hc
  obtain ⟨b,hb,rfl⟩:=List.mem_map.1 hc
  exact cL (h.b b hb)
theorem wA {bl : List Bk} {i : Nat} (h : i<bl.length) : (kW bl).getD i []=bc (old bl i):=by
  simp [kW,old,h]
theorem yV (bl : List Bk) (i : Nat) (b : Bk) : (kW bl).set i (bc b)=kW (bl.set i b):=by
  simp [kW,List.map_set]
theorem eV (b : Bk) : (bc b).all Value.oneCell'=true:=by simp [bc,Value.oneCell']
theorem tM (bl : List Bk) : (kW bl).length=bl.length:=List.length_map _
theorem tN (pd : List (Nat × Bk)) : (oI pd).length=pd.length:=List.length_map _
theorem tO {x : Dp} {bl : List Bk} {pd : List (Nat × Bk)} {w0 w : World} {S : List Nat} {M : List ai} (hw : Holds w0 S (cg x bl pd++M) w) : w.cell? ⟨x.p,0,none⟩=some (.slice (some ⟨x.q,0,none⟩) bl.length x.cap)∧w.cell? ⟨x.p,1,none⟩=some (ah x.a pd.length):=by
  obtain ⟨o,ho,hA⟩:=hw.get (b:=x.p) (A:=Row 98 (iM x bl pd)) (wr:=true) .here
  exact ⟨cell_of ho (Row.cell rfl _ hA),cell_of ho (Row.cell rfl _ hA)⟩
theorem qc : aL Tryz.prog 279:=⟨_,Tryz.func279,rfl,by kernel_rfl⟩
theorem tP (p : Nat) (ad : Option Addr) (len cap : Nat) (n : Int) (w : World) (hc : w.cell? ⟨p,0,none⟩=some (.slice ad len cap)) :
    Calls Tryz.prog 279 [Pt p 0,.int .i64 n].toArray w fun e w'=>e=.returned (.bool (decide (0≤n∧n<len)))∧Ext w w':=by
  refine enter (n:=16) Tryz.func279 rfl rfl rfl (Holds.start w []) ?_
  cases h1 : decide ((0 : Int)≤n)
  · repeat (first | refine JL.q (by first|(apply OQ.ee (b:=0);rfl;rfl;exact h1)|(apply OQ.aJ;rfl;rfl)|(apply OQ.move;rfl)|(apply OQ.assign;rfl)) rfl ?_ | refine JC.seq ?_ | refine JC.region ?_ | refine JL.nil ?_ | refine JE.next ?_ | refine JL.bC rfl rfl rfl rfl ?_)
    refine JC.ret (JE.aR rfl (RV.tmp rfl) fun w' hw=>⟨?_,hw.bf⟩)
    rw [decide_eq_false fun h=>of_decide_eq_false h1 h.1]
  · cases h2 : decide (n<(len : Int))
    · repeat (first | refine JL.q (by first|(apply OQ.ee (b:=0);rfl;rfl;exact h1)|(apply OQ.bJ;exact Az;rfl;exact (block_lt_of_cell hc);exact (by simp);exact hc)|(apply OQ.len;exact Tryz.underlying95;rfl)|(apply OQ.gv;rfl;rfl;exact h2)|(apply OQ.aS;rfl;rfl)|(apply OQ.move;rfl)|(apply OQ.assign;rfl)|(apply OQ.aO;rfl)|(apply OQ.aV;rfl;rfl;rfl;exact (by decide);rfl)) rfl ?_ | refine JC.seq ?_ | refine JC.region ?_ | refine JL.nil ?_ | refine JE.next ?_ | refine JL.aB rfl rfl ?_)
      refine JC.ret (JE.aR rfl (RV.tmp rfl) fun w' hw=>⟨?_,hw.bf⟩)
      rw [decide_eq_false fun h=>of_decide_eq_false h2 h.2]
    · repeat (first | refine JL.q (by first|(apply OQ.ee (b:=0);rfl;rfl;exact h1)|(apply OQ.bJ;exact Az;rfl;exact (block_lt_of_cell hc);exact (by simp);exact hc)|(apply OQ.len;exact Tryz.underlying95;rfl)|(apply OQ.gv;rfl;rfl;exact h2)|(apply OQ.aS;rfl;rfl)|(apply OQ.move;rfl)|(apply OQ.assign;rfl)|(apply OQ.aO;rfl)|(apply OQ.aV;rfl;rfl;rfl;exact (by decide);rfl)) rfl ?_ | refine JC.seq ?_ | refine JC.region ?_ | refine JL.nil ?_ | refine JE.next ?_ | refine JL.aB rfl rfl ?_)
      refine JC.ret (JE.aR rfl (RV.tmp rfl) fun w' hw=>⟨?_,hw.bf⟩)
      rw [decide_eq_true ⟨of_decide_eq_true h1,of_decide_eq_true h2⟩]
theorem uI (p : Nat) (ad : Option Addr) (len cap : Nat) (w : World) (hc : w.cell? ⟨p,0,none⟩=some (.slice ad len cap)) :
    Calls Tryz.prog 276 [Pt p 0].toArray w fun e w'=>e=.returned (N len)∧Ext w w':=by
  refine enter (n:=8) Tryz.func276 rfl rfl rfl (Holds.start w []) ?_
  repeat (first | refine JL.q (by first|(apply OQ.bJ;exact Az;rfl;exact (block_lt_of_cell hc);exact (by simp);exact hc)|(apply OQ.len;exact Tryz.underlying95;rfl)|(apply OQ.move;rfl)|(apply OQ.assign;rfl)|(apply OQ.aO;rfl)|(apply OQ.aV;rfl;rfl;rfl;exact (by decide);rfl)) rfl ?_ | refine JC.seq ?_ | refine JC.region ?_ | refine JL.nil ?_ | refine JE.next ?_)
  exact JC.ret (JE.aR rfl (RV.tmp rfl) fun w' hw=>⟨rfl,hw.bf⟩)
theorem OQ.iV {P : Program} {n : Nat} {E : Env} {C : World→Prop} {dst : Option Tmp} {t ty e : TypeId} {pos : String} {aft : Array Edge} {g : Option (Nat × Bool)} {x : Operand} {q : Acc} {k : Nat} (hu : P.underlying t=some (.slice e)) (hq : q=none→k=0) (hx : ev E x=some (ah q k)) : OQ P n E C ⟨dst,.call ⟨.builtin .len,#[x],#[t]⟩,ty,pos,aft,g⟩ (N k):=by
  cases q with
  | none=>obtain rfl:=hq rfl;exact OQ.len hu hx
  | some r=>exact OQ.len hu hx
end
section
set_option maxRecDepth 10000
open Sl cY
theorem OQ.A9 {n : Nat} {E : Env} {C : World→Prop} {dst : Option Tmp} {ty : TypeId} {pos : String} {aft : Array Edge} {g : Option (Nat × Bool)} {x y : Operand} {k : Nat} {b : Bk} (hx : ev E x=some (N k)) (hy : ev E y=some (.agg (bc b).toArray)) (hb : b.length=64) :
    OQ Tryz.prog n E C ⟨dst,.build 331 #[(0,x),(1,y)],ty,pos,aft,g⟩ (.agg (wc (k,b)).toArray):=
  OQ.run fun a ha w _=>by
    have h1:=ha.eval hx
    have h2:=ha.eval hy
    have hbl : (bc b).length=64:=cL hb
    have hb2 : Tryz.prog.built 331 [(0,N k),(1,.agg (bc b).toArray)]=some (wc (k,b)).toArray:=by
      have h : Tryz.prog.built 331 [(0,N k),(1,.agg (bc b).toArray)]=Instr.fill (fun i=>#[(0,1),(1,64)][i]?) ((Value.int .i64 0::List.replicate 64 (.int .u8 0)).toArray) [(0,N k),(1,.agg (bc b).toArray)]:=by kernel_rfl
      rw [h,p9 (cs:=[N k]) (off:=0) (sz:=1) rfl rfl rfl (by simp),p9 (cs:=bc b) (off:=1) (sz:=64) rfl rfl hbl (by simp)]
      have e : ∀ c : List Value,c.length=64→List.take 1 (List.take 0 (Value.int .i64 0::List.replicate 64 (.int .u8 0))++[N k]++List.drop (0+1) (Value.int .i64 0::List.replicate 64 (.int .u8 0)))++c++List.drop (1+64) (List.take 0 (Value.int .i64 0::List.replicate 64 (.int .u8 0))++[N k]++List.drop (0+1) (Value.int .i64 0::List.replicate 64 (.int .u8 0)))=N k::c:=fun c hc=>by simp
      rw [e _ hbl]
      rfl
    have r:=run_build w 331 #[(0,N k),(1,.agg (bc b).toArray)] (wc (k,b)).toArray (by simpa using hb2)
    simp [execOp,h1,h2,r]
theorem rU (n : Nat) : (kW (dh n)).flatten=List.replicate (n * 64) (.int .u8 0):=by
  induction n with
  | zero=>rfl
  | succ n ih=>
    show bc zero++(kW (dh n)).flatten=_
    rw [ih,Nat.succ_mul,Nat.add_comm,← List.replicate_append_replicate]
    rfl
theorem uJ : aL Tryz.prog 24:=⟨_,Tryz.func24,rfl,by kernel_rfl⟩
theorem OQ.wB {n : Nat} {E : Env} {C : World→Prop} {dst : Option Tmp} {ty : TypeId} {pos : String} {aft : Array Edge} {g : Option (Nat × Bool)} {x : Operand} {ad : Option Addr} {len cap : Nat} (hx : ev E x=some (.slice ad len cap)) :
    OQ Tryz.prog n E C ⟨dst,.build 98 #[(0,x)],ty,pos,aft,g⟩ (.agg [.slice ad len cap,.slice none 0 0].toArray):=
  OQ.run fun a ha w _=>by
    have h1:=ha.eval hx
    have r:=run_build (P:=Tryz.prog) w 98 #[(0,.slice ad len cap)] [.slice ad len cap,.slice none 0 0].toArray (by kernel_rfl)
    simp [execOp,h1,r]
set_option maxHeartbeats 4000000 in
theorem yW (n : Nat) (h1 : 1≤n) (h2 : n≤65536) (w : World) : Calls Tryz.prog 24 [N n].toArray w fun e w'=>∃ x : Dp,e=.returned (.tuple #[Pt x.p 0,N 0])∧x.a=none∧Holds w [] (cg x (dh n) []) w':=by
  refine enter (n:=14) Tryz.func24 rfl rfl rfl (Holds.start w []) ?_
  have g1 : decide ((n : Int)<1)=false:=decide_eq_false (by omega)
  have g2 : decide ((65536 : Int)<n)=false:=decide_eq_false (by omega)
  repeat (first | refine JL.q (by first|(apply OQ.gv (b:=1);rfl;rfl;exact g1)|(apply OQ.cD (b:=65536);rfl;rfl;exact g2)|(apply OQ.aJ;rfl;rfl)|(apply OQ.move;rfl)|(apply OQ.assign;rfl)) rfl ?_ | refine JC.seq ?_ | refine JC.region ?_ | refine JL.nil ?_ | refine JE.next ?_ | refine JL.aB rfl rfl ?_)
  refine JC.cond_false rfl rfl ?_
  repeat (first | refine JL.q (by (apply OQ.move;rfl)) rfl ?_ | refine JC.seq ?_ | refine JC.region ?_ | refine JC.skip ?_ | refine JE.next ?_)
  refine JL.make (c:=n) (sz:=64) Tryz.underlying95 DA rfl (by decide) rfl rfl (by omega) (by omega) rfl fun b hb=>?_
  repeat (refine JL.q (by (apply OQ.wB;rfl)) rfl ?_)
  refine JL.box (r:=[.slice (some ⟨b,0,none⟩) n n,.slice none 0 0]) rfl rfl rfl fun p hp=>?_
  repeat (first | refine JL.q (by (apply OQ.assign;rfl)) rfl ?_ | refine JL.nil ?_ | refine JE.next ?_)
  refine JC.ret (JE.cw rfl (RV.tmp rfl) (RV.tmp rfl) fun w' hw=>⟨⟨p,b,n,none⟩,rfl,rfl,hw.weak ?_⟩)
  refine .keep _ _ _ _ _ _ (fun o ho=>?_) (.keep _ _ _ _ _ _ (fun o ho=>?_) (.nil _))
  · have e : (dh n).length=n:=List.length_replicate
    unfold iM
    rw [e]
    exact ho
  · have e : (dh n).length=n:=List.length_replicate
    rw [e,rU]
    exact wz List.length_replicate o ho
theorem iW : aL Tryz.prog 275:=⟨_,Tryz.func275,rfl,by kernel_rfl⟩
theorem rV : aL Tryz.prog 277:=⟨_,Tryz.func277,rfl,by kernel_rfl⟩
theorem uK (x : Dp) (bl : List Bk) (pd : List (Nat × Bk)) (w : World) (h : Holds w (keys (cg x bl pd)) (cg x bl pd) w) :
    Calls Tryz.prog 277 [Pt x.p 0].toArray w fun e w'=>e=.returned (.tuple #[])∧Holds w (keys (cg x bl pd)) (cg ⟨x.p,x.q,x.cap,none⟩ bl []) w':=by
  refine enter (n:=5) Tryz.func277 rfl rfl rfl h ?_
  repeat (first | refine JL.q (by first|(apply OQ.move;rfl)|(apply OQ.aO;rfl)|(apply OQ.aV;rfl;rfl;rfl;exact (by decide);rfl)) rfl ?_ | refine JC.region ?_)
  refine JL.bK (b:=x.p) (r:=iM x bl pd) (r':=[.slice (some ⟨x.q,0,none⟩) bl.length x.cap,.slice none 0 0]) Eb rfl rfl rfl rfl .here (show 1<2 by decide) rfl ?_
  repeat (refine JL.nil ?_)
  refine JE.rI rfl fun w' hw=>⟨rfl,hw.weak ?_⟩
  exact .keep _ _ _ _ _ _ (fun _ h=>h) (.keep _ _ _ _ _ _ (fun _ h=>h) (.nil _))
theorem qd : aL Tryz.prog 278:=⟨_,Tryz.func278,rfl,by kernel_rfl⟩
set_option maxHeartbeats 16000000 in
theorem uL (x : Dp) (bl : List Bk) (pd : List (Nat × Bk)) (n : Nat) (b : Bk) (hn : n<bl.length) (hb : b.length=64) (h : bB x bl pd) (w : World) (hw : Holds w (keys (cg x bl pd)) (cg x bl pd) w) :
    Calls Tryz.prog 278 [Pt x.p 0,N n,.agg (bc b).toArray].toArray w fun e w'=>∃ y : Nat × Nat,e=.returned (N 0)∧Holds w (keys (cg x bl pd)) (cg ⟨x.p,x.q,x.cap,some y⟩ (bl.set n b) (wrote bl pd n)) w':=by
  have hq : x.a=none→oI pd=[]:=fun e=>by rw [h.a e];rfl
  have hr1 : (iM x bl pd)[1]?=some (ah x.a (oI pd).length):=by rw [tN];rfl
  have hol : (old bl n).length=64:=h.ok.old hn
  have hwl : (wc (n,old bl n)).length=65:=by rw [wc,List.length_cons,cL hol]
  have hwo : ∀ v ∈ wc (n,old bl n),v.oneCell'=true:=by
    intro v hv
    rcases List.mem_cons.1 hv with rfl | hv
    · rfl
    · exact List.all_eq_true.1 (eV _) v hv
  generalize hS : keys (cg x bl pd)=S at hw ⊢
  refine enter (n:=36) Tryz.func278 rfl rfl rfl hw ?_
  repeat (first | refine JC.seq ?_ | refine JC.region ?_)
  refine JL.box (r:=bc b) rfl rfl rfl fun b5 _=>?_
  have hc : ∀ w',Holds w S (⟨b5,Row 141 (bc b),true⟩::cg x bl pd) w'→Calls Tryz.prog 279 [Pt x.p 0,.int .i64 n].toArray w' fun e w2=>e=.returned (.bool true)∧Ext w' w2:=fun w' hw'=>by
    have:=tP x.p (some ⟨x.q,0,none⟩) bl.length x.cap n w' (tO (M:=[]) (hw'.weak (.drop _ _ _ (by rw [List.append_nil];exact aj.refl _)))).1
    rwa [decide_eq_true (show (0 : Int)≤n∧(n : Int)<bl.length by omega)] at this
  repeat (first | refine JL.q (by first|(apply OQ.aF (vs:=[Pt x.p 0,.int .i64 n]);exact qc;rfl;exact hc)|(apply OQ.not;rfl)|(apply OQ.move;rfl)|(apply OQ.assign;rfl)) rfl ?_ | refine JC.seq ?_ | refine JC.region ?_ | refine JL.nil ?_ | refine JE.next ?_)
  refine JC.cond_false rfl rfl ?_
  repeat (first | refine JC.seq ?_ | refine JC.skip ?_ | refine JE.next ?_)
  let vs : Nat→Nat × Nat→Value:=fun j y=>match j with
    | 0=>Pt x.p 0
    | 1=>Pt x.p 0
    | 2=>Pt x.p 0
    | 3=>Pt x.p 1
    | 4=>ah x.a (oI pd).length
    | 5=>N n
    | 6=>Pt x.p 0
    | 7=>Pt x.p 0
    | 8=>Pt x.p 0
    | 9=>.slice (some ⟨x.q,0,none⟩) bl.length x.cap
    | 10=>N n
    | 11=>Pt x.q (0+n * 64)
    | 12=>.agg (bc (old bl n)).toArray
    | 13=>.agg (wc (n,old bl n)).toArray
    | 14=>.slice (some ⟨y.1,0,none⟩) 1 1
    | 15=>ah (some y) (oI pd++[wc (n,old bl n)]).length
    | 16=>Pt x.p 0
    | 17=>Pt x.p 1
    | _=>N 0
  let Ms : Nat→Nat × Nat→List ai:=fun j y=>match j with
    | 14=>[⟨y.1,Row 331 (wc (n,old bl n)),true⟩]
    | 15=>aY 331 65 (some y) (oI pd++[wc (n,old bl n)])
    | 18=>[⟨x.p,Row 98 [.slice (some ⟨x.q,0,none⟩) bl.length x.cap,ah (some y) (oI pd++[wc (n,old bl n)]).length],true⟩]
    | 19=>[⟨b5,Row 141 (bc b),true⟩]
    | 20=>[⟨x.p,Row 98 (iM x bl pd),true⟩]
    | 21=>[⟨x.q,Sl.Own 141 64 bl.length x.cap (kW bl).flatten,true⟩]
    | 22=>aY 331 65 x.a (oI pd)
    | _=>[]
  refine JC.grow (g:=⟨[(0,Pt x.p 0),(1,N n),(5,Pt b5 0)],23,vs,Ms,(fun j=>match j with | 2=>[(1,12)] | 3=>[(2,13)] | 4=>[(3,14)] | 7=>[(6,17)] | 8=>[(7,18)] | 9=>[(8,19)] | 11=>[(9,20),(10,21)] | 12=>[(11,22)] | 13=>[(5,16),(12,23)] | 14=>[(13,24)] | 15=>[(4,15),(14,25)] | 16=>[(0,11)] | 17=>[(16,27)] | 18=>[(17,28),(15,26)] | _=>[]),(fun j=>match j with | 4=>[20] | 9=>[20] | 12=>[21] | 15=>[14,22] | 18=>[20] | _=>[]),(fun j=>match j with | 15=>[14,22] | 18=>[20] | _=>[]),(fun j=>match j with | 18=>some 15 | _=>none)⟩) [] [18,21,15,19] bZ (by repeat (first | exact ag.nil | refine ag.cons _ _ _ rfl ?_)) ?_ (by kernel_rfl) (by kernel_rfl) (by kernel_rfl) ?_ ?_
  · show aj (Ms 19 default++(Ms 20 default++(Ms 21 default++(Ms 22 default++[])))) _;rw [List.append_nil];exact aj.refl _
  · refine ⟨?_,?_,?_,?_,?_,?_,?_,?_,?_,?_,?_,?_,?_,?_,?_,?_,?_,?_,?_,trivial⟩
    · (intro xx EF MF Q kk;(try refine JL.aB rfl rfl ?_);exact JL.q (OQ.move rfl) rfl (JL.nil (kk default nofun)))
    · (intro xx EF MF Q kk;(try refine JL.aB rfl rfl ?_);exact JL.q (OQ.move rfl) rfl (JL.nil (kk default nofun)))
    · (intro xx EF MF Q kk;(try refine JL.aB rfl rfl ?_);exact JL.q (OQ.aO rfl) rfl (JL.nil (kk default nofun)))
    · (intro xx EF MF Q kk;(try refine JL.aB rfl rfl ?_);exact JL.q (OQ.aV rfl rfl rfl (by decide) rfl) rfl (JL.nil (kk default nofun)))
    · (intro xx EF MF Q kk;(try refine JL.aB rfl rfl ?_);exact JL.q (OQ.load EG rfl .here (Row.cell (v:=ah x.a (oI pd).length) hr1)) rfl (JL.nil (kk default nofun)))
    · (intro xx EF MF Q kk;(try refine JL.aB rfl rfl ?_);exact JL.q (OQ.move rfl) rfl (JL.nil (kk default nofun)))
    · (intro xx EF MF Q kk;(try refine JL.aB rfl rfl ?_);exact JL.q (OQ.move rfl) rfl (JL.nil (kk default nofun)))
    · (intro xx EF MF Q kk;(try refine JL.aB rfl rfl ?_);exact JL.q (OQ.aO rfl) rfl (JL.nil (kk default nofun)))
    · (intro xx EF MF Q kk;(try refine JL.aB rfl rfl ?_);exact JL.q (OQ.aV rfl rfl rfl (by decide) rfl) rfl (JL.nil (kk default nofun)))
    · (intro xx EF MF Q kk;(try refine JL.aB rfl rfl ?_);exact JL.q (OQ.load Az rfl .here (Row.cell (v:=.slice (some ⟨x.q,0,none⟩) bl.length x.cap) rfl)) rfl (JL.nil (kk default nofun)))
    · (intro xx EF MF Q kk;(try refine JL.aB rfl rfl ?_);exact JL.q (OQ.move rfl) rfl (JL.nil (kk default nofun)))
    · (intro xx EF MF Q kk;(try refine JL.aB rfl rfl ?_);exact JL.q (OQ.fc Tryz.underlying95 pK rfl rfl hn) rfl (JL.nil (kk default nofun)))
    · (intro xx EF MF Q kk;(try refine JL.aB rfl rfl ?_);exact JL.q (OQ.to (OQ.tK (L:=kW bl) (i:=n) qb pK rfl (Nat.zero_add _) .here (ld h.ok) (by rw [tM];exact hn)) (by rw [wA hn];rfl)) rfl (JL.nil (kk default nofun)))
    · (intro xx EF MF Q kk;(try refine JL.aB rfl rfl ?_);exact JL.q (OQ.A9 rfl rfl hol) rfl (JL.nil (kk default nofun)))
    · (intro xx EF MF Q kk;exact JL.pW (cs:=wc (n,old bl n)) Tryz.underlying96 Ea rfl (by decide) (by decide) rfl hwl rfl fun b _=>JL.nil (kk (b,0) nofun))
    · (intro xx EF MF Q kk;refine JL.perm (M':=⟨(xx 14).1,Row 331 (wc (n,old bl n)),true⟩::(aY 331 65 x.a (oI pd)++MF)) ?_ (List.Perm.of_eq (by show (Ms 14 (xx 14)++(Ms 22 (xx 22)++[]))++MF=_;simp [Ms]));exact JL.fS x.a Tryz.underlying96 Ea hq rfl rfl hwl hwo rfl (by decide) (by rw [tN];have:=h.m;omega) (by rw [tN];have:=h.m;omega) rfl fun b' cap'=>JL.nil (kk (b',cap') nofun))
    · (intro xx EF MF Q kk;(try refine JL.aB rfl rfl ?_);exact JL.q (OQ.aO rfl) rfl (JL.nil (kk default nofun)))
    · (intro xx EF MF Q kk;(try refine JL.aB rfl rfl ?_);exact JL.q (OQ.aV rfl rfl rfl (by decide) rfl) rfl (JL.nil (kk default nofun)))
    · (intro xx EF MF Q kk;exact JL.bK (b:=x.p) (r:=iM x bl pd) (r':=[.slice (some ⟨x.q,0,none⟩) bl.length x.cap,ah (some (xx 15)) (oI pd++[wc (n,old bl n)]).length]) Eb rfl rfl rfl rfl .here (show 1<2 by decide) rfl (JL.nil (kk (xx 15) (fun k h=>by cases h;rfl))))
  · intro xx hx
    have e18:=hx 18 15 (by decide) rfl
    show JE _ _ _ _ _ [(0,Pt x.p 0),(1,N n),(5,Pt b5 0)] [⟨x.p,Row 98 [.slice (some ⟨x.q,0,none⟩) bl.length x.cap,ah (some (xx 18)) (oI pd++[wc (n,old bl n)]).length],true⟩,⟨x.q,Sl.Own 141 64 bl.length x.cap (kW bl).flatten,true⟩,⟨(xx 15).1,Sl.Own 331 65 (oI pd++[wc (n,old bl n)]).length (xx 15).2 (oI pd++[wc (n,old bl n)]).flatten,true⟩,⟨b5,Row 141 (bc b),true⟩]
    rw [e18]
    generalize xx 15=y
    clear hx e18 xx vs Ms
    (repeat (first | refine JC.seq ?_ | refine JE.next ?_))
    refine JC.tail 6 bZ (by kernel_rfl) ?_
    simp only [List.take_succ_cons,List.take_zero,List.drop_succ_cons,List.drop_zero]
    (repeat (first | refine JL.q (by first|(apply OQ.load;exact Az;rfl;exact .here;exact (Row.cell (v:=.slice (some ⟨x.q,0,none⟩) bl.length x.cap) rfl))|(apply OQ.az (cs:=bc b);exact qb;exact pK;rfl;exact (.there (.there (.there .here)));exact (cL hb);exact Row.all)|(apply OQ.fc;exact Tryz.underlying95;exact pK;rfl;rfl;exact hn)|(apply OQ.move;rfl)|(apply OQ.aO;rfl)|(apply OQ.aV;rfl;rfl;rfl;exact (by decide);rfl)) rfl ?_ | refine JQ.q (by first|(apply OQ.load;exact Az;rfl;exact .here;exact (Row.cell (v:=.slice (some ⟨x.q,0,none⟩) bl.length x.cap) rfl))|(apply OQ.az (cs:=bc b);exact qb;exact pK;rfl;exact (.there (.there (.there .here)));exact (cL hb);exact Row.all)|(apply OQ.fc;exact Tryz.underlying95;exact pK;rfl;rfl;exact hn)|(apply OQ.move;rfl)|(apply OQ.aO;rfl)|(apply OQ.aV;rfl;rfl;rfl;exact (by decide);rfl)) rfl ?_ | refine JQ.cI ?_))
    refine JL.A8 (L:=kW bl) (i:=n) pK rfl (Nat.zero_add _) rfl (cL hb) (eV _) (ld h.ok) (tM bl) hn (.there .here) ?_
    (repeat (first | refine JL.q (by (apply OQ.assign;rfl)) rfl ?_ | refine JC.seq ?_ | refine JC.region ?_ | refine JL.nil ?_ | refine JE.next ?_))
    refine JC.ret (JE.aR rfl (RV.tmp rfl) fun w' hw=>⟨y,rfl,hw.weak ?_⟩)
    have e1 : oI (wrote bl pd n)=oI pd++[wc (n,old bl n)]:=by simp [oI,wrote]
    have e2 : (wrote bl pd n).length=(oI pd++[wc (n,old bl n)]).length:=by rw [← e1,tN]
    unfold cg iM
    rw [e1,e2,List.length_set,← yV]
    exact .keep _ _ _ _ _ _ (fun _ h=>h) (.keep _ _ _ _ _ _ (fun _ h=>h) (.keep _ _ _ _ _ _ (fun _ h=>h) (.nil _)))
end
section
namespace Sl
inductive jA : List ai→List ai→Prop where
  | nil (N : List ai) : jA [] N
  | keep (b : Nat) (A A' : Obj→Prop) (wr wr' : Bool) (N N' : List ai) : (∀ o,A o→A' o)→(wr'=true→wr=true)→jA N' N→jA (⟨b,A',wr'⟩::N') (⟨b,A,wr⟩::N)
  | drop (e : ai) (N N' : List ai) : jA N' N→jA N' (e::N)
theorem jA.keys {M M' : List ai} (h : jA M' M) : (M'.map ai.b).Sublist (M.map ai.b):=by
  induction h with
  | nil=>exact List.nil_sublist _
  | keep _ _ _ _ _ _ _ _ _ _ ih=>exact ih.cons_cons _
  | drop _ _ _ _ ih=>exact ih.cons _
theorem jA.old {M M' : List ai} (h : jA M' M) : ∀ e ∈ M',∃ e' ∈ M,e'.b=e.b∧(e.wr=true→e'.wr=true)∧∀ o,e'.A o→e.A o:=by
  induction h with
  | nil=>simp
  | keep b A A' wr wr' M M' hA hw _ ih=>
    intro e he
    simp only [List.mem_cons] at he
    rcases he with rfl | he
    · exact ⟨⟨b,A,wr⟩,by simp,rfl,hw,hA⟩
    · obtain ⟨e',h1,h2⟩:=ih e he
      exact ⟨e',by simp [h1],h2⟩
  | drop _ _ _ _ ih=>
    intro e he
    obtain ⟨e',h1,h2⟩:=ih e he
    exact ⟨e',by simp [h1],h2⟩
def AA (M : List ai) : List Nat:=(M.filter (·.wr)).map ai.b
theorem lg {M : List ai} {k : Nat} : k ∈ AA M↔∃ e ∈ M,e.wr=true∧e.b=k:=by
  simp [AA,and_assoc]
theorem Holds.Ba {w0 w : World} {S : List Nat} {M : List ai} (h : Holds w0 S M w) : Holds w (AA M) M w:=
  ⟨kE.refl _ _,h.nodup,fun e he=>⟨(h.all e he).1,fun hw=>.inl (lg.2 ⟨e,he,hw,rfl⟩)⟩⟩
theorem Holds.oJ {w0 w : World} {M : List ai} (h : Holds w0 [] M w) : ∀ k ∈ AA M,w0.heap.size≤k:=fun k hk=>by
  obtain ⟨e,he,hw,rfl⟩:=lg.1 hk
  rcases (h.all e he).2 hw with h | h
  · cases h
  · exact h
theorem Holds.Bb {w0 w w' : World} {M M' : List ai} (h : Holds w0 [] M w) (h' : Holds w (AA M) M' w') : Holds w0 [] M' w':=by
  refine ⟨⟨h'.bf.os.trans h.bf.os,h'.bf.tape.trans h.bf.tape,h'.bf.output.trans h.bf.output,Nat.le_trans h.bf.size h'.bf.size,fun k hk _=>?_⟩,h'.nodup,fun e he=>⟨(h'.all e he).1,fun hw=>.inr ?_⟩⟩
  · refine (h'.bf.block k (Nat.lt_of_lt_of_le hk h.bf.size) fun hm=>?_).trans (h.bf.block k hk (by simp))
    have:=h.oJ k hm
    omega
  · rcases (h'.all e he).2 hw with h1 | h1
    · exact h.oJ _ h1
    · exact Nat.le_trans h.bf.size h1
theorem uM {M : List ai} (h : (M.map ai.b).Nodup) : ∀ {e1 e2 : ai},e1 ∈ M→e2 ∈ M→e1.b=e2.b→e1=e2:=by
  induction M with
  | nil=>intro e1 e2 h1;cases h1
  | cons x M ih=>
    simp only [List.map_cons,List.nodup_cons] at h
    intro e1 e2 h1 h2 he
    rcases List.mem_cons.1 h1 with rfl | h1'
    · rcases List.mem_cons.1 h2 with rfl | h2'
      · rfl
      · exact absurd (he ▸ List.mem_map_of_mem (f:=ai.b) h2') h.1
    · rcases List.mem_cons.1 h2 with rfl | h2'
      · exact absurd (he ▸ List.mem_map_of_mem (f:=ai.b) h1') h.1
      · exact ih h.2 h1' h2' he
theorem dI.other {M M' : List ai} {b b' : Nat} {A A' : Obj→Prop} (h : dI M b A b' A' M') (hn : (M.map ai.b).Nodup) : ∀ e ∈ M',e=⟨b',A',true⟩∨(e ∈ M∧e.b≠b):=by
  induction h with
  | @here b A b' A' M=>
    intro e he
    simp only [List.map_cons,List.nodup_cons] at hn
    simp only [List.mem_cons] at he
    rcases he with rfl | he
    · exact .inl rfl
    · exact .inr ⟨by simp [he],fun h=>hn.1 (h ▸ List.mem_map_of_mem he)⟩
  | @there x M b A b' A' M' hu ih=>
    intro e he
    simp only [List.map_cons,List.nodup_cons] at hn
    simp only [List.mem_cons] at he
    rcases he with rfl | he
    · refine .inr ⟨by simp,fun h=>hn.1 ?_⟩
      rw [h]
      exact List.mem_map_of_mem hu.has.mem (f:=ai.b)
    · rcases ih hn.2 e he with h | ⟨h1,h2⟩
      · exact .inl h
      · exact .inr ⟨by simp [h1],h2⟩
section
variable {P : Program} {m l : Nat}
def qf (o : Oper) : Bool:=match o.op with
  | .defer _=>false
  | _=>true
abbrev Rd (l : Nat) : Fence:=Fence.wide.inRound l
theorem rW {o : Oper} {a : Act} {w : World} {K K' : Act→World→Prop} {Q : Exit→Act→World→Prop} (hd : qf o=true) (hQ : ¬ LetsOut Q) (hK : ∀ a w,K a w→K' a w) (h : o.wp P a w K Q) : o.wpIn (Rd l) m P a w K' Q:=by
  refine ⟨fun _ _=>trivial,?_⟩
  have e : Oper.semAt (Rd l).round a.eval o=execOp a.eval o:=Oper.semAt_some l _ _ fun c hc=>by
    unfold qf at hd
    rw [hc] at hd
    cases hd
  rw [e]
  unfold Oper.wp at h
  have hdep : (Rd l).depth.isSome=true→1≤m:=fun h=>by cases h
  cases hr : (execOp a.eval o).run P w with
  | ok nx w'=>
    rw [hr] at h
    cases nx with
    | value v=>exact hK _ _ h
    | skip=>exact hK _ _ h
    | defer d=>exact hK _ _ h
    | enter f args=>
      have h' : Calls P f args w' fun
        | .returned v,w''=>K (a.put o.dst v) w''
        | .panicked chain,w''=>Q (.panic chain) a w''
        | .outgrown,_=>LetsOut Q:=h
      refine ⟨hdep,(callsIn_wide (n:=m - 1)).2 (h'.mono fun e w2 h2=>?_)⟩
      cases e with
      | returned v=>exact hK _ _ h2
      | panicked ch=>exact h2
      | outgrown=>exact h2
    | row r args=>
      have h' : Rows P r args w' fun v w''=>K (a.put o.dst v) w'':=h
      refine ⟨hdep,fun c cs _=>?_⟩
      obtain ⟨v,w2,h2,hs⟩:=h' c cs
      exact ⟨v,w2,hK _ _ h2,stepsIn_wide.2 hs⟩
    | round=>exact h.elim
    | _=>exact h.elim
  | halt x w'=>
    rw [hr] at h
    cases x with
    | panic v=>exact h
    | _=>exact h.elim
theorem ef {ops : Array Oper} {Q : Exit→Act→World→Prop} (hQ : ¬ LetsOut Q) : ∀ (os : List Oper),os.all qf=true→∀ a w,wpList P ops Q os a w→wpListIn (Rd l) m P ops Q os a w
  | [],_,a,w,h=>h
  | o::os,hd,a,w,h=>by
    simp only [List.all_cons,Bool.and_eq_true] at hd
    have ih:=ef (ops:=ops) hQ os hd.2
    unfold wpList at h
    unfold wpListIn
    by_cases hw : Region.wanted o (yielded ops a.tmps)=true
    · simp only [hw,if_true] at h ⊢
      rcases h with h | h
      · exact rW hd.1 hQ ih h
      · exact absurd h.2 hQ
    · simp only [hw,if_false] at h ⊢
      exact ⟨fun _ _=>trivial,ih _ _ h⟩
end
section
variable {P : Program} {n : Nat} {w0 : World} {S : List Nat} {Q Q' : Exit→Act→World→Prop} {E : Env} {M : List ai} {m l : Nat}
structure JR (P : Program) (n : Nat) (w0 : World) (S : List Nat) (l m : Nat) (Q : Exit→Act→World→Prop) (c : Code) (E : Env) (M : List ai) : Prop where
  go : ∀ a w,aK n E a→Holds w0 S M w→c.wpIn (Rd l) m P Q a w
theorem JR.region {id : Nat} {os : List Oper} (hd : os.all qf=true) (hQ : ¬ LetsOut Q) (h : JL P n w0 S os.toArray Q os E M) : JR P n w0 S l m Q (.region id os.toArray false) E M:=
  ⟨fun a w ha hw=>wpIn_region_lit (ef hQ os hd a w (h.go a w ha hw))⟩
theorem JR.seq {x y : Code} (h : JR P n w0 S l m (Exit.then (y.wpIn (Rd l) m P Q) Q) x E M) : JR P n w0 S l m Q (.seq x y) E M:=⟨fun a w ha hw=>wpIn_seq (h.go a w ha hw)⟩
theorem JR.block {id : Nat} {c : Code} (h : JR P n w0 S l m (Exit.inBlock id Q) c E M) : JR P n w0 S l m Q (.block id c) E M:=⟨fun a w ha hw=>wpIn_block (h.go a w ha hw)⟩
end
def mk (D : Nat) : Deferred:={ target:=.collected D,args:=#[] }
def CB : Obj→Prop:=fun o=>o=.deferred (some [])
structure gJ (D n : Nat) (E : Env) (a : Act) : Prop where
  defers : a.defers=[mk D]
  base : aK n E { a with defers:=[] }
section
variable {P : Program} {D n : Nat} {w0 : World} {S : List Nat} {ops : Array Oper} {Q Q' : Exit→Act→World→Prop} {os : List Oper} {E : Env} {M : List ai} {d : Nat} {op : Op} {ty : TypeId} {pos : String} {aft : Array Edge} {v : Value}
theorem nM (a : Act) : ({ a with defers:=[] } : Act).eval=a.eval:=funext fun x=>by cases x <;> rfl
theorem gJ.put {a : Act} (h : gJ D n E a) (d : Nat) (v : Value) (hd : Nat.blt d n=true) : gJ D n ((d,v)::E) (a.put (some d) v):=⟨h.defers,h.base.put d v hd⟩
theorem gJ.eval {a : Act} (h : gJ D n E a) {x : Operand} {v : Value} (hx : ev E x=some v) : a.eval x=v:=by
  rw [← nM];exact h.base.eval hx
structure KL (P : Program) (D n : Nat) (w0 : World) (S : List Nat) (ops : Array Oper) (Q : Exit→Act→World→Prop) (os : List Oper) (E : Env) (M : List ai) : Prop where
  go : ∀ a w,gJ D n E a→Holds w0 S M w→wpList P ops Q os a w
structure KE (D n : Nat) (w0 : World) (S : List Nat) (Q : Exit→Act→World→Prop) (e : Exit) (E : Env) (M : List ai) : Prop where
  go : ∀ a w,gJ D n E a→Holds w0 S M w→Q e a w
structure KC (P : Program) (D n : Nat) (w0 : World) (S : List Nat) (Q : Exit→Act→World→Prop) (c : Code) (E : Env) (M : List ai) : Prop where
  go : ∀ a w,gJ D n E a→Holds w0 S M w→c.wp P Q a w
theorem KC.seq {x y : Code} (h : KC P D n w0 S (Exit.then (y.wp P Q) Q) x E M) : KC P D n w0 S Q (.seq x y) E M:=⟨fun a w ha hw=>wp_seq (h.go a w ha hw)⟩
theorem KC.skip (h : KE D n w0 S Q .normal E M) : KC P D n w0 S Q .skip E M:=⟨fun a w ha hw=>wp_skip (h.go a w ha hw)⟩
theorem KC.ret (h : KE D n w0 S Q .ret E M) : KC P D n w0 S Q .ret E M:=⟨fun a w ha hw=>wp_ret (h.go a w ha hw)⟩
theorem KC.cond {c : Operand} {x y : Code} {t : Bool} (hc : ev E c=some (.bool t)) (ht : t=true→KC P D n w0 S Q x E M) (hf : t=false→KC P D n w0 S Q y E M) : KC P D n w0 S Q (.cond c x y) E M:=
  ⟨fun a w ha hw=>wp_cond_split (ha.eval hc) (fun h=>(ht h).go a w ha hw) (fun h=>(hf h).go a w ha hw)⟩
theorem KC.region {id : Nat} {os : List Oper} (h : KL P D n w0 S os.toArray Q os E M) : KC P D n w0 S Q (.region id os.toArray false) E M:=⟨fun a w ha hw=>wp_region_lit (h.go a w ha hw)⟩
theorem KE.next {y : Code} (h : KC P D n w0 S Q' y E M) : KE D n w0 S (Exit.then (y.wp P Q') Q) .normal E M:=⟨h.go⟩
theorem KL.nil (h : KE D n w0 S Q .normal E M) : KL P D n w0 S ops Q [] E M:=⟨h.go⟩
theorem KL.q (h : OQ P n E (Holds w0 S M) ⟨some d,op,ty,pos,aft,none⟩ v) (hd : Nat.blt d n=true) (k : KL P D n w0 S ops Q os ((d,v)::E) M) : KL P D n w0 S ops Q (⟨some d,op,ty,pos,aft,none⟩::os) E M:=
  ⟨fun a _ ha hw=>wpList_plain rfl fun _ hK=>Oper.wp_of_quiet (C:=Holds w0 S M) (K:=fun a'=>a'=a.put (some d) v) hw (fun _ _ hw' e=>hK _ _ (e ▸ k.go _ _ (ha.put d v hd) hw')) ⟨v,fun w hw=>by
    have:=h.go _ ha.base w hw
    unfold Oper.quietAt at this ⊢
    rwa [nM] at this,rfl⟩⟩
theorem KC.weak {c : Code} {M' : List ai} (hM : aj M' M) (h : KC P D n w0 S Q c E M') : KC P D n w0 S Q c E M:=⟨fun a w ha hw=>h.go a w ha (hw.weak hM)⟩
end
structure qg (L : List Nat) (W W' : World) : Prop where
  os : W'.os=W.os
  tape : W'.tape=W.tape
  output : W'.output=W.output
  size : W.heap.size≤W'.heap.size
  same : ∀ k ∈ L,W'.heap[k]?=W.heap[k]?
theorem qg.trans {L : List Nat} {X Y Z : World} (h : qg L X Y) (k : qg L Y Z) : qg L X Z:=
  ⟨k.os.trans h.os,k.tape.trans h.tape,k.output.trans h.output,Nat.le_trans h.size k.size,fun i hi=>(k.same i hi).trans (h.same i hi)⟩
def wC {α ι : Type} (Mi : ι→List ai) (Inv : List α→ι→Prop) (xs : List α) (w1 : World) (S1 : List Nat) : Exit→Act→World→Prop
  | .normal,_,W'=>∃ j,Inv xs j∧Holds w1 S1 (Mi j) W'
  | _,_,_=>False
theorem JE.round {α ι : Type} {n : Nat} {w1 : World} {S1 : List Nat} {E : Env} {M : List ai} {Mi : ι→List ai} {Inv : List α→ι→Prop} {xs : List α} (j : ι) (hj : Inv xs j) (hM : aj (Mi j) M) : JE n w1 S1 (wC Mi Inv xs w1 S1) .normal E M:=
  ⟨fun _ _ _ hw=>⟨j,hj,hw.weak hM⟩⟩
theorem JC.range {P : Program} {n : Nat} {w0 : World} {Q : Exit→Act→World→Prop} {E : Env} {M : List ai} {α ι : Type} {g : Operand} {p d rid : Nat} {ty : TypeId} {pos : String} {body : Code} {gf : Nat} {lb : Array Value} (enc : α→Value) (L : List Nat) (Sd Sp : List α→Prop) (N : Nat)
    (Mi : ι→List ai) (Inv : List α→ι→Prop) (hg : ev E g=some (.func (.func gf) #[] lb)) (eg : ∀ args w,(callFunc gf args).run P w=.ok (.enter gf args) w)
    (hseq : ∀ W,Holds w0 [] M W→SeqStopsK Fence.wide 2 P gf lb (fun x=>#[enc x]) (qg L) Sd Sp N W)
    (hcell : ∀ i,∀ e ∈ Mi i,∀ o,e.A o→o.isCells=true) (hL : ∀ i,∀ k ∈ L,k<w0.heap.size∨∃ A,Has (Mi i) k A false)
    (i0 : ι) (h0 : Inv [] i0) (hM : ∀ w,Holds w0 [] M w→Holds w0 [] (Mi i0) w) (hp : Nat.blt p n=true) (hd : Nat.blt d n=true)
    (hbody : ∀ l pre x i w1,Inv pre i→pre.length<N→Ext w0 w1→(∀ k ∈ AA (Mi i),w0.heap.size≤k)→JR P n w1 (AA (Mi i)) l 1 (wC Mi Inv (pre++[x]) w1 (AA (Mi i))) body ((d,enc x)::(p,enc x)::E) (Mi i))
    (hdone : ∀ D xs i,Sd xs→Inv xs i→KE D n w0 [] Q .normal E (⟨D,CB,true⟩::Mi i)) :
    JC P n w0 [] Q (.rangeFunc g #[p] (.region rid #[⟨some d,.assign (.tmp p),ty,pos,#[],none⟩] false) body) E M:=by
  refine ⟨fun a w ha hw=>(wpIn_wide (n:=3)).1 ?_⟩
  have hLw : ∀ k ∈ L,k<w.heap.size:=fun k hk=>by
    rcases hL i0 k hk with h | ⟨A,h⟩
    · exact Nat.lt_of_lt_of_le h hw.bf.size
    · exact (hM w hw).lt h.mem
  have hI : OwnFrom w.heap.size (fun pre W=>∃ i,Inv pre i∧Holds w0 [] (Mi i) W):=by
    rintro pre W W' row ⟨i,hi,h⟩ hgr hrow
    refine ⟨i,hi,⟨hgr.os.trans h.bf.os,hgr.tape.trans h.bf.tape,hgr.output.trans h.bf.output,Nat.le_trans h.bf.size hgr.size,fun k hk _=>?_⟩,h.nodup,fun e he=>⟨?_,(h.all e he).2⟩⟩
    · refine (hgr.block k (Nat.lt_of_lt_of_le hk h.bf.size) fun hr=>?_).trans (h.bf.block k hk (by simp))
      have:=(hrow k hr.symm).1
      have:=hw.bf.size
      omega
    · obtain ⟨o,ho,hA⟩:=(h.all e he).1
      refine ⟨o,(hgr.block e.b (h.lt he) fun hr=>?_).trans ho,hA⟩
      obtain ⟨_,o2,ho2,hc⟩:=hrow _ hr.symm
      rw [ho] at ho2
      cases ho2
      rw [hcell i e he o hA] at hc
      cases hc
  have hpn : p<n:=by simpa using hp
  have hdn : d<n:=by simpa using hd
  refine wpIn_rangeFunc_ownG (n:=3) rfl (by omega) (gf:=gf) (lb:=lb) (ha.eval hg) trivial eg (w0:=w) (hseq w hw) (fun h k=>h.trans k) (fun W l o o' hl _ _ _=>?_) (RowKit.Below.refl _ _) (fun _=>rfl)
    (fun pre W=>∃ i,Inv pre i∧Holds w0 [] (Mi i) W) (fun _ _ _=>False) hI (fun _ _ _ _ _ h _ _=>h) ⟨i0,h0,hM w hw⟩ (fun x=>(a.put (some p) (enc x)).put (some d) (enc x)) ?_ ?_ ?_ (fun _ _ _ _ _ _ h _=>h.elim)
  · exact ⟨rfl,rfl,rfl,by simp,fun k hk=>World.putObj_heap_other (by have:=hLw k hk;omega)⟩
  · intro l x W K hK
    refine wpIn_region_lit (wpListIn_plain rfl fun K' hK'=>⟨fun _ _=>trivial,?_⟩)
    have he : ((#[p].zip #[enc x]).foldl (fun t (x : Nat × Value)=>t.setIfInBounds x.1 x.2) a.tmps).getD p undef=enc x:=by
      have : p<a.tmps.size:=by rw [ha.size];exact hpn
      simp [this]
    have hs : Oper.semAt (Rd l).round ({ tmps:=(#[p].zip #[enc x]).foldl (fun t (x : Nat × Value)=>t.setIfInBounds x.1 x.2) a.tmps,defers:=[] } : Act).eval ⟨some d,.assign (.tmp p),ty,pos,#[],none⟩=.pure (.value (enc x)):=by
      refine (Oper.semAt_some l _ _ ?_).trans ?_
      · intro c h;cases h
      show Sem.pure (Next.value (_ : Value))=_
      exact congrArg (fun v=>Sem.pure (Next.value v)) he
    show Oper.uponIn _ _ _ _ _ _ _ ((Oper.semAt (Rd l).round _ _).run P W)
    rw [hs]
    refine hK' _ _ (wpListIn_nil ?_)
    show K _ W
    have e : ({ tmps:=(#[p].zip #[enc x]).foldl (fun t (x : Nat × Value)=>t.setIfInBounds x.1 x.2) a.tmps,defers:=[] } : Act).put (some d) (enc x)=(a.put (some p) (enc x)).put (some d) (enc x):=by
      obtain ⟨tm,df⟩:=a
      have:=ha.defers
      simp only at this
      subst this
      simp [Act.put]
    rw [e]
    exact hK
  · rintro l pre x W ⟨i,hi,h⟩ hlen
    refine wpIn_mono ((hbody l pre x i W hi hlen h.bf h.oJ).go _ W ((ha.put p _ hp).put d _ hd) h.Ba) ?_
    · rintro e a2 W2 hq
      cases e with
      | normal=>
        obtain ⟨j,hj,h2⟩:=hq
        refine ⟨⟨h2.bf.size,fun k o _ hk ho=>?_⟩,⟨h2.bf.os,h2.bf.tape,h2.bf.output,h2.bf.size,fun k hk=>?_⟩,j,hj,h.Bb h2⟩
        · refine (h2.bf.block k (Array.getElem?_eq_some_iff.1 hk).1 fun hm=>?_).trans hk
          obtain ⟨e,he,_,rfl⟩:=lg.1 hm
          obtain ⟨o',ho',hA⟩:=(h.all e he).1
          rw [hk] at ho'
          cases ho'
          rw [hcell i e he _ hA] at ho
          cases ho
        · rcases hL i k hk with hlt | ⟨A,hA⟩
          · exact h2.bf.block k (Nat.lt_of_lt_of_le hlt h.bf.size) fun hm=>by have:=h.oJ k hm;omega
          · refine h2.bf.block k (h.lt hA.mem) fun hm=>?_
            obtain ⟨e,he,hwr,hb⟩:=lg.1 hm
            have:=uM h.nodup he hA.mem hb
            subst this
            cases hwr
      | ret=>exact hq.elim
      | exit id=>exact hq.elim
      | goto t=>exact hq.elim
      | panic ch=>exact hq.elim
      | outgrown=>exact hq.elim
  · rintro D xs W hD hS ⟨i,hi,h⟩ hk
    refine (hdone D xs i hS hi).go _ W ⟨?_,?_⟩ ?_
    · show _::a.defers=_
      rw [ha.defers];rfl
    · exact ⟨ha.size,rfl,ha.all⟩
    · refine ⟨h.bf,?_,fun e he=>?_⟩
      · simp only [List.map_cons,List.nodup_cons,h.nodup,and_true]
        intro hm
        obtain ⟨e,he,hb⟩:=List.mem_map.1 hm
        obtain ⟨o,ho,hA⟩:=(h.all e he).1
        rw [hb] at ho
        rw [hk] at ho
        cases ho
        have:=hcell i e he _ hA
        cases this
      · simp only [List.mem_cons] at he
        rcases he with rfl | he
        · exact ⟨⟨_,hk,rfl⟩,fun _=>.inr (Nat.le_trans hw.bf.size hD)⟩
        · exact h.all e he
end Sl
end
section
namespace Sl
section
variable {P : Program} {n : Nat} {W : World} {ops : Array Oper} {Q Q' : Exit→Act→World→Prop} {os : List Oper} {E E' : Env} {d : Nat} {op : Op} {ty : TypeId} {pos : String} {aft : Array Edge} {v : Value} {m : Nat}
structure FL (P : Program) (n m : Nat) (W : World) (ops : Array Oper) (Q : Exit→Act→World→Prop) (os : List Oper) (E : Env) : Prop where
  go : ∀ a,aK n E a→wpListIn Fence.wide m P ops Q os a W
structure FE (n : Nat) (W : World) (Q : Exit→Act→World→Prop) (e : Exit) (E : Env) : Prop where
  go : ∀ a,aK n E a→Q e a W
structure FC (P : Program) (n : Nat) (W : World) (Q : Exit→Act→World→Prop) (c : Code) (E : Env) : Prop where
  go : ∀ a,aK n E a→c.wp P Q a W
theorem FC.seq {x y : Code} (h : FC P n W (Exit.then (y.wp P Q) Q) x E) : FC P n W Q (.seq x y) E:=⟨fun a ha=>wp_seq (h.go a ha)⟩
theorem FC.skip (h : FE n W Q .normal E) : FC P n W Q .skip E:=⟨fun a ha=>wp_skip (h.go a ha)⟩
theorem FC.ret (h : FE n W Q .ret E) : FC P n W Q .ret E:=⟨fun a ha=>wp_ret (h.go a ha)⟩
theorem FC.exit {id : Nat} (h : FE n W Q (.exit id) E) : FC P n W Q (.exit id) E:=⟨fun a ha=>wp_exit (h.go a ha)⟩
theorem FC.block {id : Nat} {c : Code} (h : FC P n W (Exit.inBlock id Q) c E) : FC P n W Q (.block id c) E:=⟨fun a ha=>wp_block (h.go a ha)⟩
theorem FC.cond {c : Operand} {x y : Code} {t : Bool} (hc : ev E c=some (.bool t)) (ht : t=true→FC P n W Q x E) (hf : t=false→FC P n W Q y E) : FC P n W Q (.cond c x y) E:=
  ⟨fun a ha=>wp_cond_split (ha.eval hc) (fun h=>(ht h).go a ha) (fun h=>(hf h).go a ha)⟩
theorem FC.region {id : Nat} {os : List Oper} (h : FL P n 2 W os.toArray Q os E) : FC P n W Q (.region id os.toArray false) E:=⟨fun a ha=>(wpIn_wide (n:=2)).1 (wpIn_region_lit (h.go a ha))⟩
theorem FE.next {y : Code} (h : FC P n W Q' y E) : FE n W (Exit.then (y.wp P Q') Q) .normal E:=⟨h.go⟩
theorem FL.nil (h : FE n W Q .normal E) : FL P n m W ops Q [] E:=⟨h.go⟩
theorem FL.q (h : OQ P n E (fun w=>w=W) ⟨some d,op,ty,pos,aft,none⟩ v) (hdf : qf ⟨some d,op,ty,pos,aft,none⟩=true) (hd : Nat.blt d n=true) (k : FL P n m W ops Q os ((d,v)::E)) : FL P n m W ops Q (⟨some d,op,ty,pos,aft,none⟩::os) E:=
  ⟨fun a ha=>wpListIn_plain rfl fun K hK=>by
    have hk:=hK _ _ (k.go _ (ha.put d v hd))
    have hq:=h.go a ha W rfl
    refine ⟨fun _ _=>trivial,?_⟩
    have e : Oper.semAt Fence.wide.round a.eval ⟨some d,op,ty,pos,aft,none⟩=execOp a.eval ⟨some d,op,ty,pos,aft,none⟩:=rfl
    rw [e]
    unfold Oper.quietAt at hq
    cases hr : (execOp a.eval ⟨some d,op,ty,pos,aft,none⟩).run P W with
    | ok nx w'=>
      rw [hr] at hq
      cases nx with
      | value u=>
        obtain ⟨rfl,rfl⟩:=hq
        exact hk
      | skip=>
        obtain ⟨rfl,rfl⟩:=hq
        exact hk
      | enter f args=>
        obtain ⟨rfl,hc⟩:=hq
        refine ⟨fun h=>(by cases h),(callsIn_wide (n:=m - 1)).2 (hc.mono ?_)⟩
        rintro e w2 ⟨rfl,rfl⟩
        exact hk
      | _=>exact hq.elim
    | halt x w'=>
      rw [hr] at hq
      exact hq.elim⟩
theorem FC.loop {ι : Type} (Ei : ι→Env) (Ci : ι→World→Prop) (μ : ι→Nat) {c : Code} (i : ι) (hi : Ci i W) (hE : ag E (Ei i))
    (h : ∀ i w,Ci i w→FC P n w (Exit.then (fun a' w'=>∃ j,Ci j w'∧μ j<μ i∧aK n (Ei j) a') Q) c (Ei i)) : FC P n W Q (.loop c) E:=by
  refine ⟨fun a ha=>?_⟩
  have ha':=ha.sub hE
  clear ha hE
  have key : ∀ m i,μ i=m→∀ a w,Ci i w→aK n (Ei i) a→∀ (b : Frame) (k : List Item) (cs : List Frame),
      ∃ e a' w',Q e a' w'∧Arrives P (lone (b.at a (.code c::.inLoop c::k)) cs w) b k cs e a' w':=by
    intro m
    induction m using Nat.strongRecOn with
    | _ m ih=>
      intro i hm a w hw ha b k cs
      obtain ⟨e,a₁,w₁,hq,harr⟩:=(h i w hw).go a ha b (.inLoop c::k) cs
      cases e with
      | normal=>
        obtain ⟨j,hw₁,hlt,ha₁⟩:=hq
        obtain ⟨e₂,a₂,w₂,hq₂,harr₂⟩:=ih (μ j) (hm ▸ hlt) j rfl a₁ w₁ hw₁ ha₁ b k cs
        exact ⟨e₂,a₂,w₂,hq₂,.of_steps (Steps.trans harr (.one step_inLoop)) harr₂⟩
      | exit id=>exact ⟨_,a₁,w₁,hq,.pass (x:=.inLoop c) rfl (fun _ _=>.inl (by simp)) harr⟩
      | goto l=>exact ⟨_,a₁,w₁,hq,.pass (x:=.inLoop c) rfl (fun _ _=>.inl (by simp)) harr⟩
      | ret=>exact ⟨_,a₁,w₁,hq,.pass (x:=.inLoop c) rfl (fun _ _=>.inl (by simp)) harr⟩
      | panic ch=>exact ⟨_,a₁,w₁,hq,.pass (x:=.inLoop c) rfl (fun _ _=>.inl (by simp)) harr⟩
      | outgrown=>exact ⟨_,a₁,w₁,hq,.pass (x:=.inLoop c) rfl (fun _ _=>.inl (by simp)) harr⟩
  intro b k cs
  obtain ⟨e,a',w',hq,harr⟩:=key _ i rfl a W hi ha' b k cs
  exact ⟨e,a',w',hq,.of_steps (.one step_loop) harr⟩
end
end Sl
end
section
namespace Sl
variable {Y : Type}
structure bu (Y : Type) where
  E0 : Env
  N : Nat
  v : Nat→Y→Value
  M : Nat→Y→List ai
  need : Nat→List (Nat × Nat)
  jq : Nat→List Nat
  oG : Nat→List Nat
  src : Nat→Option Nat
  E1 : Nat→Env
  R : Nat→Y→Y→Prop
def bu.A4 (g : bu Y) (l : List Oper) (i : Nat) : Bool:=
  (g.E1 i).all fun p=>(List.range l.length).all fun k=>cq l k != some p.1 || (k != i && bQ l k i)
def bu.j0 (g : bu Y) (l : List Oper) (i : Nat) (o : Oper) : Bool:=
  (((g.need i).all (fun p=>behind o p.1 && cq l p.1 == some p.2) && tH o (g.src i)) && g.A4 l i) &&
  ((g.jq i).all (fun j=>decide (j<g.N) && (decide (l.length≤j) || behind o j)) &&
  ((g.oG i).all (fun j=>(g.jq i).contains j) &&
  ((List.range l.length).all (fun k=>k == i || (g.oG k).all fun j=>!(g.jq i).contains j || bQ l k i) &&
  (jr (g.jq i) && (o.after.toList.all (fun e=>!Region.binds .any e || decide (e.on<i)) && jZ l g.E0 i o.dst)))))
def bu.dA (g : bu Y) (l : List Oper) : Nat→List Oper→Bool
  | _,[]=>true
  | i,o::r=>g.j0 l i o && g.dA l (i+1) r
theorem bu.bS {g : bu Y} {l : List Oper} : ∀ {r : List Oper} {i : Nat},g.dA l i r=true→∀ {j o},r[j]?=some o→g.j0 l (i+j) o=true
  | [],_,_,j,o,h=>by simp at h
  | q::r,i,hk,j,o,h=>by
    simp only [bu.dA,Bool.and_eq_true] at hk
    cases j with
    | zero=>
      simp only [List.getElem?_cons_zero,Option.some.injEq] at h
      subst h
      exact hk.1
    | succ j=>
      have:=bu.bS hk.2 (j:=j) (o:=o) (by simpa using h)
      rwa [show i+1+j=i+(j+1) by omega] at this
def bu.Cs (g : bu Y) (P : Program) (n : Nat) (w0 : World) (S : List Nat) (l : List Oper) (i : Nat) (o : Oper) : Prop:=
  ∀ (x : Nat→Y) (EF : Env) (MF : List ai) (Q : Exit→Act→World→Prop),
    (∀ xi : Y,(∀ k,g.src i=some k→g.R i xi (x k))→JE n w0 S Q .normal (slot o.dst (g.v i xi)++((g.need i).map (fun p=>(p.2,g.v p.1 (x p.1)))++(g.E0++(g.E1 i++EF)))) (g.M i xi++(((g.jq i).filter fun j=>!(g.oG i).contains j).flatMap (fun j=>g.M j (x j))++MF)))→
    JL P n w0 S l.toArray Q [o] ((g.need i).map (fun p=>(p.2,g.v p.1 (x p.1)))++(g.E0++(g.E1 i++EF))) ((g.jq i).flatMap (fun j=>g.M j (x j))++MF)
def bu.lK (g : bu Y) (P : Program) (n : Nat) (w0 : World) (S : List Nat) (l : List Oper) : Nat→List Oper→Prop
  | _,[]=>True
  | i,o::r=>g.Cs P n w0 S l i o∧g.lK P n w0 S l (i+1) r
theorem bu.js {g : bu Y} {P : Program} {n : Nat} {w0 : World} {S : List Nat} {l : List Oper} : ∀ {r : List Oper} {i : Nat},g.lK P n w0 S l i r→∀ {j o},r[j]?=some o→g.Cs P n w0 S l (i+j) o
  | [],_,_,j,o,h=>by simp at h
  | q::r,i,hk,j,o,h=>by
    cases j with
    | zero=>
      simp only [List.getElem?_cons_zero,Option.some.injEq] at h
      subst h
      exact hk.1
    | succ j=>
      have:=bu.js hk.2 (j:=j) (o:=o) (by simpa using h)
      rwa [show i+1+j=i+(j+1) by omega] at this
def bu.live (g : bu Y) (m : Nat) (done : Array Bool) (j : Nat) : Prop:=j<g.N∧(m≤j∨done.getD j false=true)∧∀ k,done.getD k false=true→j ∉ g.oG k
structure bu.Inv (g : bu Y) (n : Nat) (w0 : World) (S : List Nat) (l : List Oper) (done : Array Bool) (x : Nat→Y) (a : Act) (w : World) : Prop where
  size : a.tmps.size=n
  defers : a.defers=[]
  lM : done.size=l.length
  base : ∀ p ∈ g.E0,a.tmps.getD p.1 undef=p.2
  first : ∀ j,j<l.length→done.getD j false=false→∀ p ∈ g.E1 j,a.tmps.getD p.1 undef=p.2
  vals : ∀ j d,done.getD j false=true→cq l j=some d→a.tmps.getD d undef=g.v j (x j)
  rel : ∀ j k,done.getD j false=true→g.src j=some k→g.R j (x j) (x k)
  down : ∀ j i,done.getD j false=true→bQ l j i=true→done.getD i false=true
  mem : fe w0 S (g.live l.length done) (fun j=>g.M j (x j)) w
section
variable {P : Program} {n : Nat} {w0 : World} {S : List Nat} {Q : Exit→Act→World→Prop} {E : Env} {M : List ai} {g : bu Y} {l : List Oper}
theorem bu.run (hok : g.dA l 0 l=true) (hj : g.lK P n w0 S l 0 l)
    (hend : ∀ done x a w,g.Inv n w0 S l done x a w→(∀ j,j<l.length→done.getD j false=true)→Q .normal a w) :
    ∀ (f : Nat) (done : Array Bool) (x : Nat→Y) (a : Act) (w : World),f=(List.range l.length).countP (fun j=>!done.getD j false)→g.Inv n w0 S l done x a w→wpAny P .any l.toArray Q f done a w:=by
  have hrdy : ∀ done : Array Bool,done.size=l.length→Region.ready .any l.toArray done=[]→∀ j,j<l.length→done.getD j false=true:=by
    intro done hds hr j
    induction j using Nat.strongRecOn with
    | _ j ih=>
      intro hjl
      cases hd : done.getD j false with
      | true=>rfl
      | false=>
        obtain ⟨o,ho⟩ : ∃ o,l[j]?=some o:=⟨_,List.getElem?_eq_getElem hjl⟩
        have hk:=bu.bS hok ho
        simp only [bu.j0,Bool.and_eq_true,Nat.zero_add] at hk
        have hkk:=hk.2.2.2.2.2.1
        have : j ∈ Region.ready .any l.toArray done:=by
          rw [mem_ready]
          refine ⟨?_,o,by simpa using ho,fun e he hb=>?_⟩
          · rw [Array.getD_eq_getD_getElem?,Array.getElem?_eq_getElem (by omega)] at hd ⊢
            simpa using hd
          · have:=List.all_eq_true.1 hkk e (by simpa using he)
            simp only [hb,Bool.not_true,Bool.false_or,decide_eq_true_eq] at this
            exact ih e.on this (by omega)
        rw [hr] at this
        cases this
  intro f
  induction f with
  | zero=>
    intro done x a w hf hI
    have hall : ∀ j,j<l.length→done.getD j false=true:=fun j hjl=>by
      have:=List.countP_eq_zero.1 hf.symm j (List.mem_range.2 hjl)
      simpa using this
    refine ⟨?_,hend done x a w hI hall⟩
    refine List.eq_nil_iff_forall_not_mem.2 fun i hi=>?_
    obtain ⟨hu,o,ho,_⟩:=mem_ready.1 hi
    have hil : i<l.length:=by
      have:=(Array.getElem?_eq_some_iff.1 ho).1
      simpa using this
    have:=hall i hil
    rw [Array.getD_eq_getD_getElem?,Array.getElem?_eq_getElem (by have:=hI.lM;omega)] at hu this
    simp only [Option.getD_some] at hu this
    rw [hu] at this
    cases this
  | succ f ih=>
    intro done x a w hf hI
    have hds:=hI.lM
    refine ⟨fun h0=>hend done x a w hI (hrdy done hds h0),fun i hi=>?_⟩
    obtain ⟨hu,o,ho,hbe⟩:=mem_ready.1 hi
    have hil : i<l.length:=by
      have:=(Array.getElem?_eq_some_iff.1 ho).1
      simpa using this
    have ho' : l[i]?=some o:=by simpa using ho
    have hu' : done.getD i false=false:=by
      rw [Array.getD_eq_getD_getElem?,Array.getElem?_eq_getElem (by omega)] at hu ⊢
      simpa using hu
    have hk:=bu.bS hok ho'
    simp only [bu.j0,Bool.and_eq_true,Nat.zero_add] at hk
    obtain ⟨⟨⟨k1,k8⟩,k9⟩,k2,k3,k4,k5,_,k7⟩:=hk
    have hbeh : ∀ j,behind o j=true→done.getD j false=true:=fun j hj=>by
      simp only [behind,List.any_eq_true,Bool.and_eq_true,beq_iff_eq] at hj
      obtain ⟨e,he,rfl,hb⟩:=hj
      exact hbe e (by simpa using he) hb
    have hbi : ∀ k,bQ l k i=true→done.getD k false=false:=fun k hk=>by
      cases h : done.getD k false with
      | false=>rfl
      | true=>have:=hI.down k i h hk;rw [hu'] at this;cases this
    have hinp : ∀ j ∈ g.jq i,g.live l.length done j:=by
      intro j hj
      have h2:=List.all_eq_true.1 k2 j hj
      simp only [Bool.and_eq_true,Bool.or_eq_true,decide_eq_true_eq] at h2
      refine ⟨h2.1,h2.2.imp id (hbeh j),fun k hkd hjk=>?_⟩
      have hkl : k<l.length:=by
        by_cases h : k<l.length
        · exact h
        · rw [Array.getD_eq_getD_getElem?,Array.getElem?_eq_none (by omega)] at hkd
          cases hkd
      have h4:=List.all_eq_true.1 k4 k (List.mem_range.2 hkl)
      have hki : k≠i:=fun e=>by rw [e,hu'] at hkd;cases hkd
      simp only [Bool.or_eq_true,beq_iff_eq,hki,false_or] at h4
      have h5:=List.all_eq_true.1 h4 j hjk
      simp only [Bool.or_eq_true,Bool.not_eq_true',List.contains_eq_mem,decide_eq_false_iff_not,hj,not_true,false_or] at h5
      rw [hbi k h5] at hkd
      cases hkd
    have hdone_ne : ∀ j,done.getD j false=true→j≠i:=fun j hj e=>by rw [e,hu'] at hj;cases hj
    have hlen : ∀ k,done.getD k false=true→k<l.length:=fun k hkd=>by
      by_cases h : k<l.length
      · exact h
      · rw [Array.getD_eq_getD_getElem?,Array.getElem?_eq_none (by omega)] at hkd
        cases hkd
    have hdi : cq l i=o.dst:=by simp [cq,ho']
    have hne : ∀ j d,done.getD j false=true→cq l j=some d→o.dst≠some d:=by
      intro j d hjd hd he
      rw [he] at k7
      simp only [jZ,Bool.and_eq_true] at k7
      have:=List.all_eq_true.1 k7.1 j (List.mem_range.2 (hlen j hjd))
      simp [hdone_ne j hjd,hd] at this
    have hne0 : ∀ p ∈ g.E0,o.dst≠some p.1:=by
      intro p hp he
      rw [he] at k7
      simp only [jZ,Bool.and_eq_true] at k7
      have:=List.all_eq_true.1 k7.2 p hp
      simp at this
    let rest : List Nat:=(List.range g.N).filter fun j=>@decide (g.live l.length done j) (Classical.propDecidable _) && !(g.jq i).contains j
    have hrest : ∀ j,j ∈ rest↔g.live l.length done j∧j ∉ g.jq i:=by
      intro j
      simp only [rest,List.mem_filter,List.mem_range,Bool.and_eq_true,Bool.not_eq_true',List.contains_eq_mem,decide_eq_false_iff_not]
      refine ⟨fun ⟨_,h2,h3⟩=>⟨@of_decide_eq_true _ (Classical.propDecidable _) h2,h3⟩,fun ⟨h2,h3⟩=>⟨h2.1,@decide_eq_true _ (Classical.propDecidable _) h2,h3⟩⟩
    have hnd : (g.jq i++rest).Nodup:=by
      rw [List.nodup_append]
      refine ⟨fN k5,List.nodup_range.filter _,fun a ha b hb e=>?_⟩
      exact ((hrest b).1 hb).2 (e ▸ ha)
    have H1:=hI.mem.to (g.jq i++rest) hnd (fun j hj=>by
      rcases List.mem_append.1 hj with h | h
      · exact hinp j h
      · exact ((hrest j).1 h).1)
    rw [List.flatMap_append] at H1
    let EF0 : Env:=(List.range l.length).filterMap fun j=>if done.getD j false=true then (cq l j).map (fun d=>(d,g.v j (x j))) else none
    let EF1 : Env:=(List.range l.length).flatMap fun j=>if done.getD j false=true then [] else g.E1 j
    let EF : Env:=EF0++EF1
    have hEF : ∀ p,p ∈ EF0↔∃ j d,done.getD j false=true∧cq l j=some d∧p=(d,g.v j (x j)):=by
      intro p
      simp only [EF0,List.mem_filterMap,List.mem_range]
      constructor
      · rintro ⟨j,_,hp⟩
        split at hp
        · rename_i hjd
          obtain ⟨d,hd,rfl⟩:=Option.map_eq_some_iff.1 hp
          exact ⟨j,d,hjd,hd,rfl⟩
        · cases hp
      · rintro ⟨j,d,hjd,hd,rfl⟩
        exact ⟨j,hlen j hjd,by rw [if_pos hjd,hd];rfl⟩
    have hEF1 : ∀ j,j<l.length→done.getD j false=false→∀ p ∈ g.E1 j,p ∈ EF1:=by
      intro j hjl hjd p hp
      simp only [EF1,List.mem_flatMap,List.mem_range]
      exact ⟨j,hjl,by rw [if_neg (by rw [hjd];decide)];exact hp⟩
    have hne1 : ∀ j,j<l.length→done.getD j false=false→∀ p ∈ g.E1 j,o.dst≠some p.1:=by
      intro j hjl hjd p hp he
      have hjo : l[j]?=some (l[j]'hjl):=List.getElem?_eq_getElem hjl
      have hkj:=bu.bS hok hjo
      simp only [bu.j0,Bool.and_eq_true,Nat.zero_add] at hkj
      have h9:=List.all_eq_true.1 hkj.1.2 p hp
      have h10:=List.all_eq_true.1 h9 i (List.mem_range.2 hil)
      simp only [hdi,he,bne_self_eq_false,Bool.false_or,Bool.and_eq_true] at h10
      have h11 : behind o j=true:=by simpa [bQ,ho'] using h10.2
      rw [hbeh j h11] at hjd
      cases hjd
    have hneed : ∀ p ∈ g.need i,done.getD p.1 false=true∧cq l p.1=some p.2:=by
      intro p hp
      have h1:=List.all_eq_true.1 k1 p hp
      simp only [Bool.and_eq_true,beq_iff_eq] at h1
      exact ⟨hbeh _ h1.1,h1.2⟩
    have hK : ∀ p ∈ ((g.need i).map (fun p=>(p.2,g.v p.1 (x p.1)))++(g.E0++(g.E1 i++EF))),a.tmps.getD p.1 undef=p.2∧o.dst≠some p.1:=by
      intro p hp
      rcases List.mem_append.1 hp with h | h
      · obtain ⟨q,hq,rfl⟩:=List.mem_map.1 h
        obtain ⟨h1,h2⟩:=hneed q hq
        exact ⟨hI.vals _ _ h1 h2,hne _ _ h1 h2⟩
      · rcases List.mem_append.1 h with h | h
        · exact ⟨hI.base p h,hne0 p h⟩
        · rcases List.mem_append.1 h with h | h
          · exact ⟨hI.first i hil hu' p h,hne1 i hil hu' p h⟩
          · rcases List.mem_append.1 h with h | h
            · obtain ⟨j,d,h1,h2,rfl⟩:=(hEF p).1 h
              exact ⟨hI.vals _ _ h1 h2,hne _ _ h1 h2⟩
            · simp only [EF1,List.mem_flatMap,List.mem_range] at h
              obtain ⟨j,hjl,h⟩:=h
              cases hjd : done.getD j false with
              | true=>rw [hjd] at h;simp at h
              | false=>
                rw [hjd] at h
                simp only [Bool.false_eq_true,if_false] at h
                exact ⟨hI.first j hjl hjd p h,hne1 j hjl hjd p h⟩
    have job:=bu.js hj ho'
    rw [Nat.zero_add] at job
    refine fM ho ((job x EF (rest.flatMap fun j=>g.M j (x j)) _ fun xi hxi=>⟨fun a' w' hK' hH'=>?_⟩).go a w (aK.of hI.size hI.defers fun p hp=>(hK p hp).1) H1)
    have hd' : ∀ j,(done.setIfInBounds i true).getD j false=(decide (j=i) || done.getD j false):=fun j=>pT (by omega)
    refine ih _ (fun j=>if j=i then xi else x j) a' w' ?_ ?_
    · have:=lJ (l:=List.range l.length) (p:=fun j=>!done.getD j false) (q:=fun j=>!(done.setIfInBounds i true).getD j false) (i:=i) List.nodup_range (List.mem_range.2 hil) (by simp only [hu'];rfl) (by simp only [hd'];simp) (fun j hj=>by simp only [hd'];simp [hj])
      omega
    · have hmem : ∀ p ∈ (slot o.dst (g.v i xi)++((g.need i).map (fun p=>(p.2,g.v p.1 (x p.1)))++(g.E0++(g.E1 i++EF)))),a'.tmps.getD p.1 undef=p.2:=by
        intro p hp
        refine hK'.mem (f:=fun t=>if o.dst=some t then g.v i xi else a.tmps.getD t undef) (fun q hq=>?_) hp
        rcases List.mem_append.1 hq with h | h
        · cases hod : o.dst with
          | none=>rw [hod] at h;cases h
          | some d=>
            rw [hod] at h
            simp only [slot,List.mem_singleton] at h
            subst h
            simp
        · have:=hK q h
          simp only [this.2,if_false]
          exact this.1
      refine ⟨hK'.size,hK'.defers,by simp [hds],fun p hp=>hmem p (by simp [hp]),fun j hjl hjd p hp=>?_,?_,?_,?_,?_⟩
      · rw [hd'] at hjd
        simp only [Bool.or_eq_false_iff] at hjd
        exact hmem p (List.mem_append_right _ (List.mem_append_right _ (List.mem_append_right _ (List.mem_append_right _ (List.mem_append_right _ (hEF1 j hjl hjd.2 p hp))))))
      · intro j d hjd hd
        by_cases e : j=i
        · subst e
          rw [hdi] at hd
          have:=hmem (d,g.v j xi) (by simp [hd,slot])
          simpa using this
        · rw [hd'] at hjd
          simp only [e,decide_false,Bool.false_or] at hjd
          have:=hmem (d,g.v j (x j)) (List.mem_append_right _ (List.mem_append_right _ (List.mem_append_right _ (List.mem_append_right _ (List.mem_append_left _ ((hEF _).2 ⟨j,d,hjd,hd,rfl⟩))))))
          simpa [e] using this
      · intro j k hjd hs
        rw [hd'] at hjd
        by_cases e : j=i
        · subst e
          rw [hs] at k8
          simp only [if_true,hdone_ne k (hbeh k k8),if_false]
          exact hxi k hs
        · simp only [e,decide_false,Bool.false_or] at hjd
          have hjo : l[j]?=some (l[j]'(hlen j hjd)):=List.getElem?_eq_getElem (hlen j hjd)
          have hkj:=bu.bS hok hjo
          simp only [bu.j0,Bool.and_eq_true,Nat.zero_add] at hkj
          have h8:=hkj.1.1.2
          rw [hs] at h8
          have hkd:=hI.down j k hjd (by simpa [bQ,hjo,tH] using h8)
          simp only [e,hdone_ne k hkd,if_false]
          exact hI.rel j k hjd hs
      · intro j i' hjd hb
        rw [hd'] at hjd ⊢
        by_cases e : j=i
        · subst e
          have : behind o i'=true:=by simpa [bQ,ho'] using hb
          simp [hbeh i' this]
        · simp only [e,decide_false,Bool.false_or] at hjd
          simp [hI.down j i' hjd hb]
      · have hnl : ¬ g.live l.length done i:=fun h=>by
          rcases h.2.1 with h | h
          · omega
          · rw [hu'] at h;cases h
        have hcg : ∀ L : List Nat,(∀ j ∈ L,g.live l.length done j)→L.flatMap (fun j=>g.M j (if j=i then xi else x j))=L.flatMap fun j=>g.M j (x j):=by
          intro L
          induction L with
          | nil=>simp
          | cons j L ih=>
            intro h
            have hji : j≠i:=fun e=>hnl (e ▸ h j (by simp))
            simp only [List.flatMap_cons,hji,if_false,ih fun k hk=>h k (by simp [hk])]
        refine fe.of (Js:=i::(((g.jq i).filter fun j=>!(g.oG i).contains j)++rest)) ?_ ?_
        · rw [List.flatMap_cons,List.flatMap_append,hcg _ (fun j hj=>hinp j (List.mem_filter.1 hj).1),hcg rest (fun j hj=>((hrest j).1 hj).1)]
          simpa using hH'
        · intro j hj
          by_cases e : j=i
          · simp [e]
          · have hl : g.live l.length done j:=by
              refine ⟨hj.1,hj.2.1.imp id (fun h=>?_),fun k hk=>hj.2.2 k (by rw [hd'];simp [hk])⟩
              rw [hd'] at h
              simpa [e] using h
            have hne : j ∉ g.oG i:=hj.2.2 i (by rw [hd'];simp)
            by_cases hji : j ∈ g.jq i
            · simp [e,hji,hne]
            · have:=(hrest j).2 ⟨hl,hji⟩
              simp [e,this]
theorem uN [Inhabited Y] (g : bu Y) (outs : List (Nat × Nat)) (ends : List Nat) (hE : ag E g.E0) (hE1 : ∀ i,i<l.length→ag E (g.E1 i)) (hM : aj (((List.range g.N).filter fun j=>decide (l.length≤j)).flatMap fun j=>g.M j default) M)
    (hok : g.dA l 0 l=true) (ho : (outs.all fun p=>decide (p.1<l.length) && cq l p.1 == some p.2)=true)
    (he : (jr ends && ends.all fun j=>decide (j<g.N) && (List.range l.length).all fun k=>!(g.oG k).contains j)=true)
    (hj : g.lK P n w0 S l 0 l)
    (k : ∀ x : Nat→Y,(∀ j k,j<l.length→g.src j=some k→g.R j (x j) (x k))→JE n w0 S Q .normal (outs.map (fun p=>(p.2,g.v p.1 (x p.1)))++g.E0) (ends.flatMap fun j=>g.M j (x j))) {a : Act} {w : World} (ha : aK n E a) (hw : Holds w0 S M w) : wpAny P .any l.toArray Q l.toArray.size (Array.replicate l.toArray.size false) a { w with drawn:=w.drawn+1 }:=by
    have hw':=(hw.drawn (w.drawn+1)).weak hM
    simp only [Bool.and_eq_true] at he
    refine bu.run hok hj (fun done x a w hI hall=>?_) _ _ (fun _=>default) a _ ?_ ?_
    · refine (k x fun j k hj hs=>hI.rel j k (hall j hj) hs).go a w (aK.of hI.size hI.defers fun p hp=>?_) (hI.mem.to ends (fN he.1) fun j hj=>?_)
      · rcases List.mem_append.1 hp with h | h
        · obtain ⟨q,hq,rfl⟩:=List.mem_map.1 h
          have:=List.all_eq_true.1 ho q hq
          simp only [Bool.and_eq_true,decide_eq_true_eq,beq_iff_eq] at this
          exact hI.vals _ _ (hall _ this.1) this.2
        · exact hI.base p h
      · have:=List.all_eq_true.1 he.2 j hj
        simp only [Bool.and_eq_true,decide_eq_true_eq] at this
        refine ⟨this.1,?_,fun k hk hjk=>?_⟩
        · by_cases h : l.length≤j
          · exact .inl h
          · exact .inr (hall j (by omega))
        · have hkl : k<l.length:=by
            by_cases h : k<l.length
            · exact h
            · have:=hI.lM
              rw [Array.getD_eq_getD_getElem?,Array.getElem?_eq_none (by omega)] at hk
              cases hk
          have:=List.all_eq_true.1 this.2 k (List.mem_range.2 hkl)
          simp [hjk] at this
    · have : ∀ j,(Array.replicate l.toArray.size false).getD j false=false:=fun j=>by
        simp only [Array.getD_eq_getD_getElem?,Array.getElem?_replicate]
        split <;> rfl
      rw [List.countP_eq_length.2 (fun j _=>by simp only [this];rfl)]
      simp
    · have hf : ∀ j,(Array.replicate l.toArray.size false).getD j false=false:=fun j=>by
        simp only [Array.getD_eq_getD_getElem?,Array.getElem?_replicate]
        split <;> rfl
      refine ⟨ha.size,ha.defers,by simp,fun p hp=>ha.all _ _ (hE.all p hp),fun j hj _ p hp=>ha.all _ _ ((hE1 j hj).all p hp),fun j d h=>?_,fun j k h=>?_,fun j i h=>?_,?_⟩
      · rw [hf] at h;cases h
      · rw [hf] at h;cases h
      · rw [hf] at h;cases h
      · refine fe.of hw' fun j hj=>?_
        rw [List.mem_filter]
        refine ⟨List.mem_range.2 hj.1,?_⟩
        rcases hj.2.1 with h | h
        · simpa using h
        · rw [hf] at h;cases h
theorem JC.nN [Inhabited Y] (g : bu Y) (outs : List (Nat × Nat)) (ends : List Nat) {id : Nat} (hm : P.follows .mixedOrders=true) (hE : ag E g.E0) (hE1 : ∀ i,i<l.length→ag E (g.E1 i)) (hM : aj (((List.range g.N).filter fun j=>decide (l.length≤j)).flatMap fun j=>g.M j default) M)
    (hok : g.dA l 0 l=true) (ho : (outs.all fun p=>decide (p.1<l.length) && cq l p.1 == some p.2)=true)
    (he : (jr ends && ends.all fun j=>decide (j<g.N) && (List.range l.length).all fun k=>!(g.oG k).contains j)=true)
    (hj : g.lK P n w0 S l 0 l)
    (k : ∀ x : Nat→Y,(∀ j k,j<l.length→g.src j=some k→g.R j (x j) (x k))→JE n w0 S Q .normal (outs.map (fun p=>(p.2,g.v p.1 (x p.1)))++g.E0) (ends.flatMap fun j=>g.M j (x j))) : JC P n w0 S Q (.region id l.toArray true) E M:=
  ⟨fun a w ha hw=>wp_region_any hm (uN g outs ends hE hE1 hM hok ho he hj k ha hw)⟩
end
end Sl
end
section
namespace Sl
section
variable {P : Program} {m l : Nat}
end
section
variable {P : Program} {n : Nat} {w0 : World} {S : List Nat} {Q Q' : Exit→Act→World→Prop} {E : Env} {M : List ai} {m r : Nat}
theorem JR.cond {c : Operand} {x y : Code} {t : Bool} (hc : ev E c=some (.bool t)) (ht : t=true→JR P n w0 S r m Q x E M) (hf : t=false→JR P n w0 S r m Q y E M) : JR P n w0 S r m Q (.cond c x y) E M:=
  ⟨fun a w ha hw=>wpIn_cond_split (ha.eval hc) (fun h=>(ht h).go a w ha hw) (fun h=>(hf h).go a w ha hw)⟩
theorem JR.skip (h : JE n w0 S Q .normal E M) : JR P n w0 S r m Q .skip E M:=⟨fun a w ha hw=>wpIn_skip (h.go a w ha hw)⟩
theorem JR.ret (h : JE n w0 S Q .ret E M) : JR P n w0 S r m Q .ret E M:=⟨fun a w ha hw=>wpIn_ret (h.go a w ha hw)⟩
end
section
variable {P : Program} {D n : Nat} {w0 : World} {S : List Nat} {ops : Array Oper} {Q Q' : Exit→Act→World→Prop} {os : List Oper} {E : Env} {M : List ai} {d : Nat} {op : Op} {ty : TypeId} {pos : String} {aft : Array Edge} {v : Value}
end
section
variable {ι κ : Type} {Mi : ι→List ai} {Inv : Nat→ι→Prop} {Mx : κ→List ai} {Fin : κ→Prop} {k n : Nat} {w1 : World} {S1 : List Nat} {E : Env} {M : List ai}
end
theorem Holds.mark {w0 W : World} {M : List ai} {D : Nat} (h : Holds w0 [] M W) (hc : ∀ e ∈ M,∀ o,e.A o→o.isCells=true) (hD : w0.heap.size≤D) (hk : W.heap[D]?=some (.deferred (some []))) : Holds w0 [] (⟨D,CB,true⟩::M) W:=by
  refine ⟨h.bf,?_,fun e he=>?_⟩
  · simp only [List.map_cons,List.nodup_cons,h.nodup,and_true]
    intro hm
    obtain ⟨e,he,hb⟩:=List.mem_map.1 hm
    obtain ⟨o,ho,hA⟩:=(h.all e he).1
    rw [hb,hk] at ho
    cases ho
    have:=hc e he _ hA
    cases this
  · rcases List.mem_cons.1 he with rfl | he
    · exact ⟨⟨_,hk,rfl⟩,fun _=>.inr hD⟩
    · exact h.all e he
end Sl
end
section
set_option maxRecDepth 10000
open Go.RowKit
namespace Sl
end Sl
end
section
set_option maxRecDepth 10000
open Sl cY
section
variable {P : Program} {n : Nat} {E : Env} {dst : Option Tmp} {t ty : TypeId} {pos : String} {aft : Array Edge} {g : Option (Nat × Bool)} {x : Operand} {b j : Nat} {v : Value} {W : World} {cs : List Value}
end
end
section
set_option maxRecDepth 10000
open Sl cY
section
variable {P : Program} {n : Nat} {E : Env} {C : World→Prop} {dst : Option Tmp} {t t' e ty : TypeId} {pos : String} {aft : Array Edge} {g : Option (Nat × Bool)} {x y : Operand}
end
def gw (s : aC) (S : List Nat) : Prop:=s.l≠[]→∀ a,s.ad=some a→a.block ∉ S
end
section
set_option maxRecDepth 10000
open Sl
section
variable {P : Program} {n : Nat} {w0 : World} {S : List Nat} {ops : Array Oper} {Q : Exit→Act→World→Prop} {l : List Oper} {E : Env} {M : List ai} {C : World→Prop}
variable {dst : Option Tmp} {d : Nat} {t t' e ty : TypeId} {pos : String} {aft : Array Edge} {g : Option (Nat × Bool)} {x y : Operand}
theorem JL.bE {ι : Type} {X M0 : List ai} (vf : ι→Value) (Yf : ι→List ai) {f : FuncId} {xs : List Operand} {ats : Array TypeId} {vs : List Value} (hg : aL P f) (hx : gr E xs=some vs) (hd : Nat.blt d n=true) (hX : ∀ e ∈ X,e.wr=true) (hY : ∀ i,∀ e ∈ Yf i,e.wr=true)
    (hc : ∀ w,Holds w0 S (X++M0) w→Holds w (keys X) X w→Calls P f vs.toArray w fun e w'=>∃ i,e=.returned (vf i)∧Holds w (keys X) (Yf i) w')
    (k : ∀ i,JL P n w0 S ops Q l ((d,vf i)::E) (Yf i++M0)) : JL P n w0 S ops Q (⟨some d,.call ⟨.value (.func f),xs.toArray,ats⟩,ty,pos,aft,none⟩::l) E (X++M0):=
  JL.call (ι:=ι) vf (fun i=>Yf i++M0) hg hx hd (fun w hw=>(hc w hw (hw.own.weak (ax _ _))).mono fun _ _ ⟨i,h1,h2⟩=>⟨i,h1,hw.wv h2 hX (hY i)⟩) k
theorem OQ.Bc {ad : Option Addr} {k cap : Nat} (hu : P.underlying t=some (.slice e)) (hx : ev E x=some (.slice ad k cap)) (hy : ev E y=some (.slice none 0 0)) :
    OQ P n E C ⟨dst,.binOp .eql t x y t',ty,pos,aft,g⟩ (.bool ad.isNone):=
  OQ.run fun c ha w _=>by
    have h1:=ha.eval hx
    have h2:=ha.eval hy
    have h4 : (binOp .eql t (.slice ad k cap) (.slice none 0 0)).run P w=.ok (.bool ad.isNone) w:=by
      show (do pure (.bool (← Op.equal t (.slice ad k cap) (.slice none 0 0))) : Sem Value).run P w=_
      simp [Sem.run_bind,run_equal_slice_nil w t e ad k cap hu]
    simp [execOp,h1,h2,eqGuard,h4]
theorem OQ.lU {a : Option Addr} (hu : P.underlying t=some (.pointer e)) (hx : ev E x=some (.pointer a)) (hy : ev E y=some (.pointer none)) :
    OQ P n E C ⟨dst,.binOp .eql t x y t',ty,pos,aft,g⟩ (.bool a.isNone):=
  OQ.run fun c ha w _=>by
    have h1:=ha.eval hx
    have h2:=ha.eval hy
    have h3 : ∀ w,(underlying t).run P w=.ok (.pointer e) w:=run_underlying hu
    have h4 : (binOp .eql t (.pointer a) (.pointer none)).run P w=.ok (.bool a.isNone) w:=by
      show (do pure (.bool (← Op.equalIn (9999+1) t (.pointer a) (.pointer none))) : Sem Value).run P w=_
      unfold Op.equalIn
      cases a <;> simp [Sem.run_bind,h3]
    simp [execOp,h1,h2,eqGuard,h4]
end
theorem cr {w0 w : World} {S : List Nat} {X M : List ai} {b : Nat} {A : Obj→Prop} {wr : Bool} (hw : Holds w0 S (X++M) w) (hM : Has M b A wr) : b ∉ keys X:=by
  have hn:=hw.nodup
  rw [List.map_append,List.nodup_append] at hn
  intro hm
  exact hn.2.2 b hm b (List.mem_map_of_mem (f:=ai.b) hM.mem) rfl
end
section
set_option maxRecDepth 10000
open Sl cY
theorem lV {w0 w : World} {X M : List ai} {s : aC} (hw : Holds w0 [] (X++M) w) (hX : ∀ e ∈ X,e.wr=true) (hs : s.ok w0) : gw s (keys X):=by
  intro h0 a ha hm
  obtain ⟨e,he,hb⟩:=List.mem_map.1 hm
  have h1:=hs.lt h0 a ha
  rcases (hw.all e (List.mem_append_left _ he)).2 (hX e he) with h | h
  · cases h
  · omega
theorem bB.write {x : Dp} {bl : List Bk} {pd : List (Nat × Bk)} (h : bB x bl pd) {n : Nat} {b : Bk} (hn : n<bl.length) (hb : b.length=64) (hm : pd.length+1≤1000000) (y : Nat × Nat) : bB ⟨x.p,x.q,x.cap,some y⟩ (bl.set n b) (wrote bl pd n) where
  ok:=h.ok.write hn hb
  n0:=by rw [List.length_set];exact h.n0
  n1:=by rw [List.length_set];exact h.n1
  m:=by rw [wrote,List.length_append];exact hm
  a:=nofun
theorem bB.sync {x : Dp} {bl : List Bk} {pd : List (Nat × Bk)} (h : bB x bl pd) : bB ⟨x.p,x.q,x.cap,none⟩ bl []:=⟨h.ok.sync,h.n0,h.n1,by simp,fun _=>rfl⟩
theorem bB.new {x : Dp} {n : Nat} (h1 : 1≤n) (h2 : n≤65536) : bB x (dh n) []:=⟨Ok.new n,by rw [dh,List.length_replicate];exact h1,by rw [dh,List.length_replicate];exact h2,by simp,fun _=>rfl⟩
section
variable {n : Nat} {w0 : World} {S : List Nat} {ops : Array Oper} {Q : Exit→Act→World→Prop} {l : List Oper} {E : Env} {M : List ai}
variable {d : Nat} {ty : TypeId} {pos : String} {aft : Array Edge} {x1 x2 x3 : Operand} {ats : Array TypeId} {x : Dp} {bl : List Bk} {pd : List (Nat × Bk)}
theorem JL.DB {k : Nat} (h1 : 1≤k) (h2 : k≤65536) (e1 : ev E x1=some (N k)) (hd : Nat.blt d n=true)
    (kk : ∀ x : Dp,bB x (dh k) []→JL Tryz.prog n w0 S ops Q l ((d,.tuple #[Pt x.p 0,N 0])::E) (cg x (dh k) []++M)) : JL Tryz.prog n w0 S ops Q (⟨some d,.call ⟨.value (.func 24),#[x1],ats⟩,ty,pos,aft,none⟩::l) E M:=
  JL.bA (ι:={ x : Dp // bB x (dh k) [] }) (xs:=[x1]) (vs:=[N k]) (fun x=>.tuple #[Pt x.1.p 0,N 0]) (fun x=>cg x.1 (dh k) []) uJ (by simp [gr,e1]) hd (fun x=>cl _ _ _)
    (fun w _=>(yW k h1 h2 w).mono fun e w' ⟨x,g1,_,g3⟩=>⟨⟨x,bB.new h1 h2⟩,g1,g3⟩) fun x=>kk x.1 x.2
end
theorem qh : aL Tryz.prog 74:=⟨_,Tryz.func74,rfl,by kernel_rfl⟩
theorem uO {L : List (List Value)} (h : ∀ c ∈ L,c.all Value.oneCell'=true) : ∀ v ∈ L.flatten,v.oneCell'=true:=by
  intro v hv
  obtain ⟨c,hc,hv⟩:=List.mem_flatten.1 hv
  exact List.all_eq_true.1 (h c hc) v hv
theorem wD (bl : List Bk) : ∀ v ∈ (kW bl).flatten,v.oneCell'=true:=uO fun c hc=>by
  obtain ⟨b,_,rfl⟩:=List.mem_map.1 hc
  exact eV b
set_option maxHeartbeats 4000000 in
theorem rX (ad : Addr) (cap : Nat) (bl : List Bk) (hb : ∀ x ∈ bl,x.length=64) (h1 : bl.length≤65536) (w : World) (hr : Reads w (some ad) (kW bl).flatten) : Calls Tryz.prog 74 [.slice (some ad) bl.length cap].toArray w fun e w'=>∃ y : Nat × Nat,e=.returned (.slice (some ⟨y.1,0,none⟩) bl.length y.2)∧Holds w [] [⟨y.1,Sl.Own 141 64 bl.length y.2 (kW bl).flatten,true⟩] w':=by
  refine enter (n:=8) Tryz.func74 rfl rfl rfl (Holds.start w []) ?_
  have hlen : (kW bl).flatten.length=bl.length * 64:=by rw [bH (ld (pd:=[]) ⟨hb,by simp⟩),tM]
  repeat (first | refine JL.q (by first|(apply OQ.Bc;exact Tryz.underlying95;rfl;rfl)|(apply OQ.move;rfl)|(apply OQ.assign;rfl)) rfl ?_ | refine JC.seq ?_ | refine JC.region ?_ | refine JL.nil ?_ | refine JE.next ?_)
  refine JC.cond_false rfl rfl ?_
  repeat (first | refine JC.seq ?_ | refine JC.region ?_ | refine JC.skip ?_ | refine JE.next ?_)
  refine JL.Ct Tryz.underlying95 DA rfl fun b0 _=>?_
  repeat (refine JL.q (by (apply OQ.move;rfl)) rfl ?_)
  refine JL.append (cs:=(kW bl).flatten) (m:=bl.length) (ad:=some ad) (sc:=cap) (xs:=[]) (fun b' cap'=>[⟨b',Sl.Own 141 64 (0+bl.length) cap' ([]++(kW bl).flatten),true⟩]) Tryz.underlying95 DA rfl rfl (by intro _ _;repeat (first | exact dI.here | apply dI.there)) hlen (fun w' hw'=>hw'.reads hr (fun _ _ _=>by simp)) (wD bl) rfl (by decide) (by omega) (by omega) rfl fun b2 cap2=>?_
  rw [Nat.zero_add,List.nil_append]
  repeat (first | refine JL.q (by (apply OQ.assign;rfl)) rfl ?_ | refine JL.nil ?_ | refine JE.next ?_)
  exact JC.ret (JE.aR rfl (RV.tmp rfl) fun w' hw=>⟨(b2,cap2),rfl,hw⟩)
theorem uP : aL Tryz.prog 42:=⟨_,Tryz.func42,rfl,by kernel_rfl⟩
set_option maxHeartbeats 4000000 in
theorem uQ (x : Dp) (bl : List Bk) (pd : List (Nat × Bk)) (h : bB x bl pd) {u w : World} {S : List Nat} {M : List ai} (hw : Holds u S (cg x bl pd++M) w) : Calls Tryz.prog 42 [Pt x.p 0].toArray w fun e w'=>∃ z : Dp,e=.returned (Pt z.p 0)∧Holds w [] (cg ⟨z.p,z.q,z.cap,none⟩ bl []) w':=by
  have hc:=(tO hw).1
  have hr : Reads w (some ⟨x.q,0,none⟩) (kW bl).flatten:=by
    obtain ⟨o,ho,hA⟩:=hw.get (b:=x.q) (A:=Sl.Own 141 64 bl.length x.cap (kW bl).flatten) (wr:=true) (.there .here)
    exact Reads.block ho (Sl.Own.cells o hA)
  refine enter (n:=10) Tryz.func42 rfl rfl rfl (Holds.start w []) ?_
  repeat (first | refine JL.q (by first|(apply OQ.bJ;exact Az;rfl;exact (block_lt_of_cell hc);exact (by simp);exact hc)|(apply OQ.move;rfl)|(apply OQ.assign;rfl)|(apply OQ.aO;rfl)|(apply OQ.aV;rfl;rfl;rfl;exact (by decide);rfl)) rfl ?_ | refine JC.seq ?_ | refine JC.region ?_ | refine JL.nil ?_ | refine JE.next ?_)
  refine JL.bA (ι:=Nat × Nat) (vs:=[.slice (some ⟨x.q,0,none⟩) bl.length x.cap]) (fun y=>.slice (some ⟨y.1,0,none⟩) bl.length y.2) (fun y=>[⟨y.1,Sl.Own 141 64 bl.length y.2 (kW bl).flatten,true⟩]) qh rfl rfl (fun y e he=>by rw [List.mem_singleton.1 he]) (fun w' hw'=>rX _ _ bl h.ok.b h.n1 w' (hw'.reads hr (fun _ _ _=>by simp))) fun y=>?_
  repeat (refine JL.q (by (apply OQ.wB;rfl)) rfl ?_)
  refine JL.box (r:=[.slice (some ⟨y.1,0,none⟩) bl.length y.2,.slice none 0 0]) rfl rfl rfl fun p hp=>?_
  repeat (first | refine JL.q (by (apply OQ.assign;rfl)) rfl ?_ | refine JL.nil ?_ | refine JE.next ?_)
  refine JC.ret (JE.aR rfl (RV.tmp rfl) fun w' hw=>⟨⟨p,y.1,y.2,none⟩,rfl,hw⟩)
end
section
set_option maxRecDepth 10000
namespace Sl
section
variable {P : Program} {n : Nat} {w0 : World} {S : List Nat} {ops : Array Oper} {Q : Exit→Act→World→Prop} {l : List Oper} {E : Env} {M : List ai} {C : World→Prop}
variable {dst : Option Tmp} {d : Nat} {t ty : TypeId} {pos name : String} {aft : Array Edge} {g : Option (Nat × Bool)} {r : Operand} {v u : Value} {f : FuncId} {xs : List Operand} {ats ats' : Array TypeId}
theorem nO (A M : List ai) : aj A (A++M):=by
  induction A with
  | nil=>exact .nil _
  | cons e A ih=>exact .keep _ _ _ _ _ _ (fun _ h=>h) ih
def ej (P : Program) (t : TypeId) (v : Value) (name : String) (f : FuncId) : Prop:=v7 P (Go.method (P.types.size+Made.depth) t v name)=some (f,v)
theorem qj {a : Act} (hm : ej P t v name f) (hk : aK n E a) (hr : ev E r=some (.iface t v)) (w : World) :
    (execOp a.eval ⟨dst,.call ⟨.invoke r name,xs.toArray,ats⟩,ty,pos,aft,g⟩).run P w=(execOp a.eval ⟨dst,.call ⟨.value (.func f),(.const v::xs).toArray,ats'⟩,ty,pos,aft,g⟩).run P w:=by
  have h1:=hk.eval hr
  have h2 : (Go.method (P.types.size+Made.depth) t v name).run P w=.ok (f,v) w:=fJ hm
  have e2 : a.eval (.func f)=.func (.func f) #[] #[]:=rfl
  have e3 : a.eval (.const v)=v:=rfl
  have e4 : List.take xs.length (List.map a.eval xs)=List.map a.eval xs:=List.take_of_length_le (by simp)
  simp only [execOp,resolve,Sem.run_bind,Sem.run_pure,Result.andThen_ok,e2,Deferred.ofValue,invoke]
  simp [h1,callMethod,program,Sem.run_bind,Sem.run,h2,e3,e4]
theorem OQ.inv (hm : ej P t v name f) (hr : ev E r=some (.iface t v)) (h : OQ P n E C ⟨dst,.call ⟨.value (.func f),(.const v::xs).toArray,ats⟩,ty,pos,aft,g⟩ u) : OQ P n E C ⟨dst,.call ⟨.invoke r name,xs.toArray,ats⟩,ty,pos,aft,g⟩ u:=by
  refine ⟨fun a ha w hw=>?_⟩
  have h1:=h.go a ha w hw
  unfold Oper.quietAt at h1 ⊢
  rw [qj hm ha hr]
  exact h1
theorem lW {a : Act} {vs : List Value} (hm : ej P t v name f) (hg : aL P f) (hk : aK n E a) (hr : ev E r=some (.iface t v)) (hx : gr E xs=some vs) (w : World) :
    (execOp a.eval ⟨dst,.call ⟨.invoke r name,xs.toArray,ats⟩,ty,pos,aft,g⟩).run P w=.ok (.enter f (v::vs).toArray) w:=by
  rw [qj (ats':=ats) hm hk hr]
  exact jY hg hk (by simp [gr,hx,ev]) w
theorem JL.AB {ι : Type} {op : Op} {X M0 : List ai} {vs : List Value} (vf : ι→Value) (Yf : ι→List ai) (hex : ∀ a,aK n E a→∀ w,(execOp a.eval ⟨some d,op,ty,pos,aft,none⟩).run P w=.ok (.enter f vs.toArray) w) (hd : Nat.blt d n=true) (hX : ∀ e ∈ X,e.wr=true) (hY : ∀ i,∀ e ∈ Yf i,e.wr=true)
    (hc : ∀ w,Holds w0 S (X++M0) w→Holds w (keys X) X w→Calls P f vs.toArray w fun e w'=>∃ i,e=.returned (vf i)∧Holds w (keys X) (Yf i) w')
    (k : ∀ i,JL P n w0 S ops Q l ((d,vf i)::E) (Yf i++M0)) : JL P n w0 S ops Q (⟨some d,op,ty,pos,aft,none⟩::l) E (X++M0):=
  ⟨fun a w ha hw=>wpList_plain rfl fun K hK=>by
    unfold Oper.wp
    rw [hex a ha w]
    exact (hc w hw (hw.own.weak (nO _ _))).mono fun e w' ⟨i,h1,h2⟩=>by subst h1;exact hK _ _ ((k i).go _ _ (ha.put d _ hd) (hw.wv h2 hX (hY i)))⟩
end
end Sl
end
section
namespace dy
open cY
abbrev Mk:=BitVec 32 × BitVec 32 × BitVec 16 × Bool
def cZ (l : Bk) : BitVec 32:=l.foldl (fun (n : BitVec 32) (c : BitVec 8)=>(n <<< 8) ||| c.setWidth 32) 0
def fy (l : Bk) : Nat:=l.foldl (fun (n : Nat) (c : BitVec 8)=>256 * n+c.toNat) 0
def be (n : BitVec 32) (size : Nat) : Bk:=(List.range size).map fun i=>(n >>> (8 * (size - 1 - i))).setWidth 8
def dD (b : Bk) : BitVec 16:=(cZ ((b.drop 8).take 2)).setWidth 16
def ak (b : Bk) : Mk:=(cZ (b.take 4),cZ ((b.drop 4).take 4),dD b % 32768#16,decide (32768≤(dD b).toNat))
def wE (m : Mk) : BitVec 32:=if m.2.2.2 then m.2.2.1.setWidth 32+32768#32 else m.2.2.1.setWidth 32
def mb (m : Mk) : Bk:=be m.1 4++be m.2.1 4++be (wE m) 2
def br (m : Mk) (part : Bk) : Bk:=mb m++be (BitVec.ofNat 32 part.length) 2++part++List.replicate (42 - part.length) 0++mb m
def cnt (b : Bk) : Nat:=(cZ ((b.drop 10).take 2)).toNat
def bN (b : Bk) : Bool:=decide (ak b=ak (b.drop 54)) && (decide (cnt b≤42) && (decide (cnt b=42) || (ak b).2.2.2))
def partOf (b : Bk) : Bk:=(b.drop 12).take (cnt b)
theorem wF {n : BitVec 32} {c : BitVec 8} (h : n.toNat<16777216) : ((n <<< 8) ||| c.setWidth 32).toNat=256 * n.toNat+c.toNat:=by
  rw [BitVec.toNat_or,BitVec.toNat_shiftLeft,BitVec.toNat_setWidth]
  have hc:=c.isLt
  rw [Nat.mod_eq_of_lt (by omega : c.toNat<2 ^ 32),Nat.shiftLeft_eq,Nat.mod_eq_of_lt (by omega)]
  have:=Nat.two_pow_add_eq_or_of_lt (i:=8) (b:=c.toNat) hc n.toNat
  rw [Nat.mul_comm n.toNat (2 ^ 8),← this]
theorem lX : ∀ (l : Bk) (n : BitVec 32) (k : Nat),n.toNat<256 ^ k→k+l.length≤4→(l.foldl (fun (n : BitVec 32) (c : BitVec 8)=>(n <<< 8) ||| c.setWidth 32) n).toNat=l.foldl (fun (n : Nat) (c : BitVec 8)=>256 * n+c.toNat) n.toNat∧l.foldl (fun (n : Nat) (c : BitVec 8)=>256 * n+c.toNat) n.toNat<256 ^ (k+l.length)
  | [],n,k,h,_=>⟨rfl,h⟩
  | c::l,n,k,h,hl=>by
    simp only [List.length_cons] at hl
    have hk : 256 ^ k≤256 ^ 3:=Nat.pow_le_pow_right (by decide) (by omega)
    have hs:=wF (n:=n) (c:=c) (by omega)
    have hc:=c.isLt
    have hlt : ((n <<< 8) ||| c.setWidth 32).toNat<256 ^ (k+1):=by rw [hs,Nat.pow_succ];omega
    have ih:=lX l _ (k+1) hlt (by omega)
    simp only [List.foldl_cons]
    rw [hs] at ih
    refine ⟨ih.1,?_⟩
    have:=ih.2
    simp only [List.length_cons]
    rwa [show k+(l.length+1)=k+1+l.length by omega]
theorem j6 {l : Bk} (h : l.length≤4) : (cZ l).toNat=fy l:=(lX l 0 0 (by decide) (by omega)).1
theorem tQ {l : Bk} (h : l.length≤4) : fy l<256 ^ l.length:=by
  have:=(lX l 0 0 (by decide) (by omega)).2
  rwa [Nat.zero_add] at this
theorem bw (n : BitVec 32) (s : Nat) : (be n s).length=s:=by simp [be]
theorem Ec (n : BitVec 32) : fy (be n 4)=n.toNat:=by
  have h:=n.isLt
  have e : be n 4=[(n >>> 24).setWidth 8,(n >>> 16).setWidth 8,(n >>> 8).setWidth 8,(n >>> 0).setWidth 8]:=rfl
  rw [e]
  simp only [fy,List.foldl_cons,List.foldl_nil,BitVec.toNat_setWidth,BitVec.toNat_ushiftRight,Nat.shiftRight_eq_div_pow]
  omega
theorem Ed (n : BitVec 32) : fy (be n 2)=n.toNat % 65536:=by
  have e : be n 2=[(n >>> 8).setWidth 8,(n >>> 0).setWidth 8]:=rfl
  rw [e]
  simp only [fy,List.foldl_cons,List.foldl_nil,BitVec.toNat_setWidth,BitVec.toNat_ushiftRight,Nat.shiftRight_eq_div_pow]
  omega
theorem tT (n : BitVec 32) : cZ (be n 4)=n:=BitVec.eq_of_toNat_eq (by rw [j6 (by rw [bw];decide),Ec])
theorem tU (n : BitVec 32) : (cZ (be n 2)).toNat=n.toNat % 65536:=by rw [j6 (by rw [bw];decide),Ed]
theorem eo (m : Mk) : (mb m).length=10:=by simp [mb,bw]
theorem j7 {m : Mk} {part : Bk} (h : part.length≤42) : (br m part).length=64:=by
  simp only [br,List.length_append,eo,bw,List.length_replicate]
  omega
def Bd (m : Mk) : Prop:=m.2.2.1.toNat<32768
theorem tV {m : Mk} (h : Bd m) (r : Bk) : ak (mb m++r)=m:=by
  obtain ⟨g,n,p,l⟩:=m
  have hp : p.toNat<32768:=h
  have e1 : (mb (g,n,p,l)++r).take 4=be g 4:=by simp [mb,List.append_assoc,List.take_append,bw]
  have e2 : ((mb (g,n,p,l)++r).drop 4).take 4=be n 4:=by simp [mb,List.append_assoc,List.drop_append,List.take_append,bw,List.drop_eq_nil_of_le]
  have e3 : ((mb (g,n,p,l)++r).drop 8).take 2=be (wE (g,n,p,l)) 2:=by simp [mb,List.append_assoc,List.drop_append,List.take_append,bw,List.drop_eq_nil_of_le]
  have e4 : dD (mb (g,n,p,l)++r)=(cZ (be (wE (g,n,p,l)) 2)).setWidth 16:=by unfold dD;rw [e3]
  have hpl : (wE (g,n,p,l)).toNat=if l then p.toNat+32768 else p.toNat:=by
    unfold wE
    cases l
    · simp only [Bool.false_eq_true,if_false,BitVec.toNat_setWidth]
      omega
    · simp only [if_true,BitVec.toNat_add,BitVec.toNat_setWidth]
      rw [show (32768#32).toNat=32768 from rfl]
      omega
  have e5 : (dD (mb (g,n,p,l)++r)).toNat=if l then p.toNat+32768 else p.toNat:=by
    rw [e4,BitVec.toNat_setWidth,tU,hpl]
    cases l
    · simp only [Bool.false_eq_true,if_false];omega
    · simp only [if_true];omega
  unfold ak
  rw [e1,e2,tT,tT,e5]
  have e6 : dD (mb (g,n,p,l)++r) % 32768#16=p:=by
    apply BitVec.eq_of_toNat_eq
    rw [BitVec.toNat_umod,e5,show (32768#16).toNat=32768 from rfl]
    cases l
    · simp only [Bool.false_eq_true,if_false];omega
    · simp only [if_true];omega
  rw [e6]
  cases l
  · simp only [Bool.false_eq_true,if_false]
    rw [decide_eq_false (by omega)]
  · simp only [if_true]
    rw [decide_eq_true (by omega)]
theorem fT {m : Mk} (h : Bd m) (part : Bk) : ak (br m part)=m:=by
  unfold br
  simp only [List.append_assoc]
  exact tV h _
theorem lY {m : Mk} (h : Bd m) {part : Bk} (hp : part.length≤42) : ak ((br m part).drop 54)=m:=by
  have e : (br m part).drop 54=mb m++[]:=by
    unfold br
    rw [List.drop_append,List.drop_eq_nil_of_le (by simp only [List.length_append,eo,bw,List.length_replicate];omega)]
    simp only [List.length_append,eo,bw,List.length_replicate]
    rw [show 54 - (10+2+part.length+(42 - part.length))=0 by omega]
    simp
  rw [e]
  exact tV h _
theorem nP {m : Mk} {part : Bk} (hp : part.length≤42) : cnt (br m part)=part.length:=by
  have e : ((br m part).drop 10).take 2=be (BitVec.ofNat 32 part.length) 2:=by
    unfold br
    simp only [List.append_assoc]
    rw [List.drop_append_of_le_length (by rw [eo];decide),List.drop_of_length_le (by rw [eo];decide),List.nil_append,List.take_append_of_le_length (by rw [bw];decide),List.take_of_length_le (by rw [bw];decide)]
  unfold cnt
  rw [e,tU,BitVec.toNat_ofNat]
  omega
theorem lZ {m : Mk} {part : Bk} (hp : part.length≤42) : partOf (br m part)=part:=by
  unfold partOf
  rw [nP hp]
  unfold br
  simp only [List.append_assoc]
  rw [← List.append_assoc (mb m),List.drop_append_of_le_length (by rw [List.length_append,eo,bw];decide),List.drop_of_length_le (by rw [List.length_append,eo,bw];decide),List.nil_append,List.take_append_of_le_length (Nat.le_refl _),List.take_of_length_le (Nat.le_refl _)]
theorem kH {m : Mk} (h : Bd m) {part : Bk} (hp : part.length≤42) (hl : part.length=42∨m.2.2.2=true) : bN (br m part)=true:=by
  unfold bN
  rw [fT h,lY h hp,nP hp]
  rcases hl with hl | hl <;> simp [hl] <;> omega
def nb (n : Nat) : Nat:=max 1 (n / 42+min 1 (n % 42))
theorem l5 (n : Nat) : 0<nb n:=by unfold nb;omega
theorem nQ (n : Nat) : n≤nb n * 42:=by unfold nb;omega
theorem CC {n i : Nat} (h : i+1<nb n) : (i+1) * 42<n:=by unfold nb at h;omega
def rY (g : BitVec 32) (r : Nat) (n i : Nat) : Mk:=(g,BitVec.ofNat 32 r,BitVec.ofNat 16 i,decide (i+1=n))
def chunk (rec : Bk) (i : Nat) : Bk:=(rec.drop (i * 42)).take 42
def blk (g : BitVec 32) (r : Nat) (rec : Bk) (i : Nat) : Bk:=br (rY g r (nb rec.length) i) (chunk rec i)
def cQ (g : BitVec 32) (r : Nat) (rec : Bk) : List Bk:=(List.range (nb rec.length)).map (blk g r rec)
def rd (g : BitVec 32) (r : Nat) : List Bk→Nat→Bk→Option (Bk × Nat)
  | [],_,_=>none
  | b::bs,p,acc=>if bN b=true∧ak b=(g,BitVec.ofNat 32 r,BitVec.ofNat 16 p,(ak b).2.2.2) then
      (if (ak b).2.2.2 then some (acc++partOf b,p+1) else rd g r bs (p+1) (acc++partOf b)) else none
theorem wG {g : BitVec 32} {r : Nat} : ∀ {bs : List Bk} {p : Nat} {acc rec : Bk} {k : Nat},rd g r bs p acc=some (rec,k)→p<k∧k≤p+bs.length
  | [],_,_,_,_,h=>by simp [rd] at h
  | b::bs,p,acc,rec,k,h=>by
    unfold rd at h
    split at h
    · split at h
      · simp only [Option.some.injEq,Prod.mk.injEq] at h
        simp only [List.length_cons]
        omega
      · have:=wG h
        simp only [List.length_cons]
        omega
    · cases h
def iN (g : BitVec 32) : Nat→List Bk→Nat→List Bk
  | 0,_,_=>[]
  | f+1,bs,n=>match rd g n bs 0 [] with
    | some (rec,k)=>rec::iN g f (bs.drop k) (n+1)
    | none=>[]
def told (g : BitVec 32) (bs : List Bk) : List Bk:=iN g (bs.length+1) bs 0
theorem bH {rec : Bk} (i : Nat) : (chunk rec i).length=min 42 (rec.length - i * 42):=by simp [chunk]
theorem wH {g : BitVec 32} {r : Nat} {rec : Bk} (hn : nb rec.length≤32768) (rest : List Bk) : ∀ (d p : Nat),p+d+1=nb rec.length→
    rd g r (((List.range (nb rec.length)).drop p).map (blk g r rec)++rest) p (rec.take (p * 42))=some (rec,nb rec.length):=by
  intro d
  induction d with
  | zero=>
    intro p hp
    have hp1 : p<nb rec.length:=by omega
    have e : (List.range (nb rec.length)).drop p=p::(List.range (nb rec.length)).drop (p+1):=by
      rw [List.drop_eq_getElem_cons (by simpa using hp1)]
      simp
    have hc : (chunk rec p).length≤42:=by rw [bH];omega
    have hok : Bd (rY g r (nb rec.length) p):=by
      show (BitVec.ofNat 16 p).toNat<32768
      rw [BitVec.toNat_ofNat]
      omega
    have hl : (rY g r (nb rec.length) p).2.2.2=true:=decide_eq_true (by omega)
    have hm : ak (blk g r rec p)=rY g r (nb rec.length) p:=fT hok _
    rw [e,List.map_cons,List.cons_append,rd,if_pos ⟨kH hok hc (.inr hl),by rw [hm];rfl⟩,hm,hl,if_pos rfl]
    have hpt : partOf (blk g r rec p)=chunk rec p:=lZ hc
    rw [hpt]
    have hle:=nQ rec.length
    have : rec.take (p * 42)++chunk rec p=rec:=by
      unfold chunk
      rw [List.take_of_length_le (by rw [List.length_drop];omega : (rec.drop (p * 42)).length≤42),List.take_append_drop]
    rw [this]
    congr 2
  | succ d ih=>
    intro p hp
    have hp1 : p<nb rec.length:=by omega
    have e : (List.range (nb rec.length)).drop p=p::(List.range (nb rec.length)).drop (p+1):=by
      rw [List.drop_eq_getElem_cons (by simpa using hp1)]
      simp
    have hlt:=CC (n:=rec.length) (i:=p) (by omega)
    have hc : (chunk rec p).length=42:=by rw [bH];omega
    have hok : Bd (rY g r (nb rec.length) p):=by
      show (BitVec.ofNat 16 p).toNat<32768
      rw [BitVec.toNat_ofNat]
      omega
    have hl : (rY g r (nb rec.length) p).2.2.2=false:=decide_eq_false (by omega)
    have hm : ak (blk g r rec p)=rY g r (nb rec.length) p:=fT hok _
    rw [e,List.map_cons,List.cons_append,rd,if_pos ⟨kH hok (by omega) (.inl hc),by rw [hm];rfl⟩,hm,hl,if_neg (by decide)]
    have hpt : partOf (blk g r rec p)=chunk rec p:=lZ (by omega)
    rw [hpt]
    have : rec.take (p * 42)++chunk rec p=rec.take ((p+1) * 42):=by
      unfold chunk
      rw [Nat.succ_mul,List.take_add]
    rw [this]
    exact ih (p+1) (by omega)
theorem yX {g : BitVec 32} {r : Nat} {rec : Bk} (hn : nb rec.length≤32768) (rest : List Bk) : rd g r (cQ g r rec++rest) 0 []=some (rec,nb rec.length):=by
  have h:=wH (g:=g) (r:=r) hn rest (nb rec.length - 1) 0 (by have:=l5 rec.length;omega)
  simpa [cQ] using h
theorem ct (g : BitVec 32) (r : Nat) (rec : Bk) : (cQ g r rec).length=nb rec.length:=by simp [cQ]
def bF (g : BitVec 32) : Nat→List Bk→List Bk
  | _,[]=>[]
  | n,rec::af=>cQ g n rec++bF g (n+1) af
def room (af : List Bk) : Nat:=(af.map fun r=>nb r.length).sum
theorem cj (g : BitVec 32) : ∀ (n : Nat) (af : List Bk),(bF g n af).length=room af
  | _,[]=>rfl
  | n,rec::af=>by
    rw [bF,List.length_append,ct,cj g (n+1) af]
    simp [room]
theorem gK (g : BitVec 32) : ∀ (n : Nat) (a b : List Bk),bF g n (a++b)=bF g n a++bF g (n+a.length) b
  | n,[],b=>by simp [bF]
  | n,r::a,b=>by
    rw [List.cons_append,bF,bF,gK g (n+1) a b,List.append_assoc,List.length_cons,show n+1+a.length=n+(a.length+1) by omega]
theorem dK (a b : List Bk) : room (a++b)=room a+room b:=by simp [room]
theorem lp (af : List Bk) : af.length≤room af:=by
  induction af with
  | nil=>exact Nat.le_refl _
  | cons r af ih=>
    have:=l5 r.length
    simp only [room,List.map_cons,List.sum_cons,List.length_cons] at ih ⊢
    omega
theorem wI {g : BitVec 32} {r : Nat} {bs : List Bk} {p : Nat} {acc : Bk} (h : ∀ b ∈ bs,(ak b).1≠g) : rd g r bs p acc=none:=by
  cases bs with
  | nil=>rfl
  | cons b bs=>
    unfold rd
    rw [if_neg fun hh=>h b (by simp) (by rw [hh.2])]
theorem nR {g : BitVec 32} : ∀ (af : List Bk) (f n : Nat) (rest : List Bk),af.length<f→(∀ b ∈ rest,(ak b).1≠g)→room af≤32768→iN g f (bF g n af++rest) n=af
  | [],f+1,n,rest,_,h,_=>by
    show (match rd g n ([]++rest) 0 [] with | some (rec,k)=>_ | none=>_)=_
    rw [List.nil_append,wI h]
  | rec::af,f+1,n,rest,hf,h,hr=>by
    have hr' : nb rec.length+room af≤32768:=by simpa [room] using hr
    show (match rd g n (cQ g n rec++bF g (n+1) af++rest) 0 [] with | some (rec,k)=>_ | none=>_)=_
    rw [List.append_assoc,yX (by omega)]
    show rec::iN g f ((cQ g n rec++bF g (n+1) af++rest).drop (nb rec.length)) (n+1)=_
    rw [List.append_assoc,List.drop_left' (ct _ _ _),nR af f (n+1) rest (by simpa using hf) h (by omega)]
theorem wJ {g : BitVec 32} {af rest : List Bk} (h : ∀ b ∈ rest,(ak b).1≠g) (hr : room af≤32768) : told g (bF g 0 af++rest)=af:=
  nR af _ 0 rest (by have:=lp af;rw [List.length_append,cj];omega) h hr
end dy
end
section
namespace dy
open cY
def dR (l : Bk) : BitVec 64:=l.foldl (fun (n : BitVec 64) (c : BitVec 8)=>(n <<< 8) ||| c.setWidth 64) 0
def dY (n : BitVec 64) (size : Nat) : Bk:=(List.range size).map fun i=>(n >>> (8 * (size - 1 - i))).setWidth 8
theorem dL (n : BitVec 64) (s : Nat) : (dY n s).length=s:=by simp [dY]
theorem wK (n : BitVec 64) (c : BitVec 8) : ((n <<< 8) ||| c.setWidth 64).setWidth 32=(n.setWidth 32 <<< 8) ||| c.setWidth 32:=by
  ext i hi
  by_cases h : i<8 <;> simp [BitVec.getLsbD_shiftLeft,h]
theorem l6 : ∀ (l : Bk) (n : BitVec 64),(l.foldl (fun (n : BitVec 64) (c : BitVec 8)=>(n <<< 8) ||| c.setWidth 64) n).setWidth 32=l.foldl (fun (n : BitVec 32) (c : BitVec 8)=>(n <<< 8) ||| c.setWidth 32) (n.setWidth 32)
  | [],_=>rfl
  | c::l,n=>by
    simp only [List.foldl_cons]
    rw [l6 l,wK]
theorem qo (l : Bk) : (dR l).setWidth 32=cZ l:=l6 l 0
theorem wL (l : Bk) : (dR l).setWidth 16=(cZ l).setWidth 16:=by
  rw [← qo]
  ext i hi
  simp
theorem rZ {n : BitVec 64} {c : BitVec 8} (h : n.toNat<72057594037927936) : ((n <<< 8) ||| c.setWidth 64).toNat=256 * n.toNat+c.toNat:=by
  rw [BitVec.toNat_or,BitVec.toNat_shiftLeft,BitVec.toNat_setWidth]
  have hc:=c.isLt
  rw [Nat.mod_eq_of_lt (by omega : c.toNat<2 ^ 64),Nat.shiftLeft_eq,Nat.mod_eq_of_lt (by omega)]
  have:=Nat.two_pow_add_eq_or_of_lt (i:=8) (b:=c.toNat) hc n.toNat
  rw [Nat.mul_comm n.toNat (2 ^ 8),← this]
theorem kI : ∀ (l : Bk) (n : BitVec 64) (k : Nat),n.toNat<256 ^ k→k+l.length≤8→(l.foldl (fun (n : BitVec 64) (c : BitVec 8)=>(n <<< 8) ||| c.setWidth 64) n).toNat=l.foldl (fun (n : Nat) (c : BitVec 8)=>256 * n+c.toNat) n.toNat∧l.foldl (fun (n : Nat) (c : BitVec 8)=>256 * n+c.toNat) n.toNat<256 ^ (k+l.length)
  | [],n,k,h,_=>⟨rfl,h⟩
  | c::l,n,k,h,hl=>by
    simp only [List.length_cons] at hl
    have hk : 256 ^ k≤256 ^ 7:=Nat.pow_le_pow_right (by decide) (by omega)
    have hs:=rZ (n:=n) (c:=c) (by omega)
    have hc:=c.isLt
    have hlt : ((n <<< 8) ||| c.setWidth 64).toNat<256 ^ (k+1):=by rw [hs,Nat.pow_succ];omega
    have ih:=kI l _ (k+1) hlt (by omega)
    simp only [List.foldl_cons]
    rw [hs] at ih
    refine ⟨ih.1,?_⟩
    have:=ih.2
    simp only [List.length_cons]
    rwa [show k+(l.length+1)=k+1+l.length by omega]
theorem eW {l : Bk} (h : l.length≤8) : (dR l).toNat=fy l:=(kI l 0 0 (by decide) (by omega)).1
theorem wM (n : BitVec 32) (k : Nat) : ((n.setWidth 64) >>> k).setWidth 8=(n >>> k).setWidth 8:=by
  ext i hi
  simp
  intro h
  have:=BitVec.lt_of_getLsbD h
  omega
theorem tW (n : BitVec 32) (s : Nat) : dY (n.setWidth 64) s=be n s:=by
  unfold dY be
  refine List.map_congr_left fun i _=>?_
  exact wM n _
theorem wN {k : Nat} (h : k<4294967296) (s : Nat) : dY (BitVec.ofNat 64 k) s=be (BitVec.ofNat 32 k) s:=by
  rw [← tW]
  congr 1
  apply BitVec.eq_of_toNat_eq
  simp only [BitVec.toNat_setWidth,BitVec.toNat_ofNat]
  omega
theorem wO {k : Nat} (h : k<65536) : fy (be (BitVec.ofNat 32 k) 2)=k:=by rw [Ed,BitVec.toNat_ofNat];omega
theorem wP {k : Nat} (h : k<4294967296) : fy (be (BitVec.ofNat 32 k) 4)=k:=by rw [Ec,BitVec.toNat_ofNat];omega
theorem wQ (n : BitVec 64) : fy (dY n 8)=n.toNat:=by
  have h:=n.isLt
  have e : dY n 8=[(n >>> 56).setWidth 8,(n >>> 48).setWidth 8,(n >>> 40).setWidth 8,(n >>> 32).setWidth 8,(n >>> 24).setWidth 8,(n >>> 16).setWidth 8,(n >>> 8).setWidth 8,(n >>> 0).setWidth 8]:=rfl
  rw [e]
  simp only [fy,List.foldl_cons,List.foldl_nil,BitVec.toNat_setWidth,BitVec.toNat_ushiftRight,Nat.shiftRight_eq_div_pow]
  omega
theorem uR (n : BitVec 64) : dR (dY n 8)=n:=BitVec.eq_of_toNat_eq (by rw [eW (by rw [dL];decide),wQ])
end dy
end
section
set_option maxRecDepth 10000
open Sl dy
abbrev Bs:=List Bt
theorem bW : aL Tryz.prog 38:=⟨_,Tryz.func38,rfl,by kernel_rfl⟩
set_option maxHeartbeats 4000000 in
theorem c6 (s : aC) (w : World) (hs : s.ok w) (hl : s.l.length≤1000000) : Calls Tryz.prog 38 [s.v].toArray w fun e w'=>e=.returned (gA (dR s.l))∧Ext w w':=by
  refine enter (n:=19) Tryz.func38 rfl rfl rfl (Holds.start w []) ?_
  repeat (first | refine JL.q (by first|(apply OQ.len (k:=s.l.length) (ad:=s.ad) (cap:=s.cap);exact Tryz.underlying24;rfl)|(apply OQ.move;rfl)|(apply OQ.assign;rfl)) rfl ?_ | refine JC.seq ?_ | refine JC.region ?_ | refine JC.block ?_ | refine JL.nil ?_ | refine JE.next ?_)
  refine JC.loop (fun i : Nat=>[(6,s.v),(7,N s.l.length),(8,N i),(3,gA (dR (s.l.take i)))]) (fun _=>[]) (fun i=>s.l.length - i) (fun i=>i≤s.l.length) 0 (Nat.zero_le _) (by repeat (first | exact ag.nil | refine ag.cons _ _ _ rfl ?_)) (aj.refl _) ?_
  intro i hi
  repeat (first | refine JL.q (by (apply OQ.dX;rfl;rfl)) rfl ?_ | refine JC.seq ?_ | refine JC.region ?_ | refine JL.nil ?_ | refine JE.next ?_)
  refine JC.cond rfl (fun h=>?_) (fun h=>?_)
  · have hi' : i<s.l.length:=by have:=of_decide_eq_true h;omega
    clear h
    obtain ⟨b,j,hae,hca⟩:=hs.reads.at (by simp;omega)
    have hca:=hca i _ (fL U8 0 hi')
    have hsv : s.v=.slice (some ⟨b,j,none⟩) s.l.length s.cap:=by rw [← hae];rfl
    have e : dR (s.l.take (i+1))=(dR (s.l.take i) <<< 8) ||| (s.l.getD i 0).setWidth 64:=by
      rw [List.take_succ_eq_append_getElem hi']
      unfold dR
      rw [List.foldl_append]
      simp [hi']
    rw [hsv]
    repeat (first | refine JL.q (by first|(apply OQ.bD;exact Tryz.underlying24;exact iD;rfl;rfl;exact hi')|(apply OQ.bJ;exact A5;rfl;exact (block_lt_of_cell hca);exact (by simp);exact hca)|(apply OQ.Cv (k:=8);rfl;rfl)|(apply OQ.wo;exact Tryz.underlying5;exact Tryz.underlying90;rfl)|(apply OQ.Du;rfl;rfl)|(apply OQ.move;rfl)|(apply OQ.assign;rfl)|(apply OQ.addN;rfl;rfl;exact (by (try simp only []);omega))) rfl ?_ | refine JC.seq ?_ | refine JC.region ?_ | refine JC.block ?_ | refine JC.skip ?_ | refine JL.nil ?_ | refine JE.next ?_ | refine JE.an ?_)
    rw [← hsv,← e]
    exact JE.again (i:=i) (i+1) hi' (by omega) (by repeat (first | exact ag.nil | refine ag.cons _ _ _ rfl ?_)) (aj.refl _)
  · have hi' : i=s.l.length:=by have:=of_decide_eq_false h;omega
    subst hi'
    rw [List.take_length]
    repeat (first | refine JL.q (by first|(apply OQ.move;rfl)|(apply OQ.assign;rfl)) rfl ?_ | refine JC.seq ?_ | refine JC.region ?_ | refine JC.exit ?_ | refine JL.nil ?_ | refine JE.next ?_ | refine JE.aH ?_ | refine JE.aW ?_)
    exact JC.ret (JE.aR rfl (RV.tmp rfl) fun w' hw=>⟨rfl,hw.bf⟩)
theorem qp : aL Tryz.prog 62:=⟨_,Tryz.func62,rfl,by kernel_rfl⟩
theorem uS (n : BitVec 64) {size i : Nat} (h : i<size) : (dY n size).take (i+1)=(dY n size).take i++[(n >>> (8 * (size - 1 - i))).setWidth 8]:=by
  rw [List.take_succ_eq_append_getElem (by rw [dL];exact h)]
  simp [dY]
set_option maxHeartbeats 8000000 in
theorem r8 (q : Acc) (xs : Bs) (n : BitVec 64) (size : Nat) (h0 : 0<size) (h4 : size≤8) (hq : q=none→xs=[]) (hl : xs.length≤70000000000000) (w : World) (hw : Holds w (keys (aa 5 q (xs.map U8))) (aa 5 q (xs.map U8)) w) :
    Calls Tryz.prog 62 [ah q xs.length,gA n,N size].toArray w fun e w'=>∃ r : Nat × Nat,e=.returned (ah (some r) (xs++dY n size).length)∧Holds w (keys (aa 5 q (xs.map U8))) (aa 5 (some r) ((xs++dY n size).map U8)) w':=by
  generalize keys (aa 5 q (xs.map U8))=S at hw ⊢
  refine enter (n:=25) Tryz.func62 rfl rfl rfl hw ?_
  repeat (first | refine JL.q (by first|(apply OQ.move;rfl)|(apply OQ.assign;rfl)) rfl ?_ | refine JC.seq ?_ | refine JC.region ?_ | refine JC.block ?_ | refine JL.nil ?_ | refine JE.next ?_)
  refine JC.loop (fun z : Nat × Acc=>[(0,ah z.2 (xs++(dY n size).take z.1).length),(1,gA n),(2,N size),(8,N size),(9,N z.1)]) (fun z=>aa 5 z.2 ((xs++(dY n size).take z.1).map U8)) (fun z=>size - z.1) (fun z=>z.1≤size∧(z.2=none→xs++(dY n size).take z.1=[]∧z.1=0)) (0,q) ⟨Nat.zero_le _,fun e=>⟨by rw [hq e];rfl,rfl⟩⟩ (by rw [List.take_zero,List.append_nil];exact (by repeat (first | exact ag.nil | refine ag.cons _ _ _ rfl ?_))) (by rw [List.take_zero,List.append_nil];exact aj.refl _) ?_
  rintro ⟨i,q⟩ ⟨hi,hq2⟩
  dsimp only at hi hq2 ⊢
  repeat (first | refine JL.q (by (apply OQ.dX;rfl;rfl)) rfl ?_ | refine JC.seq ?_ | refine JC.region ?_ | refine JL.nil ?_ | refine JE.next ?_)
  refine JC.cond rfl (fun h=>?_) (fun h=>?_)
  · have hi' : i<size:=by have:=of_decide_eq_true h;omega
    clear h
    have et:=uS n hi'
    generalize hys : xs++(dY n size).take i=ys at hq2 ⊢
    have hy2 : xs++(dY n size).take (i+1)=ys++[(n >>> (8 * (size - 1 - i))).setWidth 8]:=by rw [et,← List.append_assoc,hys]
    have hyl : ys.length≤70000000000008:=by rw [← hys,List.length_append,List.length_take,dL];omega
    repeat (first | refine JL.q (by first|(apply OQ.mulN (a:=8);rfl;rfl;exact (by omega))|(apply OQ.Cr (k:=8 * (size - 1 - i));rfl;rfl)|(apply OQ.wh;exact Tryz.underlying90;exact Tryz.underlying5;rfl)|(apply OQ.move;rfl)|(apply OQ.assign;rfl)|(apply OQ.rJ;rfl;rfl;exact (by (try simp only []);omega);exact (by (try simp only []);omega))) rfl ?_ | refine JC.seq ?_ | refine JC.region ?_ | refine JC.block ?_ | refine JC.skip ?_ | refine JL.nil ?_ | refine JE.next ?_)
    refine JL.gu Tryz.underlying24 pJ rfl rfl rfl rfl fun bl _=>?_
    refine JL.perm (M':=aa 5 q (ys.map U8)++[⟨bl,Row 5 [U8 ((n >>> (8 * (size - 1 - i))).setWidth 8)],true⟩]) ?_ (by exact (List.perm_append_singleton _ _).symm)
    refine JL.bM (xs:=ys.map U8) (cs:=[U8 ((n >>> (8 * (size - 1 - i))).setWidth 8)]) (m:=1) (ad:=some ⟨bl,0,none⟩) (sc:=1) q Tryz.underlying24 pJ (fun e=>by rw [(hq2 e).1];rfl) (by rw [List.length_map];rfl) rfl rfl (fun w' hw'=>?_) (by simp [Value.oneCell']) rfl (by rw [List.length_map];omega) (by rw [List.length_map];omega) rfl fun q' hq'=>?_
    · obtain ⟨o,ho,hA⟩:=hw'.get (b:=bl) (A:=Row 5 [U8 ((n >>> (8 * (size - 1 - i))).setWidth 8)]) (wr:=true) (aG .here)
      exact Reads.block ho (Row.all o hA)
    have e2 : ys.map U8++[U8 ((n >>> (8 * (size - 1 - i))).setWidth 8)]=(xs++(dY n size).take (i+1)).map U8:=by rw [hy2];simp
    rw [e2] at hq' ⊢
    rw [List.length_map]
    repeat (first | refine JL.q (by first|(apply OQ.move;rfl)|(apply OQ.assign;rfl)|(apply OQ.addN;rfl;rfl;exact (by (try simp only []);omega))) rfl ?_ | refine JC.region ?_ | refine JL.nil ?_ | refine JE.next ?_ | refine JE.an ?_)
    refine JE.again (i:=(i,q)) (i+1,q') ⟨hi',fun e=>absurd (hq' e) (by rw [hy2];simp)⟩ (by dsimp only;omega) (by repeat (first | exact ag.nil | refine ag.cons _ _ _ rfl ?_)) (ax _ _)
  · have hi' : i=size:=by have:=of_decide_eq_false h;omega
    subst hi'
    cases q with
    | none=>have:=(hq2 rfl).2;omega
    | some r=>
      rw [List.take_of_length_le (by rw [dL];exact Nat.le_refl _)]
      repeat (first | refine JL.q (by first|(apply OQ.move;rfl)|(apply OQ.assign;rfl)) rfl ?_ | refine JC.seq ?_ | refine JC.region ?_ | refine JC.exit ?_ | refine JL.nil ?_ | refine JE.next ?_ | refine JE.aH ?_ | refine JE.aW ?_)
      exact JC.ret (JE.aR rfl (RV.tmp rfl) fun w' hw=>⟨r,rfl,hw⟩)
section
variable {n : Nat} {w0 : World} {S : List Nat} {ops : Array Oper} {Q : Exit→Act→World→Prop} {l : List Oper} {E : Env} {M : List ai} {C : World→Prop}
variable {dst : Option Tmp} {d : Nat} {ty t t' : TypeId} {pos : String} {aft : Array Edge} {g : Option (Nat × Bool)} {x x1 x2 x3 : Operand} {ats : Array TypeId} {P : Program}
theorem JL.r9 {q : Acc} {xs : Bs} {m : BitVec 64} {size : Nat} (h0 : 0<size) (h4 : size≤8) (hq : q=none→xs=[]) (hl : xs.length≤70000000000000) (e1 : ev E x1=some (ah q xs.length)) (e2 : ev E x2=some (gA m)) (e3 : ev E x3=some (N size)) (hd : Nat.blt d n=true)
    (kk : ∀ r : Nat × Nat,JL Tryz.prog n w0 S ops Q l ((d,ah (some r) (xs++dY m size).length)::E) (aa 5 (some r) ((xs++dY m size).map U8)++M)) : JL Tryz.prog n w0 S ops Q (⟨some d,.call ⟨.value (.func 62),#[x1,x2,x3],ats⟩,ty,pos,aft,none⟩::l) E (aa 5 q (xs.map U8)++M):=
  JL.Cz (ι:=Nat × Nat) (xs:=[x1,x2,x3]) (vs:=[ah q xs.length,gA m,N size]) (fun r=>ah (some r) (xs++dY m size).length) (fun r=>aa 5 (some r) ((xs++dY m size).map U8)) qp (by simp [gr,e1,e2,e3]) hd (aP _ _ _) (fun _=>aP _ _ _)
    (fun w hw=>r8 q xs m size h0 h4 hq hl w (hw.weak (ax _ _))) kk
theorem JL.jB {q : Acc} {xs : Bs} {m : BitVec 32} {size : Nat} (h0 : 0<size) (h4 : size≤8) (hq : q=none→xs=[]) (hl : xs.length≤70000000000000) (e1 : ev E x1=some (ah q xs.length)) (e2 : ev E x2=some (gA (m.setWidth 64))) (e3 : ev E x3=some (N size)) (hd : Nat.blt d n=true)
    (kk : ∀ r : Nat × Nat,JL Tryz.prog n w0 S ops Q l ((d,ah (some r) (xs++be m size).length)::E) (aa 5 (some r) ((xs++be m size).map U8)++M)) : JL Tryz.prog n w0 S ops Q (⟨some d,.call ⟨.value (.func 62),#[x1,x2,x3],ats⟩,ty,pos,aft,none⟩::l) E (aa 5 q (xs.map U8)++M):=
  JL.r9 h0 h4 hq hl e1 e2 e3 hd (tW m size ▸ kk)
theorem OQ.uT {d : TypeDesc} {a : BitVec 64} (hs : P.underlying t=some d) (hd : P.underlying t'=some (.int .u32)) (hx : ev E x=some (gA a)) : OQ P n E C ⟨dst,.convert t t' x,ty,pos,aft,g⟩ (dN (a.setWidth 32)):=
  OQ.conv hs hd hx (by rw [wrap32];simp [dN,BitVec.toNat_setWidth])
theorem OQ.nS {d : TypeDesc} {a : BitVec 32} (hs : P.underlying t=some d) (hd : P.underlying t'=some (.int .u64)) (hx : ev E x=some (dN a)) : OQ P n E C ⟨dst,.convert t t' x,ty,pos,aft,g⟩ (gA (a.setWidth 64)):=
  OQ.conv hs hd hx (by rw [wrap64];simp [gA,BitVec.toNat_setWidth])
end
end
section
set_option maxRecDepth 10000
open Sl cY dy
@[reducible] def tX (a : BitVec 16) : Value:=.int .u16 a.toNat
section
variable {P : Program} {n : Nat} {E : Env} {C : World→Prop} {dst : Option Tmp} {t t' e ty : TypeId} {pos : String} {aft : Array Edge} {g : Option (Nat × Bool)} {x y z : Operand}
theorem wR (a : Nat) : IntKind.u16.wrap (a : Int)=((a % 65536 : Nat) : Int):=by simp [IntKind.wrap,IntKind.bits,IntKind.signed]
theorem OQ.uU {d : TypeDesc} {a : BitVec 64} (hs : P.underlying t=some d) (hd : P.underlying t'=some (.int .u16)) (hx : ev E x=some (gA a)) : OQ P n E C ⟨dst,.convert t t' x,ty,pos,aft,g⟩ (tX (a.setWidth 16)):=
  OQ.conv hs hd hx (by rw [wR];simp [tX,BitVec.toNat_setWidth])
theorem OQ.uV {d : TypeDesc} {a : BitVec 16} (hs : P.underlying t=some d) (hd : P.underlying t'=some (.int .u64)) (hx : ev E x=some (tX a)) : OQ P n E C ⟨dst,.convert t t' x,ty,pos,aft,g⟩ (gA (a.setWidth 64)):=
  OQ.conv hs hd hx (by rw [wrap64];simp [gA,BitVec.toNat_setWidth])
theorem OQ.yY {d : TypeDesc} {l : Bk} (hs : P.underlying t=some d) (hd : P.underlying t'=some (.int .u32)) (hx : ev E x=some (gA (dR l))) : OQ P n E C ⟨dst,.convert t t' x,ty,pos,aft,g⟩ (dN (cZ l)):=
  qo l ▸ OQ.uT hs hd hx
theorem OQ.yZ {d : TypeDesc} {l : Bk} (hs : P.underlying t=some d) (hd : P.underlying t'=some (.int .u16)) (hx : ev E x=some (gA (dR l))) : OQ P n E C ⟨dst,.convert t t' x,ty,pos,aft,g⟩ (tX ((cZ l).setWidth 16)):=
  wL l ▸ OQ.uU hs hd hx
theorem OQ.Be {d : TypeDesc} {l : Bk} (hs : P.underlying t=some d) (hd : P.underlying t'=some (.int .i64)) (hx : ev E x=some (gA (dR l))) (hl : l.length≤4) : OQ P n E C ⟨dst,.convert t t' x,ty,pos,aft,g⟩ (N (cZ l).toNat):=by
  have h:=tQ hl
  have : 256 ^ l.length≤256 ^ 4:=Nat.pow_le_pow_right (by decide) hl
  rw [j6 hl,← eW (by omega)]
  exact OQ.pR hs hd hx (by rw [eW (by omega)];omega)
theorem OQ.l7 {d : TypeDesc} {a : Nat} (hs : P.underlying t=some d) (hd : P.underlying t'=some (.int .u16)) (hx : ev E x=some (N a)) : OQ P n E C ⟨dst,.convert t t' x,ty,pos,aft,g⟩ (tX (BitVec.ofNat 16 a)):=
  OQ.conv hs hd hx (by rw [wR];simp [tX])
theorem OQ.CD {a b : BitVec 16} (hx : ev E x=some (tX a)) (hy : ev E y=some (tX b)) (h : b.toNat≠0) : OQ P n E C ⟨dst,.binOp .rem t x y t',ty,pos,aft,g⟩ (tX (a % b)):=
  OQ.bin hx hy rfl fun w=>by
    have h4 : ((a.toNat : Int).tmod b.toNat)=((a % b).toNat : Int):=by rw [Int.tmod_eq_emod_of_nonneg (by omega),BitVec.toNat_umod];exact_mod_cast rfl
    have h5 : ¬ (b.toNat : Int)=0:=by omega
    have h7 : Op.intDiv .rem .u16 (a.toNat : Int) b.toNat=(Pure.pure (.int .u16 ((a.toNat : Int).tmod b.toNat)) : Sem Value):=by simp only [Op.intDiv,if_neg h5]
    show Sem.run P (Op.intDiv .rem .u16 (a.toNat : Int) b.toNat) w=_
    rw [h7,h4];rfl
theorem OQ.DC {a c : Nat} (hx : ev E x=some (N a)) (hy : ev E y=some (N c)) : OQ P n E C ⟨dst,.call ⟨.builtin .max,#[x,y],#[t,t']⟩,ty,pos,aft,g⟩ (N (max a c)):=
  OQ.run fun ac ha w _=>by
    have h1:=ha.eval hx
    have h2:=ha.eval hy
    have h3 : (if a<c then (c : Int) else (a : Int))=((max a c : Nat) : Int):=by split <;> omega
    simp [execOp,h1,h2,resolve,invoke,builtin,Builtin.max_,Builtin.max2,Sem.run_bind,N]
    exact h3
def aC.sub (s : aC) (lo hi : Nat) : aC:=⟨if s.cap=lo then s.ad else s.ad.map (·.add (lo * 1)),s.cap - lo,(s.l.take hi).drop lo⟩
theorem aC.ok.sub {s : aC} {w : World} (h : s.ok w) {lo hi : Nat} (h1 : lo≤hi) (h2 : hi≤s.l.length) : (s.sub lo hi).ok w:=by
  have hc:=h.len
  refine ⟨by show ((s.l.take hi).drop lo).length≤s.cap - lo;rw [List.length_drop,List.length_take];omega,?_⟩
  have hr:=h.reads.take hi
  rw [← List.map_take] at hr
  have:=hr.drop (len:=hi) (cap:=s.cap) (lo:=lo) (by rw [List.length_map,List.length_take];omega) (by omega) h1
  rwa [← List.map_drop] at this
theorem OQ.Bf {s : aC} {lo hi : Nat} (hu : P.underlying t=some (.slice e)) (hz : dH P e=some 1) (hx : ev E x=some s.v) (hl : ev E y=some (N lo)) (hh : ev E z=some (N hi)) (h1 : lo≤hi) (h2 : hi≤s.l.length) (hc : s.l.length≤s.cap) :
    OQ P n E C ⟨dst,.slice t x (some y) (some z) none,ty,pos,aft,g⟩ (s.sub lo hi).v:=
  OQ.to (OQ.wm (ad:=s.ad) (len:=s.l.length) (cap:=s.cap) hu hz hx hl hh h1 (by omega)) (by
    have : ((s.l.take hi).drop lo).length=hi - lo:=by rw [List.length_drop,List.length_take];omega
    simp only [aC.v,aC.sub,this])
end
theorem iF : dP Tryz.prog 156=true:=by kernel_rfl
theorem CE : dH Tryz.prog 156=some 1:=by kernel_rfl
theorem CF : dP Tryz.prog 217=true:=by kernel_rfl
theorem gL : dP Tryz.prog 4=true:=by kernel_rfl
def bX (m : Mk) : List Value:=[dN m.1,dN m.2.1,tX m.2.2.1,.bool m.2.2.2]
theorem jh : dH Tryz.prog 219=some 4:=by kernel_rfl
theorem gx : jX Tryz.prog 219=true:=by kernel_rfl
theorem Cf : zc Tryz.prog 219=some (bX (0,0,0,false)):=by kernel_rfl
theorem OQ.oK {n : Nat} {E : Env} {C : World→Prop} {dst : Option Tmp} {ty : TypeId} {pos : String} {aft : Array Edge} {g : Option (Nat × Bool)} {x1 x2 x3 x4 : Operand} {m : Mk} (h1 : ev E x1=some (dN m.1)) (h2 : ev E x2=some (dN m.2.1)) (h3 : ev E x3=some (tX m.2.2.1)) (h4 : ev E x4=some (.bool m.2.2.2)) :
    OQ Tryz.prog n E C ⟨dst,.build 219 #[(0,x1),(1,x2),(2,x3),(3,x4)],ty,pos,aft,g⟩ (.agg (bX m).toArray):=
  OQ.run fun a ha w _=>by
    have e1:=ha.eval h1
    have e2:=ha.eval h2
    have e3:=ha.eval h3
    have e4:=ha.eval h4
    have r:=run_build (P:=Tryz.prog) w 219 #[(0,dN m.1),(1,dN m.2.1),(2,tX m.2.2.1),(3,.bool m.2.2.2)] (bX m).toArray (by kernel_rfl)
    simp [execOp,e1,e2,e3,e4,r]
theorem c7 : aL Tryz.prog 87:=⟨_,Tryz.func87,rfl,by kernel_rfl⟩
theorem dM (n : Nat) (hn : n<4611686018427387904) (w : World) : Calls Tryz.prog 87 [N n].toArray w fun e w'=>e=.returned (N (nb n))∧Ext w w':=by
  refine enter (n:=10) Tryz.func87 rfl rfl rfl (Holds.start w []) ?_
  repeat (first | refine JL.q (by first|(apply OQ.wg (b:=42);rfl;rfl;exact (by decide);exact (by omega))|(apply OQ.AX (b:=42);rfl;rfl;exact (by decide))|(apply OQ.Cu (a:=1);rfl;rfl)|(apply OQ.addN (a:=n / 42);rfl;rfl;exact (by omega))|(apply OQ.DC (a:=1);rfl;rfl)|(apply OQ.move;rfl)|(apply OQ.assign;rfl)) rfl ?_ | refine JC.seq ?_ | refine JC.region ?_ | refine JL.nil ?_ | refine JE.next ?_)
  exact JC.ret (JE.aR rfl (RV.tmp rfl) fun w' hw=>⟨rfl,hw.bf⟩)
end
section
set_option maxRecDepth 10000
open Sl cY
theorem qq (n : Nat) : (dh n).length=n:=List.length_replicate
theorem AD {w0 w : World} {S : List Nat} {e : ai} {M : List ai} (h : Holds w0 S (e::M) w) : Holds w0 S M w:=h.weak (.drop _ _ _ (aj.refl _))
end
section
set_option maxRecDepth 10000
open Sl cY dy
section
variable {n : Nat} {E : Env} {C : World→Prop} {dst : Option Tmp} {t t' e ty : TypeId} {pos : String} {aft : Array Edge} {g : Option (Nat × Bool)} {x y z : Operand}
theorem DD : Tryz.prog.eqGuardType Tryz.prog.depth 219=false:=by kernel_rfl
set_option maxHeartbeats 4000000 in
theorem OQ.Bg {m m' : Mk} {r : Bool} (hx : ev E x=some (.agg (bX m).toArray)) (hy : ev E y=some (.agg (bX m').toArray)) (h : decide (m=m')=r) :
    OQ Tryz.prog n E C ⟨dst,.binOp .neq 219 x y t',ty,pos,aft,g⟩ (.bool (!r)):=
  OQ.run fun k hk w _=>by
    have e1:=hk.eval hx
    have e2:=hk.eval hy
    have h4:=fun w=>run_eqGuard_agg (P:=Tryz.prog) (w:=w) .neq 219 x y (bX m).toArray (bX m').toArray DD
    have h5:=fun w=>run_neq_struct (P:=Tryz.prog) (w:=w) 219 (bX m).toArray (bX m').toArray
    have hf : Tryz.prog.fieldsOf 219=match Tryz.prog.underlying 219 with | some (.struct fs)=>fs | _=>#[]:=by kernel_rfl
    have ei : ∀ (k : IntKind) (t : TypeId) (a b : Int) (w : World),Tryz.prog.underlying t=some (.int k)→(Op.equalIn 9999 t (.int k a) (.int k b)).run Tryz.prog w=.ok (a == b) w:=fun k t a b w ht=>run_equalIn_int (w:=w) 9998 t k k a b ht
    have eb : ∀ (a b : Bool) (w : World),(Op.equalIn 9999 4 (.bool a) (.bool b)).run Tryz.prog w=.ok (a == b) w:=fun a b w=>run_equalIn_bool w 9998 _ a b Tryz.underlying4
    have p0 : ∀ (a b c d : Value) w,(part 156 #[a,b,c,d] 0).run Tryz.prog w=.ok a w:=fun a b c d w=>by simp [part,dz iF]
    have p1 : ∀ (a b c d : Value) w,(part 156 #[a,b,c,d] 1).run Tryz.prog w=.ok b w:=fun a b c d w=>by simp [part,dz iF]
    have p2 : ∀ (a b c d : Value) w,(part 217 #[a,b,c,d] 2).run Tryz.prog w=.ok c w:=fun a b c d w=>by simp [part,dz CF]
    have p3 : ∀ (a b c d : Value) w,(part 4 #[a,b,c,d] 3).run Tryz.prog w=.ok d w:=fun a b c d w=>by simp [part,dz gL]
    have h3 : (Op.equalIn 10000 219 (.agg (bX m).toArray) (.agg (bX m').toArray)).run Tryz.prog w=.ok r w:=by
      rw [show (10000 : Nat)=9999+1 from rfl,run_equalIn_struct (w:=w) 9999 _ _ _ (by kernel_rfl) (by kernel_rfl),hf,Tryz.underlying219]
      subst h
      obtain ⟨g1,r1,q1,l1⟩:=m
      obtain ⟨g2,r2,q2,l2⟩:=m'
      have d1 : ((g1.toNat : Int) == (g2.toNat : Int))=decide (g1=g2):=by
        rw [Bool.eq_iff_iff,beq_iff_eq,decide_eq_true_eq]
        exact ⟨fun h=>BitVec.eq_of_toNat_eq (by omega),fun h=>by rw [h]⟩
      have d2 : ((r1.toNat : Int) == (r2.toNat : Int))=decide (r1=r2):=by
        rw [Bool.eq_iff_iff,beq_iff_eq,decide_eq_true_eq]
        exact ⟨fun h=>BitVec.eq_of_toNat_eq (by omega),fun h=>by rw [h]⟩
      have d3 : ((q1.toNat : Int) == (q2.toNat : Int))=decide (q1=q2):=by
        rw [Bool.eq_iff_iff,beq_iff_eq,decide_eq_true_eq]
        exact ⟨fun h=>BitVec.eq_of_toNat_eq (by omega),fun h=>by rw [h]⟩
      simp only [bX,dN,tX,Op.eqFields,Sem.run_bind,p0,p1,p2,p3,Result.andThen_ok]
      by_cases c1 : g1=g2 <;> by_cases c2 : r1=r2 <;> by_cases c3 : q1=q2 <;> by_cases c4 : l1=l2 <;> simp [c1,c2,c3,c4,d1,d2,d3,ei _ _ _ _ _ Tryz.underlying156,ei _ _ _ _ _ Tryz.underlying217,eb,p0,p1,p2,p3,Op.eqFields,Sem.run_bind]
    simp only [execOp,e1,e2,Sem.run_bind,h4,Result.andThen_ok,h5,h3]
    rfl
end
end
section
set_option maxRecDepth 10000
open Sl cY dy
theorem wS (m : Mk) : (wE m).setWidth 64=if m.2.2.2 then m.2.2.1.setWidth 64+32768#64 else m.2.2.1.setWidth 64:=by
  have h:=m.2.2.1.isLt
  unfold wE
  cases m.2.2.2
  · simp only [Bool.false_eq_true,if_false]
    apply BitVec.eq_of_toNat_eq
    simp only [BitVec.toNat_setWidth]
    omega
  · simp only [if_true]
    apply BitVec.eq_of_toNat_eq
    simp only [BitVec.toNat_setWidth,BitVec.toNat_add,BitVec.toNat_ofNat]
    omega
theorem l8 : aL Tryz.prog 187:=⟨_,Tryz.func187,rfl,by kernel_rfl⟩
set_option maxHeartbeats 8000000 in
theorem nT (m : Mk) (w : World) : Calls Tryz.prog 187 [.agg (bX m).toArray].toArray w fun e w'=>∃ r : Nat × Nat,e=.returned (ah (some r) (mb m).length)∧Holds w [] (aa 5 (some r) ((mb m).map U8)) w':=by
  refine enter (n:=24) Tryz.func187 rfl rfl rfl (Holds.start w []) ?_
  repeat (first | refine JC.seq ?_ | refine JC.region ?_)
  refine JL.box (r:=bX m) rfl rfl rfl fun b1 _=>?_
  repeat (first | refine JL.q (by first|(apply OQ.load;exact CF;rfl;exact .here;exact (Row.cell (v:=tX m.2.2.1) rfl))|(apply OQ.uV;exact Tryz.underlying217;exact Tryz.underlying90;rfl)|(apply OQ.load;exact gL;rfl;exact .here;exact (Row.cell (v:=.bool m.2.2.2) rfl))|(apply OQ.assign;rfl)|(apply OQ.aV;rfl;rfl;rfl;exact (by decide);rfl)) rfl ?_ | refine JC.seq ?_ | refine JC.region ?_ | refine JL.nil ?_ | refine JE.next ?_)
  refine JC.join (ι:=Unit) (fun _=>[(1,Pt b1 0),(3,gA ((wE m).setWidth 64))]) (fun _=>[⟨b1,Row 219 (bX m),true⟩]) (fun _=>True) ?_ fun _ _=>?_
  · refine JC.cond rfl (fun hl=>?_) (fun hl=>?_)
    · have e : (wE m).setWidth 64=m.2.2.1.setWidth 64+32768#64:=by rw [wS,hl];rfl
      rw [e]
      repeat (first | refine JL.q (by first|(apply OQ.Cq (b:=32768#64);rfl;rfl)|(apply OQ.move;rfl)|(apply OQ.assign;rfl)) rfl ?_ | refine JC.region ?_ | refine JL.nil ?_)
      exact JE.mid () trivial (by repeat (first | exact ag.nil | refine ag.cons _ _ _ rfl ?_)) (aj.refl _)
    · have e : (wE m).setWidth 64=m.2.2.1.setWidth 64:=by rw [wS,hl];rfl
      rw [e]
      repeat (refine JC.skip ?_)
      exact JE.mid () trivial (by repeat (first | exact ag.nil | refine ag.cons _ _ _ rfl ?_)) (aj.refl _)
  repeat (first | refine JL.q (by first|(apply OQ.load;exact iF;rfl;exact .here;exact (Row.cell (v:=dN m.1) rfl))|(apply OQ.nS;exact Tryz.underlying156;exact Tryz.underlying90;rfl)|(apply OQ.aV;rfl;rfl;rfl;exact (by decide);rfl)) rfl ?_ | refine JC.seq ?_ | refine JC.region ?_)
  refine JL.jB (q:=none) (xs:=[]) (m:=m.1) (size:=4) (M:=[⟨b1,Row 219 (bX m),true⟩]) (by decide) (by decide) (fun _=>rfl) (by decide) rfl rfl rfl rfl fun r1=>?_
  repeat (first | refine JL.q (by first|(apply OQ.load;exact iF;rfl;exact (.there .here);exact (Row.cell (v:=dN m.2.1) rfl))|(apply OQ.nS;exact Tryz.underlying156;exact Tryz.underlying90;rfl)|(apply OQ.move;rfl)|(apply OQ.assign;rfl)|(apply OQ.aV;rfl;rfl;rfl;exact (by decide);rfl)) rfl ?_ | refine JC.seq ?_ | refine JC.region ?_ | refine JL.nil ?_ | refine JE.next ?_)
  refine JL.jB (q:=some r1) (xs:=be m.1 4) (m:=m.2.1) (size:=4) (by decide) (by decide) nofun (by rw [bw];decide) rfl rfl rfl rfl fun r2=>?_
  repeat (first | refine JL.q (by first|(apply OQ.move;rfl)|(apply OQ.assign;rfl)) rfl ?_ | refine JC.seq ?_ | refine JC.region ?_ | refine JL.nil ?_ | refine JE.next ?_)
  refine JL.jB (q:=some r2) (xs:=be m.1 4++be m.2.1 4) (m:=wE m) (size:=2) (by decide) (by decide) nofun (by rw [List.length_append,bw,bw];decide) rfl rfl rfl rfl fun r3=>?_
  repeat (first | refine JL.q (by (apply OQ.assign;rfl)) rfl ?_ | refine JL.nil ?_ | refine JE.next ?_)
  exact JC.ret (JE.aR rfl (RV.tmp rfl) fun w' hw=>⟨r3,rfl,hw.weak (ax _ _)⟩)
theorem bx : aL Tryz.prog 141:=⟨_,Tryz.func141,rfl,by kernel_rfl⟩
set_option maxHeartbeats 8000000 in
theorem ep (s : aC) (w : World) (hs : s.ok w) (h10 : 10≤s.l.length) (hl : s.l.length≤64) : Calls Tryz.prog 141 [s.v].toArray w fun e w'=>e=.returned (.agg (bX (ak s.l)).toArray)∧Ext w w':=by
  have hc:=hs.len
  have c8:=fun w' (ok : s.ok w')=>c6 (s.sub 8 10) w' (ok.sub (by decide) h10) (by show ((s.l.take 10).drop 8).length≤_;rw [List.length_drop,List.length_take];omega)
  have c4:=fun w' (ok : s.ok w')=>c6 (s.sub 4 8) w' (ok.sub (by decide) (by omega)) (by show ((s.l.take 8).drop 4).length≤_;rw [List.length_drop,List.length_take];omega)
  have c0:=fun w' (ok : s.ok w')=>c6 (s.fst 4) w' (ok.fst 4) (by show (s.l.take 4).length≤_;rw [List.length_take];omega)
  have e8 : (s.sub 8 10).l=(s.l.drop 8).take 2:=by show (s.l.take 10).drop 8=_;rw [List.drop_take]
  have e4 : (s.sub 4 8).l=(s.l.drop 4).take 4:=by show (s.l.take 8).drop 4=_;rw [List.drop_take]
  rw [e8] at c8
  rw [e4] at c4
  have hp : (cZ ((s.l.drop 8).take 2)).setWidth 16=dD s.l:=rfl
  have hm : ak s.l=(cZ (s.l.take 4),cZ ((s.l.drop 4).take 4),dD s.l % 32768#16,decide ((32768 : Int)≤((dD s.l).toNat : Int))):=by
    unfold ak
    congr 3
    exact decide_eq_decide.2 (by omega)
  rw [hm]
  refine enter (n:=21) Tryz.func141 rfl rfl rfl (Holds.start w []) ?_
  repeat (first | refine JC.seq ?_ | refine JC.region ?_)
  refine JL.alloc Cf rfl fun b2 _=>?_
  repeat (first | refine JL.q (by first|(apply OQ.Bf (s:=s) (lo:=8) (hi:=10);exact Tryz.underlying24;exact iD;rfl;rfl;rfl;exact (by decide);exact h10;exact hc)|(apply OQ.aF (vs:=[(s.sub 8 10).v]);exact bW;rfl;exact (fun w' hw'=>c8 w' (hs.holds hw' rfl)))|(apply OQ.yZ;exact Tryz.underlying90;exact Tryz.underlying217;rfl)|(apply OQ.move;rfl)|(apply OQ.assign;rfl)) rfl ?_ | refine JC.seq ?_ | refine JC.region ?_ | refine JL.nil ?_ | refine JE.next ?_)
  refine JC.tail 13 bZ (by kernel_rfl) ?_
  simp only [List.take_succ_cons,List.take_zero,List.drop_succ_cons,List.drop_zero]
  rw [hp]
  generalize dD s.l=pl
  generalize hg3 : (decide ((32768 : Int)≤(pl.toNat : Int)))=g3
  repeat (first | refine JQ.q (by first|(apply OQ.fst (s:=s) (m:=4);exact Tryz.underlying24;exact iD;rfl;rfl;exact (by omega);exact hc)|(apply OQ.Bf (s:=s) (lo:=4) (hi:=8);exact Tryz.underlying24;exact iD;rfl;rfl;rfl;exact (by decide);exact (by omega);exact hc)|(apply OQ.aF (vs:=[(s.fst 4).v]);exact bW;rfl;exact (fun w' hw'=>c0 w' (hs.holds hw' rfl)))|(apply OQ.aF (vs:=[(s.sub 4 8).v]);exact bW;rfl;exact (fun w' hw'=>c4 w' (hs.holds hw' rfl)))|(apply OQ.yY;exact Tryz.underlying90;exact Tryz.underlying156;rfl)|(apply OQ.CD (b:=32768#16);rfl;rfl;exact (by decide))|(apply OQ.ee (b:=32768);rfl;rfl;exact hg3)|(apply OQ.oK (m:=(cZ (s.l.take 4),cZ ((s.l.drop 4).take 4),pl % 32768#16,g3));rfl;rfl;rfl;rfl)|(apply OQ.move;rfl)) rfl ?_ | refine JQ.cI ?_)
  refine JL.aq (cs:=bX (cZ (s.l.take 4),cZ ((s.l.drop 4).take 4),pl % 32768#16,g3)) jh rfl rfl rfl rfl .here rfl ?_
  repeat (first | refine JL.nil ?_ | refine JE.next ?_)
  exact JC.ret (JE.aR rfl (RV.aT gx jh rfl .here rfl Row.all) fun w' hw=>⟨rfl,hw.bf⟩)
section
variable {P : Program} {n : Nat} {E : Env} {C : World→Prop} {dst : Option Tmp} {t ty e : TypeId} {pos : String} {aft : Array Edge} {g : Option (Nat × Bool)} {x y z : Operand} {b1 m : Nat} {b : Bk}
theorem OQ.tY (hb : b.length=m) (hu : P.underlying t=some (.array m e)) (hz : dH P e=some 1) (hx : ev E x=some (Pt b1 0)) : OQ P n E C ⟨dst,.slice t x none none none,ty,pos,aft,g⟩ (⟨some ⟨b1,0,none⟩,m,b⟩ : aC).v:=
  OQ.to (OQ.Ex hu hz hx) (by simp [aC.v,hb])
theorem OQ.CG {lo hi : Nat} (hb : b.length=m) (hu : P.underlying t=some (.array m e)) (hz : dH P e=some 1) (hx : ev E x=some (Pt b1 0)) (hl : ev E y=some (N lo)) (hh : ev E z=some (N hi)) (h1 : lo<m) (h2 : lo≤hi) (h3 : hi≤m) : OQ P n E C ⟨dst,.slice t x (some y) (some z) none,ty,pos,aft,g⟩ (⟨some ⟨b1,0+lo,none⟩,m - lo,(b.drop lo).take (hi - lo)⟩ : aC).v:=
  OQ.to (OQ.lN hu hz hx hl hh h1 h2 h3) (by
    have : ((b.drop lo).take (hi - lo)).length=hi - lo:=by rw [List.length_take,List.length_drop];omega
    simp only [aC.v,this])
theorem OQ.l9 {lo : Nat} (hb : b.length=m) (hu : P.underlying t=some (.array m e)) (hz : dH P e=some 1) (hx : ev E x=some (Pt b1 0)) (hl : ev E y=some (N lo)) (h1 : lo<m) : OQ P n E C ⟨dst,.slice t x (some y) none none,ty,pos,aft,g⟩ (⟨some ⟨b1,0+lo,none⟩,m - lo,b.drop lo⟩ : aC).v:=
  OQ.to (OQ.AY hu hz hx hl h1) (by
    have : (b.drop lo).length=m - lo:=by rw [List.length_drop];omega
    simp only [aC.v,this])
theorem wT {w0 w : World} {S : List Nat} {M : List ai} {e : TypeId} {wr : Bool} {lo k : Nat} (hw : Holds w0 S M w) (hM : Has M b1 (Row e (bc b)) wr) (hb : b.length=m) (h1 : lo≤m) (h2 : k≤m - lo) : aC.ok w ⟨some ⟨b1,0+lo,none⟩,m - lo,(b.drop lo).take k⟩:=by
  obtain ⟨o,ho,hA⟩:=hw.get hM
  refine ⟨by show ((b.drop lo).take k).length≤m - lo;rw [List.length_take,List.length_drop];omega,?_⟩
  rw [Nat.zero_add]
  refine Reads.block ho (Row.cells ?_ o hA)
  show ((bc b).drop lo).take _=_
  simp only [bc,List.length_map,List.map_take,List.map_drop]
  rw [List.length_take,List.length_drop,List.take_eq_take_iff,List.length_drop,List.length_map]
  omega
theorem wU {w0 w : World} {S : List Nat} {M : List ai} {e : TypeId} {wr : Bool} {lo : Nat} (hw : Holds w0 S M w) (hM : Has M b1 (Row e (bc b)) wr) (hb : b.length=m) (h1 : lo≤m) : aC.ok w ⟨some ⟨b1,0+lo,none⟩,m - lo,b.drop lo⟩:=by
  have:=wT (k:=m - lo) hw hM hb h1 (Nat.le_refl _)
  rwa [List.take_of_length_le (by rw [List.length_drop];omega)] at this
end
theorem kJ : aL Tryz.prog 179:=⟨_,Tryz.func179,rfl,by kernel_rfl⟩
theorem OQ.oL {n : Nat} {E : Env} {C : World→Prop} {dst : Option Tmp} {ty : TypeId} {pos : String} {aft : Array Edge} {g : Option (Nat × Bool)} : OQ Tryz.prog n E C ⟨dst,.build 219 #[],ty,pos,aft,g⟩ (.agg (bX (0,0,0,false)).toArray):=OQ.pure rfl rfl (by kernel_rfl)
set_option maxHeartbeats 32000000 in
theorem me (b : Bk) (hb : b.length=64) (w : World) : Calls Tryz.prog 179 [.agg (bc b).toArray].toArray w fun e w'=>(bN b=false∧e=.returned (.tuple #[.agg (bX (0,0,0,false)).toArray,.slice none 0 0,.bool false])∧Ext w w')∨(bN b=true∧∃ b1 : Nat,e=.returned (.tuple #[.agg (bX (ak b)).toArray,.slice (some ⟨b1,12,none⟩) (cnt b) 52,.bool true])∧Holds w [] [⟨b1,Row 141 (bc b),true⟩] w'):=by
  refine enter (n:=34) Tryz.func179 rfl rfl rfl (Holds.start w []) ?_
  repeat (first | refine JC.seq ?_ | refine JC.region ?_)
  refine JL.box (r:=bc b) rfl rfl rfl fun b1 _=>?_
  refine JL.alloc Cf rfl fun b2 _=>?_
  repeat (first | refine JL.q (by (apply OQ.assign;rfl)) rfl ?_ | refine JC.seq ?_ | refine JL.nil ?_ | refine JE.next ?_)
  let vs : Nat→Nat→Value:=fun j y=>match j with
    | 0=>(⟨some ⟨b1,0,none⟩,64,b⟩ : aC).v
    | 1=>.agg (bX (ak b)).toArray
    | 2=>(⟨some ⟨b1,0+10,none⟩,64 - 10,(b.drop 10).take 2⟩ : aC).v
    | 3=>gA (dR ((b.drop 10).take 2))
    | 4=>N (cnt b)
    | 5=>Pt y 0
    | 7=>N (cnt b)
    | _=>N 0
  let Ms : Nat→Nat→List ai:=fun j y=>match j with
    | 5=>[⟨y,Row 219 (bX (0,0,0,false)),true⟩]
    | 6=>[⟨y,Row 219 (bX (ak b)),true⟩]
    | 8=>[⟨b2,Row 219 (bX (0,0,0,false)),true⟩]
    | 9=>[⟨b1,Row 141 (bc b),true⟩]
    | _=>[]
  refine JC.grow (g:=⟨[(1,Pt b1 0),(2,Pt b2 0),(3,.slice none 0 0),(4,.bool false)],10,vs,Ms,(fun j=>match j with | 1=>[(0,7)] | 3=>[(2,9)] | 4=>[(3,10)] | 6=>[(5,5),(1,8)] | 7=>[(4,11)] | _=>[]),(fun j=>match j with | 1=>[9] | 3=>[9] | 6=>[5] | _=>[]),(fun j=>match j with | 6=>[5] | _=>[]),(fun j=>match j with | 6=>some 5 | _=>none)⟩) [(5,5),(7,6)] [6,8,9] bZ (by repeat (first | exact ag.nil | refine ag.cons _ _ _ rfl ?_)) ?_ (by kernel_rfl) (by kernel_rfl) (by kernel_rfl) ?_ ?_
  · exact aj.refl _
  · refine ⟨?_,?_,?_,?_,?_,?_,?_,?_,trivial⟩
    · (intro xx EF MF Q kk;(try refine JL.aB rfl rfl ?_);exact JL.q (OQ.tY hb Tryz.underlying141 iD rfl) rfl (JL.nil (kk default nofun)))
    · (intro xx EF MF Q kk;(try refine JL.aB rfl rfl ?_);exact JL.q (OQ.aF (vs:=[(⟨some ⟨b1,0,none⟩,64,b⟩ : aC).v]) bx rfl (fun w' hw'=>ep _ w' (rO hw' .here rfl (by omega)) (by show 10≤b.length;omega) (by show b.length≤64;omega))) rfl (JL.nil (kk default nofun)))
    · (intro xx EF MF Q kk;(try refine JL.aB rfl rfl ?_);exact JL.q (OQ.CG hb Tryz.underlying141 iD rfl rfl rfl (lo:=10) (hi:=12) (by decide) (by decide) (by decide)) rfl (JL.nil (kk default nofun)))
    · (intro xx EF MF Q kk;(try refine JL.aB rfl rfl ?_);exact JL.q (OQ.aF (vs:=[(⟨some ⟨b1,0+10,none⟩,64 - 10,(b.drop 10).take 2⟩ : aC).v]) bW rfl (fun w' hw'=>c6 _ w' (wT hw' .here hb (by decide) (by decide)) (by show ((b.drop 10).take 2).length≤_;rw [List.length_take];omega))) rfl (JL.nil (kk default nofun)))
    · (intro xx EF MF Q kk;(try refine JL.aB rfl rfl ?_);exact JL.q (OQ.Be Tryz.underlying90 Tryz.underlying3 rfl (by rw [List.length_take];omega)) rfl (JL.nil (kk default nofun)))
    · (intro xx EF MF Q kk;exact JL.alloc Cf rfl fun b _=>JL.nil (kk b nofun))
    · (intro xx EF MF Q kk;exact JL.aq (cs:=bX (ak b)) jh rfl rfl rfl rfl .here rfl (JL.nil (kk (xx 5) (fun k h=>by cases h;rfl))))
    · (intro xx EF MF Q kk;(try refine JL.aB rfl rfl ?_);exact JL.q (OQ.assign rfl) rfl (JL.nil (kk default nofun)))
  · intro xx hx
    have e6:=hx 6 5 (by decide) rfl
    show JE _ _ _ _ _ [(5,Pt (xx 5) 0),(6,N (cnt b)),(1,Pt b1 0),(2,Pt b2 0),(3,.slice none 0 0),(4,.bool false)] [⟨xx 6,Row 219 (bX (ak b)),true⟩,⟨b2,Row 219 (bX (0,0,0,false)),true⟩,⟨b1,Row 141 (bc b),true⟩]
    rw [e6]
    generalize xx 5=b5
    clear hx e6 xx vs Ms
    (repeat (first | refine JC.seq ?_ | refine JE.next ?_))
    refine JC.quiet bZ (by kernel_rfl) ?_
    have cE:=fun {u w' : World} {S : List Nat} {M : List ai} (hw' : Holds u S M w') (hM : Has M b1 (Row 141 (bc b)) true)=>ep ⟨some ⟨b1,0+54,none⟩,64 - 54,b.drop 54⟩ w' (wU hw' hM hb (by decide)) (by show 10≤(b.drop 54).length;rw [List.length_drop];omega) (by show (b.drop 54).length≤64;rw [List.length_drop];omega)
    cases c1 : decide (ak b=ak (b.drop 54))
    case false=>
      have hw0 : bN b=false:=by unfold bN;rw [c1];rfl
      repeat (first | refine JQ.q (by first|(apply OQ.az (cs:=bX (ak b));exact gx;exact jh;rfl;exact .here;rfl;exact Row.all)|(apply OQ.l9 (lo:=54);exact hb;exact Tryz.underlying141;exact iD;rfl;rfl;exact (by decide))|(apply OQ.aF (vs:=[(⟨some ⟨b1,0+54,none⟩,64 - 54,b.drop 54⟩ : aC).v]);exact bx;rfl;exact (fun w' hw'=>cE hw' (.there (.there .here))))|(apply OQ.Bg;rfl;rfl;exact c1)|(apply OQ.aS;rfl;rfl)|(apply OQ.move;rfl)) rfl ?_ | refine JQ.nil ?_ | refine JE.next ?_ | refine JQ.bC rfl rfl rfl rfl ?_ | refine JQ.gF rfl rfl rfl rfl ?_)
      refine JC.cond_true rfl rfl ?_
      repeat (first | refine JL.q (by (apply OQ.oL)) rfl ?_ | refine JC.seq ?_ | refine JC.region ?_)
      refine JL.aq (cs:=bX (0,0,0,false)) jh rfl rfl rfl rfl (.there .here) rfl ?_
      repeat (first | refine JL.q (by (apply OQ.assign;rfl)) rfl ?_ | refine JL.nil ?_ | refine JE.next ?_)
      refine JC.ret ?_
      repeat (refine JE.aA ?_)
      exact JE.kV rfl (RV.aT gx jh rfl (.there .here) rfl Row.all) (RV.tmp rfl) (RV.tmp rfl) fun w' hw=>.inl ⟨hw0,rfl,hw.bf⟩
    cases c2 : decide ((42 : Int)<((cnt b : Nat) : Int))
    case true=>
      have hw0 : bN b=false:=by unfold bN;rw [c1,decide_eq_false (by have:=of_decide_eq_true c2;omega : ¬ cnt b≤42)];rfl
      repeat (first | refine JQ.q (by first|(apply OQ.az (cs:=bX (ak b));exact gx;exact jh;rfl;exact .here;rfl;exact Row.all)|(apply OQ.l9 (lo:=54);exact hb;exact Tryz.underlying141;exact iD;rfl;rfl;exact (by decide))|(apply OQ.aF (vs:=[(⟨some ⟨b1,0+54,none⟩,64 - 54,b.drop 54⟩ : aC).v]);exact bx;rfl;exact (fun w' hw'=>cE hw' (.there (.there .here))))|(apply OQ.Bg;rfl;rfl;exact c1)|(apply OQ.cD (b:=42);rfl;rfl;exact c2)|(apply OQ.aJ;rfl;rfl)|(apply OQ.aS;rfl;rfl)|(apply OQ.move;rfl)) rfl ?_ | refine JQ.nil ?_ | refine JE.next ?_ | refine JQ.aB rfl rfl ?_ | refine JQ.bC rfl rfl rfl rfl ?_ | refine JQ.gF rfl rfl rfl rfl ?_)
      refine JC.cond_true rfl rfl ?_
      repeat (first | refine JL.q (by (apply OQ.oL)) rfl ?_ | refine JC.seq ?_ | refine JC.region ?_)
      refine JL.aq (cs:=bX (0,0,0,false)) jh rfl rfl rfl rfl (.there .here) rfl ?_
      repeat (first | refine JL.q (by (apply OQ.assign;rfl)) rfl ?_ | refine JL.nil ?_ | refine JE.next ?_)
      refine JC.ret ?_
      repeat (refine JE.aA ?_)
      exact JE.kV rfl (RV.aT gx jh rfl (.there .here) rfl Row.all) (RV.tmp rfl) (RV.tmp rfl) fun w' hw=>.inl ⟨hw0,rfl,hw.bf⟩
    have hc42 : cnt b≤42:=by have:=of_decide_eq_false c2;omega
    cases c3 : decide (((cnt b : Nat) : Int)<(42 : Int))
    case false=>
      have hw1 : bN b=true:=by unfold bN;rw [c1,decide_eq_true hc42,decide_eq_true (by have:=of_decide_eq_false c3;omega : cnt b=42)];rfl
      repeat (first | refine JQ.q (by first|(apply OQ.az (cs:=bX (ak b));exact gx;exact jh;rfl;exact .here;rfl;exact Row.all)|(apply OQ.l9 (lo:=54);exact hb;exact Tryz.underlying141;exact iD;rfl;rfl;exact (by decide))|(apply OQ.aF (vs:=[(⟨some ⟨b1,0+54,none⟩,64 - 54,b.drop 54⟩ : aC).v]);exact bx;rfl;exact (fun w' hw'=>cE hw' (.there (.there .here))))|(apply OQ.Bg;rfl;rfl;exact c1)|(apply OQ.cD (b:=42);rfl;rfl;exact c2)|(apply OQ.gv (b:=42);rfl;rfl;exact c3)|(apply OQ.aJ;rfl;rfl)|(apply OQ.move;rfl)) rfl ?_ | refine JQ.nil ?_ | refine JE.next ?_ | refine JQ.aB rfl rfl ?_ | refine JQ.bC rfl rfl rfl rfl ?_)
      refine JC.cond_false rfl rfl ?_
      (repeat (first | refine JC.seq ?_ | refine JC.skip ?_ | refine JE.next ?_))
      let vs : Nat→Nat→Value:=fun j y=>match j with
        | 0=>.agg (bX (ak b)).toArray
        | 1=>N (cnt b)
        | 2=>N (12+cnt b)
        | 3=>.slice (some ⟨b1,12,none⟩) (cnt b) 52
        | 5=>.slice (some ⟨b1,12,none⟩) (cnt b) 52
        | 6=>.bool true
        | _=>N 0
      let Ms : Nat→Nat→List ai:=fun j y=>match j with
        | 4=>[⟨b2,Row 219 (bX (ak b)),true⟩]
        | 7=>[⟨b5,Row 219 (bX (ak b)),true⟩]
        | 8=>[⟨b2,Row 219 (bX (0,0,0,false)),true⟩]
        | 9=>[⟨b1,Row 141 (bc b),true⟩]
        | _=>[]
      refine JC.grow (g:=⟨[(1,Pt b1 0),(2,Pt b2 0),(5,Pt b5 0),(6,N (cnt b))],10,vs,Ms,(fun j=>match j with | 2=>[(1,31)] | 3=>[(2,32)] | 4=>[(0,30)] | 5=>[(3,33)] | _=>[]),(fun j=>match j with | 0=>[7] | 4=>[8] | _=>[]),(fun j=>match j with | 4=>[8] | _=>[]),(fun j=>match j with | _=>none)⟩) [(5,3),(6,4)] [4,9] bZ (by repeat (first | exact ag.nil | refine ag.cons _ _ _ rfl ?_)) ?_ (by kernel_rfl) (by kernel_rfl) (by kernel_rfl) ?_ ?_
      · exact aj.refl _
      · refine ⟨?_,?_,?_,?_,?_,?_,?_,trivial⟩
        · (intro xx EF MF Q kk;(try refine JL.aB rfl rfl ?_);exact JL.q (OQ.az (cs:=bX (ak b)) gx jh rfl .here rfl Row.all) rfl (JL.nil (kk default nofun)))
        · (intro xx EF MF Q kk;(try refine JL.aB rfl rfl ?_);exact JL.q (OQ.move rfl) rfl (JL.nil (kk default nofun)))
        · (intro xx EF MF Q kk;(try refine JL.aB rfl rfl ?_);exact JL.q (OQ.addN (a:=12) rfl rfl (by omega)) rfl (JL.nil (kk default nofun)))
        · (intro xx EF MF Q kk;(try refine JL.aB rfl rfl ?_);exact JL.q (OQ.to (OQ.lN (lo:=12) (hi:=12+cnt b) Tryz.underlying141 iD rfl rfl rfl (by decide) (by omega) (by omega)) (by rw [Nat.add_sub_cancel_left];rfl)) rfl (JL.nil (kk default nofun)))
        · (intro xx EF MF Q kk;exact JL.aq (cs:=bX (ak b)) jh rfl rfl rfl rfl .here rfl (JL.nil (kk default nofun)))
        · (intro xx EF MF Q kk;(try refine JL.aB rfl rfl ?_);exact JL.q (OQ.assign rfl) rfl (JL.nil (kk default nofun)))
        · (intro xx EF MF Q kk;(try refine JL.aB rfl rfl ?_);exact JL.q (OQ.assign rfl) rfl (JL.nil (kk default nofun)))
      · intro xx hx
        show JE _ _ _ _ _ [(3,.slice (some ⟨b1,12,none⟩) (cnt b) 52),(4,.bool true),(1,Pt b1 0),(2,Pt b2 0),(5,Pt b5 0),(6,N (cnt b))] [⟨b2,Row 219 (bX (ak b)),true⟩,⟨b1,Row 141 (bc b),true⟩]
        clear hx xx vs Ms
        (repeat (refine JE.next ?_))
        refine JC.ret ?_
        (skip)
        exact JE.kV rfl (RV.aT gx jh rfl .here rfl Row.all) (RV.tmp rfl) (RV.tmp rfl) fun w' hw=>.inr ⟨hw1,b1,rfl,AD hw⟩
    case true=>
    cases hl : (ak b).2.2.2
    case false=>
      have hw0 : bN b=false:=by unfold bN;rw [c1,decide_eq_true hc42,decide_eq_false (by have:=of_decide_eq_true c3;omega : ¬ cnt b=42),hl];rfl
      have hlc : (bX (ak b))[3]?=some (.bool false):=by rw [bX,hl];rfl
      repeat (first | refine JQ.q (by first|(apply OQ.az (cs:=bX (ak b));exact gx;exact jh;rfl;exact .here;rfl;exact Row.all)|(apply OQ.l9 (lo:=54);exact hb;exact Tryz.underlying141;exact iD;rfl;rfl;exact (by decide))|(apply OQ.aF (vs:=[(⟨some ⟨b1,0+54,none⟩,64 - 54,b.drop 54⟩ : aC).v]);exact bx;rfl;exact (fun w' hw'=>cE hw' (.there (.there .here))))|(apply OQ.Bg;rfl;rfl;exact c1)|(apply OQ.cD (b:=42);rfl;rfl;exact c2)|(apply OQ.gv (b:=42);rfl;rfl;exact c3)|(apply OQ.load;exact gL;rfl;exact .here;exact (Row.cell hlc))|(apply OQ.not;rfl)|(apply OQ.aJ;rfl;rfl)|(apply OQ.aS;rfl;rfl)|(apply OQ.move;rfl)|(apply OQ.aV;rfl;rfl;rfl;exact (by decide);rfl)) rfl ?_ | refine JQ.nil ?_ | refine JE.next ?_ | refine JQ.aB rfl rfl ?_)
      refine JC.cond_true rfl rfl ?_
      repeat (first | refine JL.q (by (apply OQ.oL)) rfl ?_ | refine JC.seq ?_ | refine JC.region ?_)
      refine JL.aq (cs:=bX (0,0,0,false)) jh rfl rfl rfl rfl (.there .here) rfl ?_
      repeat (first | refine JL.q (by (apply OQ.assign;rfl)) rfl ?_ | refine JL.nil ?_ | refine JE.next ?_)
      refine JC.ret ?_
      repeat (refine JE.aA ?_)
      exact JE.kV rfl (RV.aT gx jh rfl (.there .here) rfl Row.all) (RV.tmp rfl) (RV.tmp rfl) fun w' hw=>.inl ⟨hw0,rfl,hw.bf⟩
    case true=>
      have hw1 : bN b=true:=by unfold bN;rw [c1,decide_eq_true hc42,hl];simp
      have hlc : (bX (ak b))[3]?=some (.bool true):=by rw [bX,hl];rfl
      repeat (first | refine JQ.q (by first|(apply OQ.az (cs:=bX (ak b));exact gx;exact jh;rfl;exact .here;rfl;exact Row.all)|(apply OQ.l9 (lo:=54);exact hb;exact Tryz.underlying141;exact iD;rfl;rfl;exact (by decide))|(apply OQ.aF (vs:=[(⟨some ⟨b1,0+54,none⟩,64 - 54,b.drop 54⟩ : aC).v]);exact bx;rfl;exact (fun w' hw'=>cE hw' (.there (.there .here))))|(apply OQ.Bg;rfl;rfl;exact c1)|(apply OQ.cD (b:=42);rfl;rfl;exact c2)|(apply OQ.gv (b:=42);rfl;rfl;exact c3)|(apply OQ.load;exact gL;rfl;exact .here;exact (Row.cell hlc))|(apply OQ.not;rfl)|(apply OQ.aJ;rfl;rfl)|(apply OQ.aS;rfl;rfl)|(apply OQ.move;rfl)|(apply OQ.aV;rfl;rfl;rfl;exact (by decide);rfl)) rfl ?_ | refine JQ.nil ?_ | refine JE.next ?_ | refine JQ.aB rfl rfl ?_)
      refine JC.cond_false rfl rfl ?_
      (repeat (first | refine JC.seq ?_ | refine JC.skip ?_ | refine JE.next ?_))
      let vs : Nat→Nat→Value:=fun j y=>match j with
        | 0=>.agg (bX (ak b)).toArray
        | 1=>N (cnt b)
        | 2=>N (12+cnt b)
        | 3=>.slice (some ⟨b1,12,none⟩) (cnt b) 52
        | 5=>.slice (some ⟨b1,12,none⟩) (cnt b) 52
        | 6=>.bool true
        | _=>N 0
      let Ms : Nat→Nat→List ai:=fun j y=>match j with
        | 4=>[⟨b2,Row 219 (bX (ak b)),true⟩]
        | 7=>[⟨b5,Row 219 (bX (ak b)),true⟩]
        | 8=>[⟨b2,Row 219 (bX (0,0,0,false)),true⟩]
        | 9=>[⟨b1,Row 141 (bc b),true⟩]
        | _=>[]
      refine JC.grow (g:=⟨[(1,Pt b1 0),(2,Pt b2 0),(5,Pt b5 0),(6,N (cnt b))],10,vs,Ms,(fun j=>match j with | 2=>[(1,31)] | 3=>[(2,32)] | 4=>[(0,30)] | 5=>[(3,33)] | _=>[]),(fun j=>match j with | 0=>[7] | 4=>[8] | _=>[]),(fun j=>match j with | 4=>[8] | _=>[]),(fun j=>match j with | _=>none)⟩) [(5,3),(6,4)] [4,9] bZ (by repeat (first | exact ag.nil | refine ag.cons _ _ _ rfl ?_)) ?_ (by kernel_rfl) (by kernel_rfl) (by kernel_rfl) ?_ ?_
      · exact aj.refl _
      · refine ⟨?_,?_,?_,?_,?_,?_,?_,trivial⟩
        · (intro xx EF MF Q kk;(try refine JL.aB rfl rfl ?_);exact JL.q (OQ.az (cs:=bX (ak b)) gx jh rfl .here rfl Row.all) rfl (JL.nil (kk default nofun)))
        · (intro xx EF MF Q kk;(try refine JL.aB rfl rfl ?_);exact JL.q (OQ.move rfl) rfl (JL.nil (kk default nofun)))
        · (intro xx EF MF Q kk;(try refine JL.aB rfl rfl ?_);exact JL.q (OQ.addN (a:=12) rfl rfl (by omega)) rfl (JL.nil (kk default nofun)))
        · (intro xx EF MF Q kk;(try refine JL.aB rfl rfl ?_);exact JL.q (OQ.to (OQ.lN (lo:=12) (hi:=12+cnt b) Tryz.underlying141 iD rfl rfl rfl (by decide) (by omega) (by omega)) (by rw [Nat.add_sub_cancel_left];rfl)) rfl (JL.nil (kk default nofun)))
        · (intro xx EF MF Q kk;exact JL.aq (cs:=bX (ak b)) jh rfl rfl rfl rfl .here rfl (JL.nil (kk default nofun)))
        · (intro xx EF MF Q kk;(try refine JL.aB rfl rfl ?_);exact JL.q (OQ.assign rfl) rfl (JL.nil (kk default nofun)))
        · (intro xx EF MF Q kk;(try refine JL.aB rfl rfl ?_);exact JL.q (OQ.assign rfl) rfl (JL.nil (kk default nofun)))
      · intro xx hx
        show JE _ _ _ _ _ [(3,.slice (some ⟨b1,12,none⟩) (cnt b) 52),(4,.bool true),(1,Pt b1 0),(2,Pt b2 0),(5,Pt b5 0),(6,N (cnt b))] [⟨b2,Row 219 (bX (ak b)),true⟩,⟨b1,Row 141 (bc b),true⟩]
        clear hx xx vs Ms
        (repeat (refine JE.next ?_))
        refine JC.ret ?_
        (skip)
        exact JE.kV rfl (RV.aT gx jh rfl .here rfl Row.all) (RV.tmp rfl) (RV.tmp rfl) fun w' hw=>.inr ⟨hw1,b1,rfl,AD hw⟩
end
section
open Sl
theorem JL.less {P : Program} {n : Nat} {w0 : World} {S : List Nat} {ops : Array Oper} {Q : Exit→Act→World→Prop} {l : List Oper} {E : Env} {M M' : List ai} (hM : aj M' M) (h : JL P n w0 S ops Q l E M') : JL P n w0 S ops Q l E M:=
  ⟨fun a w ha hw=>h.go a w ha (hw.weak hM)⟩
def y5 (q : Acc) (rs : List aC) : tJ:=match q with
  | none=>⟨none,0,[]⟩
  | some p=>⟨some ⟨p.1,0,none⟩,p.2,rs⟩
theorem Bh (q : Acc) (rs : List aC) : (y5 q rs).v=ah q (rs.map aC.v).length:=by
  cases q with
  | none=>rfl
  | some p=>show Value.slice _ rs.length _=Value.slice _ (rs.map aC.v).length _;rw [List.length_map];rfl
theorem tZ {q : Acc} {rs : List aC} (h : q=none→rs=[]) : (y5 q rs).rs=rs:=by
  cases q with
  | none=>exact (h rfl).symm
  | some p=>rfl
theorem y6 {w0 w : World} {S : List Nat} {e : TypeId} {q : Acc} {rs : List aC} (hw : Holds w0 S (aa e q (rs.map aC.v)++ay rs) w) (h0 : ∀ x ∈ rs,x.ad=none→x.l=[]) : (y5 q rs).ok w:=by
  cases q with
  | none=>exact ⟨Nat.le_refl _,Reads.nil _ _,fun y hy=>by cases hy⟩
  | some p=>
    refine yP (e:=e) (A:=aa e (some p) (rs.map aC.v)) (wr:=true) hw ?_ h0
    show Has (⟨p.1,Sl.Own e 1 (rs.map aC.v).length p.2 (rs.map aC.v),true⟩::ay rs) _ _ _
    rw [List.length_map]
    exact .here
theorem nU {e : TypeId} (rs : List aC) (q : Acc) (l : List Bt) : aj (ay (rs++[aI q l])) (ay rs++aa e q (l.map U8)):=by
  unfold ay
  rw [List.flatMap_append]
  refine aE ?_ _
  show aj ((aI q l).dQ++[]) _
  rw [List.append_nil]
  exact nK q l
theorem sj (q : Acc) (k : Nat) : (ah q k).cells=#[ah q k]:=by cases q <;> rfl
theorem wV (q : Acc) (k : Nat) : (ah q k).oneCell'=true:=by cases q <;> rfl
end
section
set_option maxRecDepth 10000
open Sl cY dy
theorem oM : aL Tryz.prog 150:=⟨_,Tryz.func150,rfl,by kernel_rfl⟩
set_option maxHeartbeats 16000000 in
theorem qt (m : Mk) (s : aC) (w : World) (hs : s.ok w) (hl : s.l.length≤42) : Calls Tryz.prog 150 [.agg (bX m).toArray,s.v].toArray w fun e w'=>e=.returned (.agg (bc (br m s.l)).toArray)∧Ext w w':=by
  have hbl:=j7 (m:=m) hl
  refine enter (n:=26) Tryz.func150 rfl rfl rfl (Holds.start w []) ?_
  repeat (first | refine JC.seq ?_ | refine JC.region ?_)
  refine JL.box (r:=bX m) rfl rfl rfl fun b2 _=>?_
  refine JL.alloc CA rfl fun b4 _=>?_
  repeat (first | refine JL.q (by (apply OQ.az (cs:=bX m);exact gx;exact jh;rfl;exact (.there .here);rfl;exact Row.all)) rfl ?_ | refine JC.seq ?_ | refine JC.region ?_ | refine JL.nil ?_ | refine JE.next ?_)
  refine JL.bA (ι:=Nat × Nat) (vs:=[.agg (bX m).toArray]) (fun r=>ah (some r) (mb m).length) (fun r=>aa 5 (some r) ((mb m).map U8)) l8 rfl rfl (fun _=>aP _ _ _) (fun w' _=>nT m w') fun r1=>?_
  repeat (refine JL.q (by first|(apply OQ.len (k:=s.l.length) (ad:=s.ad) (cap:=s.cap);exact Tryz.underlying24;rfl)|(apply OQ.fq;exact Tryz.underlying3;exact Tryz.underlying90;rfl)|(apply OQ.move;rfl)) rfl ?_)
  rw [show BitVec.ofNat 64 s.l.length=(BitVec.ofNat 32 s.l.length).setWidth 64 from BitVec.eq_of_toNat_eq (by simp only [BitVec.toNat_setWidth,BitVec.toNat_ofNat];omega)]
  refine JL.jB (q:=some r1) (xs:=mb m) (m:=BitVec.ofNat 32 s.l.length) (size:=2) (by decide) (by decide) nofun (by rw [eo];decide) rfl rfl rfl rfl fun r2=>?_
  repeat (first | refine JL.q (by first|(apply OQ.move;rfl)|(apply OQ.assign;rfl)) rfl ?_ | refine JC.seq ?_ | refine JC.region ?_ | refine JL.nil ?_ | refine JE.next ?_)
  obtain ⟨y2,hy2⟩ : ∃ y2,mb m++be (BitVec.ofNat 32 s.l.length) 2=y2:=⟨_,rfl⟩
  have ly2 : y2.length=12:=by rw [← hy2,List.length_append,eo,bw]
  rw [hy2]
  refine JL.bM (xs:=y2.map U8) (cs:=s.l.map U8) (m:=s.l.length) (ad:=s.ad) (sc:=s.cap) (some r2) Tryz.underlying24 pJ nofun (by rw [List.length_map];rfl) rfl (by simp) (fun w' hw'=>(hs.holds hw' rfl).reads) (p6 _) rfl (by rw [List.length_map];omega) (by rw [List.length_map];omega) rfl fun q3 hq3=>?_
  cases q3 with
  | none=>have:=congrArg List.length (hq3 rfl);simp [ly2] at this
  | some r3=>
  rw [← List.map_append]
  obtain ⟨y3,hy3⟩ : ∃ y3,y2++s.l=y3:=⟨_,rfl⟩
  have ly3 : y3.length=12+s.l.length:=by rw [← hy3,List.length_append,ly2]
  rw [hy3,List.length_map]
  repeat (first | refine JL.q (by first|(apply OQ.len (k:=s.l.length) (ad:=s.ad) (cap:=s.cap);exact Tryz.underlying24;rfl)|(apply OQ.rJ (a:=42);rfl;rfl;exact hl;exact (by decide))|(apply OQ.move;rfl)|(apply OQ.assign;rfl)) rfl ?_ | refine JC.seq ?_ | refine JC.region ?_ | refine JL.nil ?_ | refine JE.next ?_)
  refine JL.yK (b:=r3.1) (cap:=r3.2) (k:=y3.length) (m:=42 - s.l.length) (xs:=y3.map U8) (fun b' cap'=>⟨b',Sl.Own 5 1 (y3.length+(42 - s.l.length)) cap' (y3.map U8++List.replicate (42 - s.l.length) (Value.int .u8 0)),true⟩::[⟨b4,Row 141 (List.replicate 64 (.int .u8 0)),true⟩,⟨b2,Row 219 (bX m),true⟩]) Tryz.underlying24 Tryz.underlying3 pJ rfl rfl (fun b' cap'=>by
    show dI (⟨r3.1,Sl.Own 5 1 (y3.map U8).length r3.2 (y3.map U8),true⟩::_) _ _ _ _ _
    rw [List.length_map]
    exact .here) (by omega) rfl fun b5 c5=>?_
  have e4 : y3.map U8++List.replicate (42 - s.l.length) (Value.int .u8 0)=(y3++List.replicate (42 - s.l.length) 0).map U8:=by rw [List.map_append,List.map_replicate];rfl
  obtain ⟨y4,hy4⟩ : ∃ y4,y3++List.replicate (42 - s.l.length) (0 : Bt)=y4:=⟨_,rfl⟩
  have ly4 : y4.length=54:=by rw [← hy4,List.length_append,List.length_replicate,ly3];omega
  have ly5 : y3.length+(42 - s.l.length)=(y4.map U8).length:=by rw [List.length_map,← hy4,List.length_append,List.length_replicate]
  rw [e4,hy4,ly5]
  repeat (first | refine JL.q (by first|(apply OQ.az (cs:=bX m);exact gx;exact jh;rfl;exact (.there (.there .here));rfl;exact Row.all)|(apply OQ.move;rfl)|(apply OQ.assign;rfl)) rfl ?_ | refine JC.seq ?_ | refine JC.region ?_ | refine JL.nil ?_ | refine JE.next ?_)
  refine JL.bA (ι:=Nat × Nat) (vs:=[.agg (bX m).toArray]) (fun r=>ah (some r) (mb m).length) (fun r=>aa 5 (some r) ((mb m).map U8)) l8 rfl rfl (fun _=>aP _ _ _) (fun w' _=>nT m w') fun r6=>?_
  refine JL.perm ?_ (List.Perm.swap _ _ _)
  refine JL.bM (xs:=y4.map U8) (cs:=(mb m).map U8) (m:=(mb m).length) (ad:=some ⟨r6.1,0,none⟩) (sc:=r6.2) (M:=⟨r6.1,Sl.Own 5 1 ((mb m).map U8).length r6.2 ((mb m).map U8),true⟩::[⟨b4,Row 141 (List.replicate 64 (.int .u8 0)),true⟩,⟨b2,Row 219 (bX m),true⟩]) (some (b5,c5)) Tryz.underlying24 pJ nofun rfl rfl (by simp) (fun w' hw'=>?_) (p6 _) rfl (by rw [List.length_map,ly4,eo];decide) (by rw [List.length_map,ly4,eo];decide) rfl fun q7 hq7=>?_
  · obtain ⟨o,ho,hA⟩:=hw'.get (b:=r6.1) (wr:=true) (.there .here)
    exact Reads.block ho (Sl.Own.cells o hA)
  cases q7 with
  | none=>have:=congrArg List.length (hq7 rfl);simp [ly4] at this
  | some r7=>
  rw [← List.map_append]
  have e5 : y4++mb m=br m s.l:=by rw [← hy4,← hy3,← hy2];rfl
  rw [e5]
  have l64 : ((br m s.l).map U8).length=64:=by rw [List.length_map,hbl]
  repeat (refine JL.q (by first|(apply OQ.arr (len:=((br m s.l).map U8).length) (cap:=r7.2) (ad:=some ⟨r7.1,0,none⟩);exact Tryz.underlying141;rfl;exact (by rw [l64];exact Nat.le_refl _))|(apply OQ.az (cs:=bc (br m s.l));exact qb;exact pK;rfl;exact .here;exact (cL hbl);exact Sl.Own.cells)) rfl ?_)
  refine JL.aq (cs:=bc (br m s.l)) pK rfl rfl (cL hbl) (eV _) (.there (.there .here)) rfl ?_
  repeat (first | refine JL.nil ?_ | refine JE.next ?_)
  exact JC.ret (JE.aR rfl (RV.aT qb pK rfl (.there (.there .here)) (cL hbl) Row.all) fun w' hw=>⟨rfl,hw.bf⟩)
def iO (x : Dp) (bl : List Bk) (pd : List (Nat × Bk)) : List ai:=
  [⟨x.p,Row 98 (iM x bl pd),false⟩,⟨x.q,Sl.Own 141 64 bl.length x.cap (kW bl).flatten,false⟩]
theorem sk {x : Dp} {bl : List Bk} {pd : List (Nat × Bk)} {u w : World} {S : List Nat} {M : List ai} (h : Holds u S (cg x bl pd++M) w) : Holds w [] (iO x bl pd) w:=
  (gH h).weak (.keep _ _ _ _ _ _ (fun _ h=>h) (.keep _ _ _ _ _ _ (fun _ h=>h) (.nil _)))
theorem bT {x : Dp} {bl : List Bk} {pd : List (Nat × Bk)} {u w : World} {S : List Nat} {A M : List ai} (h : Holds u S (A++(iO x bl pd++M)) w) : Holds w [] (iO x bl pd) w:=
  (gH (h.weak (bP A _))).weak (.keep _ _ _ _ _ _ (fun _ h=>h) (.keep _ _ _ _ _ _ (fun _ h=>h) (.nil _)))
theorem qu {x : Dp} {bl : List Bk} {pd : List (Nat × Bk)} {w0 w : World} {S : List Nat} {M : List ai} (hw : Holds w0 S (iO x bl pd++M) w) : w.cell? ⟨x.p,0,none⟩=some (.slice (some ⟨x.q,0,none⟩) bl.length x.cap):=by
  obtain ⟨o,ho,hA⟩:=hw.get (b:=x.p) (A:=Row 98 (iM x bl pd)) (wr:=false) .here
  exact cell_of ho (Row.cell rfl _ hA)
set_option maxHeartbeats 4000000 in
theorem sn (x : Dp) (bl : List Bk) (pd : List (Nat × Bk)) (n : Nat) (hn : n<bl.length) (ok : Ok bl pd) (w : World) (h : Holds w [] (iO x bl pd) w) :
    Calls Tryz.prog 275 [Pt x.p 0,N n].toArray w fun e w'=>e=.returned (.tuple #[.agg (bc (old bl n)).toArray,N 0])∧Ext w w':=by
  have hcl:=qu (M:=[]) (by rw [List.append_nil];exact h)
  have c:=fun w' (hx : Ext w w')=>tP x.p (some ⟨x.q,0,none⟩) bl.length x.cap n w' (by
    rw [World.cell?,hx.block x.p (block_lt_of_cell hcl) (by simp)]
    exact hcl)
  rw [decide_eq_true (show (0 : Int)≤n∧(n : Int)<bl.length by omega)] at c
  refine enter (n:=18) Tryz.func275 rfl rfl rfl h ?_
  repeat (first | refine JC.seq ?_ | refine JC.region ?_)
  refine JL.alloc CA rfl fun b4 _=>?_
  repeat (first | refine JL.q (by first|(apply OQ.aF (vs:=[Pt x.p 0,.int .i64 n]);exact qc;rfl;exact (fun w' hw=>c w' hw.bf))|(apply OQ.not;rfl)|(apply OQ.move;rfl)|(apply OQ.assign;rfl)) rfl ?_ | refine JC.seq ?_ | refine JC.region ?_ | refine JL.nil ?_ | refine JE.next ?_)
  refine JC.cond_false rfl rfl ?_
  repeat (first | refine JL.q (by first|(apply OQ.load;exact Az;rfl;exact (.there .here);exact (Row.cell (v:=.slice (some ⟨x.q,0,none⟩) bl.length x.cap) rfl))|(apply OQ.fc;exact Tryz.underlying95;exact pK;rfl;rfl;exact hn)|(apply OQ.move;rfl)|(apply OQ.aO;rfl)|(apply OQ.aV;rfl;rfl;rfl;exact (by decide);rfl)) rfl ?_ | refine JC.seq ?_ | refine JC.region ?_ | refine JC.skip ?_ | refine JE.next ?_)
  refine JL.q (v:=.agg (bc (old bl n)).toArray) (OQ.to (OQ.tK (L:=kW bl) (i:=n) qb pK rfl (Nat.zero_add _) (.there (.there .here)) (ld ok) (by rw [tM];exact hn)) (by rw [wA hn])) rfl ?_
  refine JL.aq (cs:=bc (old bl n)) pK rfl rfl (cL (ok.old hn)) (eV _) .here rfl ?_
  repeat (first | refine JL.q (by (apply OQ.assign;rfl)) rfl ?_ | refine JL.nil ?_ | refine JE.next ?_)
  refine JC.ret ?_
  skip
  exact JE.cw rfl (RV.aT qb pK rfl .here (cL (ok.old hn)) Row.all) (RV.tmp rfl) fun w' hw=>⟨rfl,hw.bf⟩
end
section
set_option maxRecDepth 10000
open Sl cY dy
structure Hf where
  x : Dp
  first : Nat
  size : Nat
  g : BitVec 32
  count : Nat
  used : Nat
def ia (x : Dp) : Value:=.iface 27 (Pt x.p 0)
def bp (h : Hf) : List Value:=[ia h.x,N h.first,N h.size,dN h.g,N h.count,N h.used]
theorem gM : dH Tryz.prog 158=some 6:=by kernel_rfl
theorem eL : jX Tryz.prog 158=true:=by kernel_rfl
theorem Bi : zc Tryz.prog 158=some [.nilIface,N 0,N 0,dN 0,N 0,N 0]:=by kernel_rfl
theorem AE : dP Tryz.prog 155=true:=by kernel_rfl
theorem sq (x : Dp) : ej Tryz.prog 27 (Pt x.p 0) "Read" 275:=by unfold ej;kernel_rfl
theorem oN (x : Dp) : ej Tryz.prog 27 (Pt x.p 0) "Size" 276:=by unfold ej;kernel_rfl
def er (bl : List Bk) (first size at' : Nat) : List Bk:=((bl.drop first).take size).drop at'
theorem gN {bl : List Bk} {first size at' : Nat} (h : first+size≤bl.length) : (er bl first size at').length=size - at':=by
  simp only [er,List.length_drop,List.length_take]
  omega
theorem y7 {bl : List Bk} {first size at' p : Nat} (h : first+size≤bl.length) (hp : p<size - at') : (er bl first size at').drop p=old bl (first+at'+p)::(er bl first size at').drop (p+1):=by
  have hl:=gN (at':=at') h
  rw [List.drop_eq_getElem_cons (by rw [hl];exact hp)]
  congr 1
  simp only [er,List.getElem_drop,List.getElem_take,old,List.getD_eq_getElem?_getD]
  rw [List.getElem?_eq_getElem (by omega : first+at'+p<bl.length)]
  simp only [Option.getD_some]
  congr 1
  omega
theorem jz {b : Bk} (hb : b.length=64) (hw : bN b=true) : (partOf b).length=cnt b∧cnt b≤42:=by
  unfold bN at hw
  simp only [Bool.and_eq_true,decide_eq_true_eq] at hw
  refine ⟨?_,hw.2.1⟩
  unfold partOf
  rw [List.length_take,List.length_drop,hb]
  have:=hw.2.1
  omega
def y8 (r : Option (Bk × Nat)) : Bk × Nat:=r.getD ([],0)
theorem sr {w0 w : World} {S : List Nat} {M : List ai} {b1 : Nat} {b : Bk} {wr : Bool} (hw : Holds w0 S M w) (hM : Has M b1 (Row 141 (bc b)) wr) (hc : (partOf b).length=cnt b) : Reads w (some ⟨b1,12,none⟩) ((partOf b).map U8):=by
  obtain ⟨o,ho,hA⟩:=hw.get hM
  refine Reads.block ho (Row.cells ?_ o hA)
  rw [List.length_map,hc]
  simp only [bc,partOf,List.map_take,List.map_drop]
theorem uW {b : Bk} (hb : b.length=64) (hwb : bN b=false) (w : World) : Calls Tryz.prog 179 [.agg (bc b).toArray].toArray w fun e w'=>e=.returned (.tuple #[.agg (bX (0,0,0,false)).toArray,.slice none 0 0,.bool false])∧Ext w w':=
  (me b hb w).mono fun e w2 hh=>by
    rcases hh with ⟨_,h1,h2⟩ | ⟨h1,_⟩
    · exact ⟨h1,h2⟩
    · rw [hwb] at h1;cases h1
theorem su {b : Bk} (hb : b.length=64) (hwb : bN b=true) (w : World) : Calls Tryz.prog 179 [.agg (bc b).toArray].toArray w fun e w'=>∃ b1 : Nat,e=.returned (.tuple #[.agg (bX (ak b)).toArray,.slice (some ⟨b1,12,none⟩) (cnt b) 52,.bool true])∧Holds w [] [⟨b1,Row 141 (bc b),true⟩] w':=
  (me b hb w).mono fun e w2 hh=>by
    rcases hh with ⟨h1,_⟩ | ⟨_,b1,h1,h2⟩
    · rw [hwb] at h1;cases h1
    · exact ⟨b1,h1,h2⟩
theorem uX : aL Tryz.prog 140:=⟨_,Tryz.func140,rfl,by kernel_rfl⟩
set_option maxHeartbeats 32000000 in
theorem wW (h : Hf) (bl : List Bk) (pd : List (Nat × Bk)) (at' num : Nat) (ok : Ok bl pd) (hn : bl.length≤65536) (hs : h.first+h.size≤bl.length) (ha : at'≤h.size) (w : World) (h0 : Holds w [] (iO h.x bl pd) w) :
    Calls Tryz.prog 140 [.agg (bp h).toArray,N at',N num].toArray w fun e w'=>∃ q : {q : Acc // q=none→(y8 (rd h.g num (er bl h.first h.size at') 0 [])).1=[]},e=.returned (.tuple #[ah q.1 (y8 (rd h.g num (er bl h.first h.size at') 0 [])).1.length,N (y8 (rd h.g num (er bl h.first h.size at') 0 [])).2])∧Holds w [] (aa 5 q.1 ((y8 (rd h.g num (er bl h.first h.size at') 0 [])).1.map U8)) w':=by
  obtain ⟨x,first,size,g,count,used⟩:=h
  dsimp only at hs ha h0 ⊢
  generalize hbs : er bl first size at'=bs
  have hbl : bs.length=size - at':=by rw [← hbs];exact gN hs
  have hat:=fun p (hp : p<size - at')=>y7 (bl:=bl) (first:=first) (size:=size) (at':=at') (p:=p) hs hp
  rw [hbs] at hat
  refine enter (n:=64) Tryz.func140 rfl rfl rfl h0 ?_
  repeat (first | refine JC.seq ?_ | refine JC.region ?_)
  refine JL.box (r:=bp ⟨x,first,size,g,count,used⟩) rfl rfl rfl fun b3 _=>?_
  repeat (first | refine JL.q (by first|(apply OQ.load;exact bI;rfl;exact .here;exact (Row.cell (v:=N size) rfl))|(apply OQ.rJ (a:=size);rfl;rfl;exact ha;exact (by omega))|(apply OQ.move;rfl)|(apply OQ.assign;rfl)|(apply OQ.aV;rfl;rfl;rfl;exact (by decide);rfl)) rfl ?_ | refine JC.seq ?_ | refine JC.region ?_ | refine JC.block ?_ | refine JL.nil ?_ | refine JE.next ?_)
  refine JC.loop (fun z : Nat × Acc × Bk=>[(1,N at'),(2,N num),(3,Pt b3 0),(8,ah z.2.1 z.2.2.length),(18,N (size - at')),(19,N z.1)]) (fun z=>aa 5 z.2.1 (z.2.2.map U8)++(⟨b3,Row 158 (bp ⟨x,first,size,g,count,used⟩),true⟩::iO x bl pd)) (fun z=>size - at' - z.1) (fun z=>z.1≤size - at'∧(z.2.1=none→z.2.2=[])∧z.2.2.length≤z.1 * 42∧rd g num bs 0 []=rd g num (bs.drop z.1) z.1 z.2.2) (0,none,[]) ⟨Nat.zero_le _,fun _=>rfl,Nat.le_refl _,rfl⟩ (by repeat (first | exact ag.nil | refine ag.cons _ _ _ rfl ?_)) (aj.refl _) ?_
  rintro ⟨p,q,acc⟩ ⟨hp,hq,hal,hr⟩
  dsimp only at hp hq hal hr ⊢
  repeat (first | refine JL.q (by (apply OQ.dX;rfl;rfl)) rfl ?_ | refine JC.seq ?_ | refine JC.region ?_ | refine JL.nil ?_ | refine JE.next ?_)
  refine JC.cond rfl (fun hc=>?_) (fun hc=>?_)
  · have hp' : p<size - at':=by have:=of_decide_eq_true hc;omega
    clear hc
    rw [hat p hp'] at hr
    have hix : first+at'+p<bl.length:=by omega
    have hb64 : (old bl (first+at'+p)).length=64:=ok.old hix
    have cR:=fun {u w' : World} {S : List Nat} {A : List ai} (hw' : Holds u S (A++(iO x bl pd++[])) w')=>sn x bl pd (first+at'+p) hix ok w' (bT hw')
    generalize old bl (first+at'+p)=b at hr hb64 cR
    repeat (first | refine JL.q (by first|(apply OQ.load;exact AE;rfl;exact (aG (N:=aa 5 q (acc.map U8)) .here);exact (Row.cell (v:=ia x) rfl))|(apply OQ.load;exact bI;rfl;exact (aG (N:=aa 5 q (acc.map U8)) .here);exact (Row.cell (v:=N first) rfl))|(apply OQ.inv (xs:=[_]);exact (sq x);rfl;exact (OQ.aF (vs:=[Pt x.p 0,N (first+at'+p)]) iW rfl (fun w' hw'=>cR (A:=aa 5 q (acc.map U8)++[⟨b3,Row 158 (bp ⟨x,first,size,g,count,used⟩),true⟩]) (by rw [List.append_assoc];exact hw'))))|(apply OQ.extract;rfl;rfl)|(apply OQ.move;rfl)|(apply OQ.assign;rfl)|(apply OQ.addN;rfl;rfl;exact (by (try simp only []);omega))|(apply OQ.aV;rfl;rfl;rfl;exact (by decide);rfl)) rfl ?_ | refine JC.seq ?_ | refine JC.region ?_ | refine JC.block ?_ | refine JC.skip ?_ | refine JL.nil ?_ | refine JE.next ?_)
    refine JL.alloc CA rfl fun b10 _=>?_
    refine JL.aq (cs:=bc b) pK rfl rfl (cL hb64) (eV _) .here rfl ?_
    repeat (first | refine JL.q (by first|(apply OQ.az (cs:=bc b);exact qb;exact pK;rfl;exact .here;exact (cL hb64);exact Row.all)|(apply OQ.assign;rfl)) rfl ?_ | refine JC.seq ?_ | refine JC.region ?_ | refine JL.nil ?_ | refine JE.next ?_)
    cases hwb : bN b
    case false=>
      rw [rd,if_neg (by rw [hwb];simp)] at hr
      rw [hr]
      repeat (refine JL.q (by first|(apply OQ.aF (vs:=[.agg (bc b).toArray]);exact kJ;rfl;exact (fun w' _=>uW hb64 hwb w'))|(apply OQ.extract;rfl;rfl)|(apply OQ.move;rfl)) rfl ?_)
      refine JL.alloc Cf rfl fun b12 _=>?_
      refine JL.aq (cs:=bX (0,0,0,false)) jh rfl rfl rfl rfl .here rfl ?_
      repeat (first | refine JL.q (by first|(apply OQ.not;rfl)|(apply OQ.aS;rfl;rfl)|(apply OQ.move;rfl)|(apply OQ.assign;rfl)) rfl ?_ | refine JC.seq ?_ | refine JC.region ?_ | refine JL.nil ?_ | refine JE.next ?_ | refine JL.bC rfl rfl rfl rfl ?_)
      refine JC.cond_true rfl rfl ?_
      repeat (first | refine JL.q (by (apply OQ.assign;rfl)) rfl ?_ | refine JC.seq ?_ | refine JC.region ?_ | refine JL.nil ?_ | refine JE.next ?_)
      refine JC.ret ?_
      repeat (first | refine JE.aA ?_ | refine JE.bV ?_)
      exact JE.cw rfl (RV.tmp rfl) (RV.tmp rfl) fun w' hw=>⟨⟨none,fun _=>rfl⟩,rfl,(⟨hw.bf,by simp,by simp⟩ : Holds w [] [] w')⟩
    case true=>
      have ⟨hpl,hc42⟩:=jz hb64 hwb
      refine JL.bA (ι:=Nat) (vs:=[.agg (bc b).toArray]) (fun b1=>.tuple #[.agg (bX (ak b)).toArray,.slice (some ⟨b1,12,none⟩) (cnt b) 52,.bool true]) (fun b1=>[⟨b1,Row 141 (bc b),true⟩]) kJ rfl rfl (fun _=>by simp) (fun w' _=>su hb64 hwb w') fun b1=>?_
      repeat (refine JL.q (by first|(apply OQ.extract;rfl;rfl)|(apply OQ.move;rfl)) rfl ?_)
      refine JL.alloc Cf rfl fun b12 _=>?_
      refine JL.aq (cs:=bX (ak b)) jh rfl rfl rfl rfl .here rfl ?_
      have hlc : (bX (ak b))[3]?=some (.bool (ak b).2.2.2):=rfl
      cases c1 : decide (ak b=(g,BitVec.ofNat 32 num,BitVec.ofNat 16 p,(ak b).2.2.2))
      case false=>
        rw [rd,if_neg (by rw [hwb];simpa using c1)] at hr
        rw [hr]
        repeat (first | refine JL.q (by first|(apply OQ.az (cs:=bX (ak b));exact gx;exact jh;rfl;exact .here;rfl;exact Row.all)|(apply OQ.load;exact iF;rfl;exact (aG (N:=[_,_,_]) (aG (N:=aa 5 q (acc.map U8)) .here));exact (Row.cell (v:=dN g) rfl))|(apply OQ.lP;exact Tryz.underlying3;exact Tryz.underlying156;rfl)|(apply OQ.l7;exact Tryz.underlying3;exact Tryz.underlying217;rfl)|(apply OQ.load;exact gL;rfl;exact .here;exact (Row.cell hlc))|(apply OQ.oK (m:=(g,BitVec.ofNat 32 num,BitVec.ofNat 16 p,(ak b).2.2.2));rfl;rfl;rfl;rfl)|(apply OQ.Bg;rfl;rfl;exact c1)|(apply OQ.not;rfl)|(apply OQ.aJ;rfl;rfl)|(apply OQ.move;rfl)|(apply OQ.assign;rfl)|(apply OQ.aV;rfl;rfl;rfl;exact (by decide);rfl)) rfl ?_ | refine JC.seq ?_ | refine JC.region ?_ | refine JL.nil ?_ | refine JE.next ?_ | refine JL.aB rfl rfl ?_)
        refine JC.cond_true rfl rfl ?_
        repeat (first | refine JL.q (by (apply OQ.assign;rfl)) rfl ?_ | refine JC.seq ?_ | refine JC.region ?_ | refine JL.nil ?_ | refine JE.next ?_)
        refine JC.ret ?_
        repeat (first | refine JE.aA ?_ | refine JE.bV ?_)
        exact JE.cw rfl (RV.tmp rfl) (RV.tmp rfl) fun w' hw=>⟨⟨none,fun _=>rfl⟩,rfl,(⟨hw.bf,by simp,by simp⟩ : Holds w [] [] w')⟩
      case true=>
        rw [rd,if_pos ⟨hwb,of_decide_eq_true c1⟩] at hr
        repeat (first | refine JL.q (by first|(apply OQ.az (cs:=bX (ak b));exact gx;exact jh;rfl;exact .here;rfl;exact Row.all)|(apply OQ.load;exact iF;rfl;exact (aG (N:=[_,_,_]) (aG (N:=aa 5 q (acc.map U8)) .here));exact (Row.cell (v:=dN g) rfl))|(apply OQ.lP;exact Tryz.underlying3;exact Tryz.underlying156;rfl)|(apply OQ.l7;exact Tryz.underlying3;exact Tryz.underlying217;rfl)|(apply OQ.load;exact gL;rfl;exact .here;exact (Row.cell hlc))|(apply OQ.oK (m:=(g,BitVec.ofNat 32 num,BitVec.ofNat 16 p,(ak b).2.2.2));rfl;rfl;rfl;rfl)|(apply OQ.Bg;rfl;rfl;exact c1)|(apply OQ.not;rfl)|(apply OQ.aJ;rfl;rfl)|(apply OQ.move;rfl)|(apply OQ.assign;rfl)|(apply OQ.aV;rfl;rfl;rfl;exact (by decide);rfl)) rfl ?_ | refine JC.seq ?_ | refine JC.region ?_ | refine JL.nil ?_ | refine JE.next ?_ | refine JL.aB rfl rfl ?_)
        refine JC.cond_false rfl rfl ?_
        repeat (first | refine JL.q (by (apply OQ.move;rfl)) rfl ?_ | refine JC.seq ?_ | refine JC.region ?_ | refine JC.skip ?_ | refine JE.next ?_)
        refine JL.perm (M':=aa 5 q (acc.map U8)++([⟨b12,Row 219 (bX (ak b)),true⟩,⟨b1,Row 141 (bc b),true⟩,⟨b10,Row 141 (bc b),true⟩]++(⟨b3,Row 158 (bp ⟨x,first,size,g,count,used⟩),true⟩::iO x bl pd))) ?_ (by exact List.perm_append_comm_assoc [_,_,_] _ _)
        refine JL.bM (xs:=acc.map U8) (cs:=(partOf b).map U8) (m:=cnt b) (ad:=some ⟨b1,12,none⟩) (sc:=52) q Tryz.underlying24 pJ (fun e=>by rw [hq e];rfl) (by rw [List.length_map];rfl) rfl (by rw [List.length_map,hpl]) (fun w' hw'=>sr hw' (aG (N:=aa 5 q (acc.map U8)) (.there .here)) hpl) (p6 _) rfl (by rw [List.length_map];omega) (by rw [List.length_map];omega) rfl fun q' hq'=>?_
        rw [← List.map_append] at hq' ⊢
        have hq2 : q'=none→acc++partOf b=[]:=fun e=>List.map_eq_nil_iff.1 (hq' e)
        have hal2 : (acc++partOf b).length≤(p+1) * 42:=by rw [List.length_append,hpl];omega
        clear hq' hq hal
        generalize acc++partOf b=acc2 at hq2 hal2 hr ⊢
        rw [List.length_map]
        repeat (first | refine JL.q (by first|(apply OQ.load;exact gL;rfl;exact (aG (N:=aa 5 q' (acc2.map U8)) .here);exact (Row.cell hlc))|(apply OQ.assign;rfl)|(apply OQ.aV;rfl;rfl;rfl;exact (by decide);rfl)) rfl ?_ | refine JC.seq ?_ | refine JC.region ?_ | refine JL.nil ?_ | refine JE.next ?_)
        refine JC.cond rfl (fun hl=>?_) (fun hl=>?_)
        · rw [if_pos hl] at hr
          rw [hr]
          repeat (first | refine JL.q (by first|(apply OQ.move;rfl)|(apply OQ.assign;rfl)|(apply OQ.addN;rfl;rfl;exact (by (try simp only []);omega))) rfl ?_ | refine JC.seq ?_ | refine JC.region ?_ | refine JL.nil ?_ | refine JE.next ?_)
          refine JC.ret ?_
          repeat (first | refine JE.aA ?_ | refine JE.bV ?_)
          exact JE.cw rfl (RV.tmp rfl) (RV.tmp rfl) fun w' hw=>⟨⟨q',hq2⟩,rfl,hw.weak (nO _ _)⟩
        · rw [if_neg (by rw [hl];decide)] at hr
          repeat (first | refine JL.q (by first|(apply OQ.move;rfl)|(apply OQ.addN;rfl;rfl;exact (by (try simp only []);omega))) rfl ?_ | refine JC.region ?_ | refine JC.skip ?_ | refine JL.nil ?_ | refine JE.next ?_ | refine JE.an ?_)
          exact JE.again (i:=(p,q,acc)) (p+1,q',acc2) ⟨hp',hq2,hal2,hr⟩ (by dsimp only;omega) (by repeat (first | exact ag.nil | refine ag.cons _ _ _ rfl ?_)) (dJ (aj.refl _) (.drop _ _ _ (.drop _ _ _ (.drop _ _ _ (aj.refl _)))))
  · have hp' : p=size - at':=by have:=of_decide_eq_false hc;omega
    rw [List.drop_of_length_le (by omega : bs.length≤p),rd] at hr
    rw [hr]
    repeat (first | refine JL.q (by (apply OQ.assign;rfl)) rfl ?_ | refine JC.seq ?_ | refine JC.region ?_ | refine JC.exit ?_ | refine JL.nil ?_ | refine JE.next ?_ | refine JE.aH ?_ | refine JE.aW ?_)
    exact JC.ret (JE.cw rfl (RV.tmp rfl) (RV.tmp rfl) fun w' hw=>⟨⟨none,fun _=>rfl⟩,rfl,(⟨hw.bf,by simp,by simp⟩ : Holds w [] [] w')⟩)
end
section
set_option maxRecDepth 10000
open Sl cY dy
structure Gr where
  q : Acc
  rs : List aC
  hq : q=none→rs=[]
  h0 : ∀ x ∈ rs,x.ad=none→x.l=[]
def Gr.v (z : Gr) : Value:=ah z.q z.rs.length
def Gr.l (z : Gr) : List Bk:=z.rs.map aC.l
def Gr.E (z : Gr) : List ai:=aa 24 z.q (z.rs.map aC.v)++ay z.rs
theorem gO (rs : List aC) : ∀ e ∈ ay rs,e.wr=true:=by
  intro e he
  unfold ay at he
  obtain ⟨x,_,h2⟩:=List.mem_flatMap.1 he
  unfold aC.dQ at h2
  split at h2
  · rw [List.mem_singleton.1 h2]
  · cases h2
theorem Gr.wr (z : Gr) : ∀ e ∈ z.E,e.wr=true:=by
  intro e he
  rcases List.mem_append.1 he with h | h
  · exact aP _ _ _ e h
  · exact gO _ e h
def Gr.s (z : Gr) : tJ:=y5 z.q z.rs
theorem Gr.sw (z : Gr) : z.s.v=z.v:=by unfold Gr.s;rw [Bh,List.length_map];rfl
theorem Gr.CI (z : Gr) : z.s.rs=z.rs:=tZ z.hq
theorem Gr.ok {z : Gr} {w0 w : World} {S : List Nat} (h : Holds w0 S z.E w) : z.s.ok w:=y6 h z.h0
theorem wX : EI Tryz.prog 24 (.slice none 0 0) 1 24:=by unfold EI;kernel_rfl
theorem nW : aL Tryz.prog 110:=⟨_,Tryz.func110,rfl,by kernel_rfl⟩
def gj (bl : List Bk) (first size : Nat) (g : BitVec 32) : List Bk:=told g (er bl first size 0)
theorem y9 {bl : List Bk} {first size : Nat} {g : BitVec 32} (h : first+size≤bl.length) : ∃ f,size - 0<f∧gj bl first size g=[]++iN g f (er bl first size 0) 0:=
  ⟨(er bl first size 0).length+1,by rw [gN h];exact Nat.lt_succ_self _,rfl⟩
theorem uY (bl : List Bk) (first size at' k : Nat) : (er bl first size at').drop k=er bl first size (at'+k):=by
  unfold er
  rw [List.drop_drop]
set_option maxHeartbeats 16000000 in
theorem qv (h : Hf) (bl : List Bk) (pd : List (Nat × Bk)) (ok : Ok bl pd) (hn : bl.length≤65536) (hs : h.first+h.size≤bl.length) (w : World) (h0 : Holds w [] (iO h.x bl pd) w) :
    Calls Tryz.prog 110 [.agg (bp h).toArray].toArray w fun e w'=>∃ z : {z : Gr // z.l=gj bl h.first h.size h.g∧z.rs.length≤h.size},e=.returned z.1.v∧Holds w [] z.1.E w':=by
  refine enter (n:=25) Tryz.func110 rfl rfl rfl h0 ?_
  repeat (first | refine JC.seq ?_ | refine JC.region ?_)
  refine JL.box (r:=bp h) rfl rfl rfl fun b1 _=>?_
  repeat (first | refine JL.q (by (apply OQ.assign;rfl)) rfl ?_ | refine JC.seq ?_ | refine JC.region ?_ | refine JC.block ?_ | refine JL.nil ?_ | refine JE.next ?_)
  refine JC.loop (fun z : Nat × Gr=>[(1,Pt b1 0),(3,z.2.v),(4,N z.1)]) (fun z=>aa 24 z.2.q (z.2.rs.map aC.v)++(ay z.2.rs++(⟨b1,Row 158 (bp h),true⟩::iO h.x bl pd))) (fun z=>h.size - z.1) (fun z=>z.1≤h.size∧z.2.rs.length≤z.1∧∃ f,h.size - z.1<f∧gj bl h.first h.size h.g=z.2.l++iN h.g f (er bl h.first h.size z.1) z.2.rs.length) (0,⟨none,[],fun _=>rfl,nofun⟩) ⟨Nat.zero_le _,Nat.le_refl _,y9 hs⟩ (by repeat (first | exact ag.nil | refine ag.cons _ _ _ rfl ?_)) (aj.refl _) ?_
  rintro ⟨at',q,rs,hq,hr0⟩ ⟨hat,hrl,f,hf,ht⟩
  dsimp only [Gr.v,Gr.l] at hat hrl hf ht ⊢
  obtain ⟨f,rfl⟩ : ∃ f',f=f'+1:=⟨f - 1,by omega⟩
  rw [iN] at ht
  have hq0 : q=none→rs.length=0:=fun e=>by rw [hq e];rfl
  repeat (first | refine JL.q (by first|(apply OQ.az (cs:=bp h);exact eL;exact gM;rfl;exact (aG (N:=aa 24 q (rs.map aC.v)) (aG (N:=ay rs) .here));rfl;exact Row.all)|(apply OQ.iV (q:=q) (k:=rs.length);exact Tryz.underlying137;exact hq0;rfl)|(apply OQ.move;rfl)) rfl ?_ | refine JC.seq ?_ | refine JC.region ?_ | refine JC.block ?_)
  have cR:=fun {u w' : World} {S : List Nat} {A : List ai} (hw' : Holds u S (A++(iO h.x bl pd++[])) w')=>wW h bl pd at' rs.length ok hn hs hat w' (bT hw')
  have hle:=fun rec k=>wG (g:=h.g) (r:=rs.length) (bs:=er bl h.first h.size at') (p:=0) (acc:=[]) (rec:=rec) (k:=k)
  rw [gN hs] at hle
  generalize rd h.g rs.length (er bl h.first h.size at') 0 []=r at ht cR hle
  refine JL.bA (ι:={q : Acc // q=none→(y8 r).1=[]}) (vs:=[.agg (bp h).toArray,N at',N rs.length]) (fun q=>.tuple #[ah q.1 (y8 r).1.length,N (y8 r).2]) (fun q=>aa 5 q.1 ((y8 r).1.map U8)) uX rfl rfl (fun _=>aP _ _ _) (fun w' hw'=>cR (A:=aa 24 q (rs.map aC.v)++(ay rs++[⟨b1,Row 158 (bp h),true⟩])) (by rw [List.append_assoc,List.append_assoc];exact hw')) fun q1=>?_
  obtain ⟨q1,hq1⟩:=q1
  dsimp only
  cases r with
  | none=>
    dsimp only at ht
    rw [List.append_nil] at ht
    repeat (first | refine JL.q (by first|(apply OQ.extract;rfl;rfl)|(apply OQ.Dq;rfl;rfl)|(apply OQ.move;rfl)|(apply OQ.assign;rfl)) rfl ?_ | refine JC.seq ?_ | refine JC.region ?_ | refine JL.nil ?_ | refine JE.next ?_)
    refine JC.cond_true rfl rfl ?_
    repeat (first | refine JL.q (by first|(apply OQ.move;rfl)|(apply OQ.assign;rfl)) rfl ?_ | refine JC.seq ?_ | refine JC.region ?_ | refine JL.nil ?_ | refine JE.next ?_)
    refine JC.ret ?_
    repeat (first | refine JE.aA ?_ | refine JE.bV ?_)
    exact JE.aR rfl (RV.tmp rfl) fun w' hw=>⟨⟨⟨q,rs,hq,hr0⟩,ht.symm,by show rs.length≤h.size;omega⟩,rfl,hw.weak (av _ (dJ (aj.refl _) (ax _ _)))⟩
  | some rk=>
    obtain ⟨rec,k⟩:=rk
    have hk:=hle rec k rfl
    dsimp only [y8,Option.getD_some] at ht hq1 ⊢
    rw [uY] at ht
    have hk0 : decide (((k : Nat) : Int)=0)=false:=decide_eq_false (by omega)
    repeat (first | refine JL.q (by first|(apply OQ.extract;rfl;rfl)|(apply OQ.iC (b:=0);rfl;rfl;exact hk0)|(apply OQ.move;rfl)|(apply OQ.assign;rfl)) rfl ?_ | refine JC.seq ?_ | refine JC.region ?_ | refine JL.nil ?_ | refine JE.next ?_)
    refine JC.cond_false rfl rfl ?_
    repeat (first | refine JL.q (by (apply OQ.move;rfl)) rfl ?_ | refine JC.seq ?_ | refine JC.region ?_ | refine JC.skip ?_ | refine JE.next ?_)
    refine JL.perm (M':=aa 24 q (rs.map aC.v)++(ay rs++(aa 5 q1 (rec.map U8)++(⟨b1,Row 158 (bp h),true⟩::iO h.x bl pd)))) ?_ (by exact (List.perm_append_comm_assoc (aa 5 q1 (rec.map U8)) _ _).trans (List.Perm.append_left _ (List.perm_append_comm_assoc (aa 5 q1 (rec.map U8)) _ _)))
    refine JL.gu (v:=ah q1 rec.length) Tryz.underlying137 wX rfl rfl (sj _ _) rfl fun bl2 _=>?_
    refine JL.perm (M':=aa 24 q (rs.map aC.v)++(⟨bl2,Row 24 [ah q1 rec.length],true⟩::(ay rs++(aa 5 q1 (rec.map U8)++(⟨b1,Row 158 (bp h),true⟩::iO h.x bl pd))))) ?_ (by exact List.perm_append_comm_assoc [_] _ _)
    refine JL.bM (xs:=rs.map aC.v) (cs:=[ah q1 rec.length]) (m:=1) (ad:=some ⟨bl2,0,none⟩) (sc:=1) q Tryz.underlying137 wX (fun h=>by rw [hq h];rfl) (by rw [List.length_map];rfl) rfl rfl (fun w' hw'=>?_) (fun v hv=>by rw [List.mem_singleton.1 hv];exact wV _ _) rfl (by rw [List.length_map];omega) (by rw [List.length_map];omega) rfl fun q3 hq3=>?_
    · obtain ⟨o,ho,hA⟩:=(hw'.weak (av _ (aj.refl _))).get (b:=bl2) (A:=Row 24 [ah q1 rec.length]) (wr:=true) .here
      exact Reads.block ho (Row.all _ hA)
    have eM : rs.map aC.v++[ah q1 rec.length]=(rs++[aI q1 rec]).map aC.v:=by
      rw [List.map_append,List.map_singleton,iT]
    rw [eM] at hq3 ⊢
    have hq4 : q3=none→rs++[aI q1 rec]=[]:=fun e=>List.map_eq_nil_iff.1 (hq3 e)
    have hr4 : ∀ x ∈ rs++[aI q1 rec],x.ad=none→x.l=[]:=by
      intro x hx hn
      rcases List.mem_append.1 hx with hx | hx
      · exact hr0 x hx hn
      · rw [List.mem_singleton.1 hx] at hn ⊢
        cases q1 with
        | none=>rfl
        | some p=>cases hn
    have hl4 : (rs++[aI q1 rec]).map aC.l=rs.map aC.l++[rec]:=by
      rw [List.map_append,List.map_singleton,gI (fun e=>(hq1 e))]
    rw [List.length_map]
    repeat (first | refine JL.q (by first|(apply OQ.addN (a:=at');rfl;rfl;exact (by omega))|(apply OQ.move;rfl)|(apply OQ.assign;rfl)) rfl ?_ | refine JC.region ?_ | refine JL.nil ?_ | refine JE.next ?_ | refine JE.an ?_)
    refine JE.again (i:=(at',⟨q,rs,hq,hr0⟩)) (at'+k,⟨q3,rs++[aI q1 rec],hq4,hr4⟩) ⟨by dsimp only;omega,by dsimp only;rw [List.length_append,List.length_singleton];omega,f,by dsimp only;omega,?_⟩ (by dsimp only;omega) (by repeat (first | exact ag.nil | refine ag.cons _ _ _ rfl ?_)) ?_
    · dsimp only [Gr.l]
      rw [hl4,ht,List.append_assoc,List.length_append]
      rfl
    · dsimp only
      exact dJ (aj.refl _) (.drop _ _ _ (by rw [← List.append_assoc];exact dJ (nU rs q1 rec) (aj.refl _)))
end
section
set_option maxRecDepth 10000
open Sl cY dy
section
variable {n : Nat} {E : Env} {C : World→Prop} {dst : Option Tmp} {ty t t' t'' : TypeId} {pos : String} {aft : Array Edge} {g : Option (Nat × Bool)} {x1 x2 x3 x4 : Operand}
theorem OQ.oO {m : Mk} (hx : ev E x1=some (.agg (bX m).toArray)) : OQ Tryz.prog n E C ⟨dst,.field 219 x1 0,ty,pos,aft,g⟩ (dN m.1):=
  OQ.run fun a ha w _=>by
    have h1:=ha.eval hx
    have h2 : (Instr.field 219 (.agg (bX m).toArray) 0).run Tryz.prog w=.ok (dN m.1) w:=fJ (by kernel_rfl)
    simp [execOp,h1,h2]
theorem OQ.Bj {x : Dp} (hx : ev E x1=some (Pt x.p 0)) : OQ Tryz.prog n E C ⟨dst,.makeInterface 27 x1,ty,pos,aft,g⟩ (ia x):=
  OQ.run fun a ha w _=>by
    have h1:=ha.eval hx
    have h2 : (Instr.makeInterface 27 (Pt x.p 0)).run Tryz.prog w=.ok (ia x) w:=fJ (by kernel_rfl)
    simp [execOp,h1,h2]
def j8 : List Value:=[.nilIface,N 0,N 0,dN 0,N 0,N 0]
theorem OQ.zb {h : Hf} (h1 : ev E x1=some (ia h.x)) (h2 : ev E x2=some (N h.first)) (h3 : ev E x3=some (N h.size)) (h4 : ev E x4=some (dN h.g)) :
    OQ Tryz.prog n E C ⟨dst,.build 158 #[(0,x1),(1,x2),(2,x3),(3,x4)],ty,pos,aft,g⟩ (.agg (bp ⟨h.x,h.first,h.size,h.g,0,0⟩).toArray):=
  OQ.run fun a ha w _=>by
    have e1:=ha.eval h1
    have e2:=ha.eval h2
    have e3:=ha.eval h3
    have e4:=ha.eval h4
    have r:=run_build (P:=Tryz.prog) w 158 #[(0,ia h.x),(1,N h.first),(2,N h.size),(3,dN h.g)] (bp ⟨h.x,h.first,h.size,h.g,0,0⟩).toArray (by kernel_rfl)
    simp [execOp,e1,e2,e3,e4,r]
theorem OQ.ze {h : Hf} (h1 : ev E x1=some (ia h.x)) (h2 : ev E x2=some (N h.first)) (h3 : ev E x3=some (N h.size)) :
    OQ Tryz.prog n E C ⟨dst,.build 158 #[(0,x1),(1,x2),(2,x3)],ty,pos,aft,g⟩ (.agg (bp ⟨h.x,h.first,h.size,0,0,0⟩).toArray):=
  OQ.run fun a ha w _=>by
    have e1:=ha.eval h1
    have e2:=ha.eval h2
    have e3:=ha.eval h3
    have r:=run_build (P:=Tryz.prog) w 158 #[(0,ia h.x),(1,N h.first),(2,N h.size)] (bp ⟨h.x,h.first,h.size,0,0,0⟩).toArray (by kernel_rfl)
    simp [execOp,e1,e2,e3,r]
theorem OQ.Bl {h : Hf} (h1 : ev E x1=some (.agg (bp h).toArray)) : OQ Tryz.prog n E C ⟨dst,.build 160 #[(0,x1)],ty,pos,aft,g⟩ (.agg (bp h).toArray):=
  OQ.run fun a ha w _=>by
    have e1:=ha.eval h1
    have r:=run_build (P:=Tryz.prog) w 160 #[(0,.agg (bp h).toArray)] (bp h).toArray (by kernel_rfl)
    simp [execOp,e1,r]
def mx (a b : BitVec 32) : BitVec 32:=if a.toNat<b.toNat then b else a
theorem OQ.AF {a b c : BitVec 32} (h1 : ev E x1=some (dN a)) (h2 : ev E x2=some (dN b)) (h3 : ev E x3=some (dN c)) : OQ Tryz.prog n E C ⟨dst,.call ⟨.builtin .max,#[x1,x2,x3],#[t,t',t'']⟩,ty,pos,aft,g⟩ (dN (mx (mx a b) c)):=
  OQ.run fun ac ha w _=>by
    have e1:=ha.eval h1
    have e2:=ha.eval h2
    have e3:=ha.eval h3
    unfold mx
    by_cases h : a.toNat<b.toNat <;> by_cases h' : (if a.toNat<b.toNat then b else a).toNat<c.toNat <;> simp [h] at h' <;> simp [execOp,e1,e2,e3,resolve,invoke,builtin,Builtin.max_,Builtin.max2,Sem.run_bind,h,h'] <;> (try split <;> rfl)
end
theorem eX : aL Tryz.prog 276:=⟨_,Tryz.func276,rfl,by kernel_rfl⟩
theorem oP (x : Dp) (bl : List Bk) (pd : List (Nat × Bk)) (w : World) (h : Holds w [] (iO x bl pd) w) : Calls Tryz.prog 276 [Pt x.p 0].toArray w fun e w'=>e=.returned (N bl.length)∧Ext w w':=
  uI x.p _ _ _ w (qu (M:=[]) (by rw [List.append_nil];exact h))
theorem qw : aL Tryz.prog 142:=⟨_,Tryz.func142,rfl,by kernel_rfl⟩
set_option maxHeartbeats 16000000 in
theorem sx (x : Dp) (bl : List Bk) (pd : List (Nat × Bk)) (first : Nat) (ok : Ok bl pd) (hn : bl.length≤65536) (hf : first<bl.length) (hs : first+bl.length / 2≤bl.length) (w : World) (h0 : Holds w [] (iO x bl pd) w) :
    Calls Tryz.prog 142 [ia x,N first].toArray w fun e w'=>∃ z : {z : Gr // z.l=gj bl first (bl.length / 2) (ak (old bl first)).1∧z.rs.length≤bl.length / 2},e=.returned (.tuple #[.agg (bp ⟨x,first,bl.length / 2,if z.1.rs.length=0 then 0 else (ak (old bl first)).1,0,0⟩).toArray,z.1.v])∧Holds w [] z.1.E w':=by
  have hb : (old bl first).length=64:=ok.old hf
  have cR:=fun {u w' : World} {S : List Nat} {A : List ai} (hw' : Holds u S (A++(iO x bl pd++[])) w')=>sn x bl pd first hf ok w' (bT hw')
  have cT:=fun g {u w' : World} {S : List Nat} {M : List ai} (hw' : Holds u S (iO x bl pd++M) w')=>qv ⟨x,first,bl.length / 2,g,0,0⟩ bl pd ok hn hs w' (bT (A:=[]) hw')
  generalize old bl first=b at hb cR ⊢
  refine enter (n:=33) Tryz.func142 rfl rfl rfl h0 ?_
  repeat (first | refine JC.seq ?_ | refine JC.region ?_)
  refine JL.alloc (r:=j8) Bi rfl fun b4 _=>?_
  repeat (first | refine JL.q (by first|(apply OQ.inv (xs:=[_]);exact (sq x);rfl;exact (OQ.aF (vs:=[Pt x.p 0,N first]) iW rfl (fun w' hw'=>cR (A:=[_]) hw')))|(apply OQ.extract;rfl;rfl)|(apply OQ.move;rfl)|(apply OQ.assign;rfl)) rfl ?_ | refine JC.seq ?_ | refine JC.region ?_ | refine JL.nil ?_ | refine JE.next ?_)
  refine JL.alloc CA rfl fun b6 _=>?_
  refine JL.aq (cs:=bc b) pK rfl rfl (cL hb) (eV _) .here rfl ?_
  repeat (first | refine JL.q (by (apply OQ.assign;rfl)) rfl ?_ | refine JC.seq ?_ | refine JL.nil ?_ | refine JE.next ?_)
  let vs : Nat→Nat→Value:=fun j y=>match j with
    | 0=>ia x
    | 1=>N first
    | 2=>ia x
    | 3=>N bl.length
    | 4=>N (bl.length / 2)
    | 5=>(⟨some ⟨b6,0,none⟩,64,b⟩ : aC).v
    | 6=>.agg (bX (ak b)).toArray
    | 7=>dN (ak b).1
    | 8=>.agg (bp ⟨x,first,bl.length / 2,(ak b).1,0,0⟩).toArray
    | 9=>Pt y 0
    | _=>N 0
  let Ms : Nat→Nat→List ai:=fun j y=>match j with
    | 9=>[⟨y,Row 158 j8,true⟩]
    | 10=>[⟨y,Row 158 (bp ⟨x,first,bl.length / 2,(ak b).1,0,0⟩),true⟩]
    | 11=>[⟨b6,Row 141 (bc b),true⟩]
    | 12=>[⟨b4,Row 158 j8,true⟩]
    | 13=>iO x bl pd
    | _=>[]
  refine JC.grow (g:=⟨[(0,ia x),(1,N first),(4,Pt b4 0),(6,Pt b6 0),(5,.slice none 0 0)],14,vs,Ms,(fun j=>match j with | 3=>[(2,18)] | 4=>[(3,19)] | 6=>[(5,21)] | 7=>[(6,22)] | 8=>[(0,16),(1,17),(4,20),(7,23)] | 10=>[(9,8),(8,24)] | _=>[]),(fun j=>match j with | 3=>[13] | 6=>[11] | 10=>[9] | _=>[]),(fun j=>match j with | 10=>[9] | _=>[]),(fun j=>match j with | 10=>some 9 | _=>none)⟩) [(9,8)] [10,11,12,13] bZ (by repeat (first | exact ag.nil | refine ag.cons _ _ _ rfl ?_)) ?_ (by kernel_rfl) (by kernel_rfl) (by kernel_rfl) ?_ ?_
  · exact aj.refl _
  · refine ⟨?_,?_,?_,?_,?_,?_,?_,?_,?_,?_,?_,trivial⟩
    · (intro xx EF MF Q kk;(try refine JL.aB rfl rfl ?_);exact JL.q (OQ.move rfl) rfl (JL.nil (kk default nofun)))
    · (intro xx EF MF Q kk;(try refine JL.aB rfl rfl ?_);exact JL.q (OQ.move rfl) rfl (JL.nil (kk default nofun)))
    · (intro xx EF MF Q kk;(try refine JL.aB rfl rfl ?_);exact JL.q (OQ.move rfl) rfl (JL.nil (kk default nofun)))
    · (intro xx EF MF Q kk;(try refine JL.aB rfl rfl ?_);exact JL.q (OQ.inv (xs:=[]) (oN x) rfl (OQ.aF (vs:=[Pt x.p 0]) eX rfl (fun w' hw'=>oP x bl pd w' (bT (A:=[]) hw')))) rfl (JL.nil (kk default nofun)))
    · (intro xx EF MF Q kk;(try refine JL.aB rfl rfl ?_);exact JL.q (OQ.wg (b:=2) rfl rfl (by decide) (by omega)) rfl (JL.nil (kk default nofun)))
    · (intro xx EF MF Q kk;(try refine JL.aB rfl rfl ?_);exact JL.q (OQ.tY hb Tryz.underlying141 iD rfl) rfl (JL.nil (kk default nofun)))
    · (intro xx EF MF Q kk;(try refine JL.aB rfl rfl ?_);exact JL.q (OQ.aF (vs:=[(⟨some ⟨b6,0,none⟩,64,b⟩ : aC).v]) bx rfl (fun w' hw'=>ep _ w' (rO hw' .here rfl (by omega)) (by show 10≤b.length;omega) (by show b.length≤64;omega))) rfl (JL.nil (kk default nofun)))
    · (intro xx EF MF Q kk;(try refine JL.aB rfl rfl ?_);exact JL.q (OQ.oO rfl) rfl (JL.nil (kk default nofun)))
    · (intro xx EF MF Q kk;(try refine JL.aB rfl rfl ?_);exact JL.q (OQ.zb (h:=⟨x,first,bl.length / 2,(ak b).1,0,0⟩) rfl rfl rfl rfl) rfl (JL.nil (kk default nofun)))
    · (intro xx EF MF Q kk;exact JL.alloc Bi rfl fun b _=>JL.nil (kk b nofun))
    · (intro xx EF MF Q kk;exact JL.aq (cs:=bp ⟨x,first,bl.length / 2,(ak b).1,0,0⟩) gM rfl rfl rfl rfl .here rfl (JL.nil (kk (xx 9) (fun k h=>by cases h;rfl))))
  · intro xx hx
    have e10:=hx 10 9 (by decide) rfl
    show JE _ _ _ _ _ [(8,Pt (xx 9) 0),(0,ia x),(1,N first),(4,Pt b4 0),(6,Pt b6 0),(5,.slice none 0 0)] (⟨xx 10,Row 158 (bp ⟨x,first,bl.length / 2,(ak b).1,0,0⟩),true⟩::⟨b6,Row 141 (bc b),true⟩::⟨b4,Row 158 j8,true⟩::iO x bl pd)
    rw [e10]
    generalize xx 9=b8
    clear hx e10 xx vs Ms
    generalize hhh : (⟨x,first,bl.length / 2,(ak b).1,0,0⟩ : Hf)=hh
    have eg : hh.g=(ak b).1:=by rw [← hhh]
    repeat (first | refine JL.q (by (apply OQ.az (cs:=bp hh);exact eL;exact gM;rfl;exact .here;rfl;exact Row.all)) rfl ?_ | refine JC.seq ?_ | refine JC.region ?_ | refine JE.next ?_)
    refine JL.bA (ι:={z : Gr // z.l=gj bl first (bl.length / 2) (ak b).1∧z.rs.length≤bl.length / 2}) (vs:=[.agg (bp hh).toArray]) (fun z=>z.1.v) (fun z=>z.1.E) nW rfl rfl (fun z=>z.1.wr) (fun w' hw'=>by rw [← hhh] at hw' ⊢;exact cT (ak b).1 (M:=[]) (hw'.weak (.drop _ _ _ (.drop _ _ _ (.drop _ _ _ (aj.refl _)))))) fun z=>?_
    refine JL.perm (M':=[⟨b8,Row 158 (bp hh),true⟩,⟨b6,Row 141 (bc b),true⟩,⟨b4,Row 158 j8,true⟩]++(z.1.E++iO x bl pd)) ?_ (by exact List.perm_append_comm_assoc _ [_,_,_] _)
    obtain ⟨⟨q,rs,hq,hr0⟩,hz⟩:=z
    have hq0 : q=none→rs.length=0:=fun e=>by rw [hq e];rfl
    dsimp only [Gr.v]
    repeat (first | refine JL.q (by first|(apply OQ.iV (q:=q) (k:=rs.length);exact Tryz.underlying137;exact hq0;rfl)|(apply OQ.Dq;rfl;rfl)|(apply OQ.move;rfl)|(apply OQ.assign;rfl)) rfl ?_ | refine JC.seq ?_ | refine JC.region ?_ | refine JL.nil ?_ | refine JE.next ?_)
    refine JC.cond rfl (fun hc=>?_) (fun hc=>?_)
    · have hc0:=of_decide_eq_true hc
      repeat (first | refine JL.q (by (apply OQ.aV;rfl;rfl;rfl;exact (by decide);rfl)) rfl ?_ | refine JC.region ?_)
      refine JL.bK (b:=b8) (r:=bp hh) (r':=bp ⟨x,first,bl.length / 2,0,0,0⟩) CE rfl rfl rfl rfl .here (show 3<6 by decide) (by rw [← hhh];rfl) ?_
      repeat (first | refine JL.q (by first|(apply OQ.az (cs:=bp ⟨x,first,bl.length / 2,0,0,0⟩);exact eL;exact gM;rfl;exact .here;rfl;exact Row.all)|(apply OQ.move;rfl)) rfl ?_ | refine JC.seq ?_ | refine JC.region ?_ | refine JL.nil ?_ | refine JE.next ?_)
      refine JL.aq (cs:=bp ⟨x,first,bl.length / 2,0,0,0⟩) gM rfl rfl rfl rfl (.there (.there .here)) rfl ?_
      repeat (first | refine JL.q (by (apply OQ.assign;rfl)) rfl ?_ | refine JL.nil ?_ | refine JE.next ?_)
      refine JC.ret ?_
      exact JE.cw rfl (RV.aT eL gM rfl (.there (.there .here)) rfl Row.all) (RV.tmp rfl) fun w' hw=>⟨⟨⟨q,rs,hq,hr0⟩,hz⟩,by dsimp only;rw [if_pos hc0],hw.weak (.drop _ _ _ (.drop _ _ _ (.drop _ _ _ (ax _ _))))⟩
    · have hc0:=of_decide_eq_false hc
      repeat (first | refine JL.q (by first|(apply OQ.az (cs:=bp hh);exact eL;exact gM;rfl;exact .here;rfl;exact Row.all)|(apply OQ.move;rfl)) rfl ?_ | refine JC.seq ?_ | refine JC.region ?_ | refine JC.skip ?_ | refine JE.next ?_)
      refine JL.aq (cs:=bp hh) gM rfl rfl rfl rfl (.there (.there .here)) rfl ?_
      repeat (first | refine JL.q (by (apply OQ.assign;rfl)) rfl ?_ | refine JL.nil ?_ | refine JE.next ?_)
      refine JC.ret ?_
      exact JE.cw rfl (RV.aT eL gM rfl (.there (.there .here)) rfl Row.all) (RV.tmp rfl) fun w' hw=>⟨⟨⟨q,rs,hq,hr0⟩,hz⟩,by dsimp only;rw [if_neg hc0,hhh],hw.weak (.drop _ _ _ (.drop _ _ _ (.drop _ _ _ (ax _ _))))⟩
def gm (bl : List Bk) : BitVec 32:=bl.foldl (fun m b=>mx (mx m (ak b).1) (ak (b.drop 54)).1) 0
theorem CJ {bl : List Bk} {p : Nat} (h : p<bl.length) : gm (bl.take (p+1))=mx (mx (gm (bl.take p)) (ak (old bl p)).1) (ak ((old bl p).drop 54)).1:=by
  have : bl.take (p+1)=bl.take p++[old bl p]:=by
    rw [List.take_add_one]
    simp [old,List.getD_eq_getElem?_getD,h]
  rw [this,gm,List.foldl_append]
  rfl
theorem gP : aL Tryz.prog 111:=⟨_,Tryz.func111,rfl,by kernel_rfl⟩
def qy (bl : List Bk) : Value:=if gm bl=4294967295#32 then .tuple #[dN 0,N 6] else .tuple #[dN (gm bl+1#32),N 0]
set_option maxHeartbeats 16000000 in
theorem iX (x : Dp) (bl : List Bk) (pd : List (Nat × Bk)) (ok : Ok bl pd) (hn : bl.length≤65536) (w : World) (h0 : Holds w [] (iO x bl pd) w) :
    Calls Tryz.prog 111 [ia x].toArray w fun e w'=>e=.returned (qy bl)∧Ext w w':=by
  refine enter (n:=32) Tryz.func111 rfl rfl rfl h0 ?_
  repeat (first | refine JL.q (by first|(apply OQ.inv (xs:=[]);exact (oN x);rfl;exact (OQ.aF (vs:=[Pt x.p 0]) eX rfl (fun w' hw'=>oP x bl pd w' (bT (A:=[]) (M:=[]) hw'))))|(apply OQ.move;rfl)|(apply OQ.assign;rfl)) rfl ?_ | refine JC.seq ?_ | refine JC.region ?_ | refine JC.block ?_ | refine JL.nil ?_ | refine JE.next ?_)
  refine JC.loop (fun z : Nat=>[(0,ia x),(4,dN (gm (bl.take z))),(9,N bl.length),(10,N z)]) (fun _=>iO x bl pd) (fun z=>bl.length - z) (fun z=>z≤bl.length) 0 (Nat.zero_le _) (by repeat (first | exact ag.nil | refine ag.cons _ _ _ rfl ?_)) (aj.refl _) ?_
  intro p hp
  repeat (first | refine JL.q (by (apply OQ.dX;rfl;rfl)) rfl ?_ | refine JC.seq ?_ | refine JC.region ?_ | refine JL.nil ?_ | refine JE.next ?_)
  refine JC.cond rfl (fun hc=>?_) (fun hc=>?_)
  · have hp' : p<bl.length:=by have:=of_decide_eq_true hc;omega
    clear hc
    have hg:=CJ hp'
    have hb : (old bl p).length=64:=ok.old hp'
    have cR:=fun {u w' : World} {S : List Nat} {A : List ai} (hw' : Holds u S (A++(iO x bl pd++[])) w')=>sn x bl pd p hp' ok w' (bT hw')
    generalize old bl p=b at hb cR hg
    repeat (first | refine JL.q (by first|(apply OQ.inv (xs:=[_]);exact (sq x);rfl;exact (OQ.aF (vs:=[Pt x.p 0,N p]) iW rfl (fun w' hw'=>cR (A:=[]) hw')))|(apply OQ.extract;rfl;rfl)|(apply OQ.move;rfl)|(apply OQ.assign;rfl)) rfl ?_ | refine JC.seq ?_ | refine JC.region ?_ | refine JC.block ?_ | refine JC.skip ?_ | refine JL.nil ?_ | refine JE.next ?_)
    refine JL.alloc CA rfl fun b6 _=>?_
    refine JL.aq (cs:=bc b) pK rfl rfl (cL hb) (eV _) .here rfl ?_
    repeat (first | refine JL.q (by (apply OQ.assign;rfl)) rfl ?_ | refine JL.nil ?_ | refine JE.next ?_)
    have cA:=fun {u w' : World} {S : List Nat} {M : List ai} (hw' : Holds u S M w') (hM : Has M b6 (Row 141 (bc b)) true)=>ep ⟨some ⟨b6,0,none⟩,64,b⟩ w' (rO hw' hM rfl (by omega)) (by show 10≤b.length;omega) (by show b.length≤64;omega)
    have cE:=fun {u w' : World} {S : List Nat} {M : List ai} (hw' : Holds u S M w') (hM : Has M b6 (Row 141 (bc b)) true)=>ep ⟨some ⟨b6,0+54,none⟩,64 - 54,b.drop 54⟩ w' (wU hw' hM hb (by decide)) (by show 10≤(b.drop 54).length;rw [List.length_drop];omega) (by show (b.drop 54).length≤64;rw [List.length_drop];omega)
    refine JC.tail 8 bZ (by kernel_rfl) ?_
    simp only [List.take_succ_cons,List.take_zero,List.drop_succ_cons,List.drop_zero]
    repeat (first | refine JL.q (by first|(apply OQ.tY;exact hb;exact Tryz.underlying141;exact iD;rfl)|(apply OQ.l9 (lo:=54);exact hb;exact Tryz.underlying141;exact iD;rfl;rfl;exact (by decide))|(apply OQ.aF (vs:=[(⟨some ⟨b6,0,none⟩,64,b⟩ : aC).v]);exact bx;rfl;exact (fun w' hw'=>cA hw' .here))|(apply OQ.aF (vs:=[(⟨some ⟨b6,0+54,none⟩,64 - 54,b.drop 54⟩ : aC).v]);exact bx;rfl;exact (fun w' hw'=>cE hw' .here))|(apply OQ.oO;rfl)|(apply OQ.AF;rfl;rfl;rfl)|(apply OQ.move;rfl)|(apply OQ.assign;rfl)|(apply OQ.addN;rfl;rfl;exact (by (try simp only []);omega))) rfl ?_ | refine JQ.q (by first|(apply OQ.tY;exact hb;exact Tryz.underlying141;exact iD;rfl)|(apply OQ.l9 (lo:=54);exact hb;exact Tryz.underlying141;exact iD;rfl;rfl;exact (by decide))|(apply OQ.aF (vs:=[(⟨some ⟨b6,0,none⟩,64,b⟩ : aC).v]);exact bx;rfl;exact (fun w' hw'=>cA hw' .here))|(apply OQ.aF (vs:=[(⟨some ⟨b6,0+54,none⟩,64 - 54,b.drop 54⟩ : aC).v]);exact bx;rfl;exact (fun w' hw'=>cE hw' .here))|(apply OQ.oO;rfl)|(apply OQ.AF;rfl;rfl;rfl)|(apply OQ.move;rfl)|(apply OQ.assign;rfl)|(apply OQ.addN;rfl;rfl;exact (by (try simp only []);omega))) rfl ?_ | refine JC.region ?_ | refine JL.nil ?_ | refine JQ.cI ?_ | refine JE.next ?_ | refine JE.an ?_)
    rw [← hg]
    exact JE.again (i:=p) (p+1) hp' (by omega) (by repeat (first | exact ag.nil | refine ag.cons _ _ _ rfl ?_)) (.drop _ _ _ (aj.refl _))
  · have hp' : p=bl.length:=by have:=of_decide_eq_false hc;omega
    rw [List.take_of_length_le (by omega : bl.length≤p)]
    unfold qy
    cases hm : decide (((gm bl).toNat : Int)=4294967295)
    · have hne : ¬ gm bl=4294967295#32:=fun e=>by rw [e] at hm;cases hm
      rw [if_neg hne]
      repeat (first | refine JL.q (by first|(apply OQ.iC (b:=4294967295);rfl;rfl;exact hm)|(apply OQ.move;rfl)) rfl ?_ | refine JC.seq ?_ | refine JC.region ?_ | refine JC.exit ?_ | refine JL.nil ?_ | refine JE.next ?_ | refine JE.aH ?_ | refine JE.aW ?_)
      refine JC.cond_false rfl rfl ?_
      repeat (first | refine JL.q (by first|(apply OQ.Cp (b:=1#32);rfl;rfl)|(apply OQ.move;rfl)|(apply OQ.assign;rfl)) rfl ?_ | refine JC.seq ?_ | refine JC.region ?_ | refine JC.skip ?_ | refine JL.nil ?_ | refine JE.next ?_)
      refine JC.ret ?_
      skip
      exact JE.cw rfl (RV.tmp rfl) (RV.tmp rfl) fun w' hw=>⟨rfl,hw.bf⟩
    · have he : gm bl=4294967295#32:=BitVec.eq_of_toNat_eq (by have:=of_decide_eq_true hm;show (gm bl).toNat=4294967295;omega)
      rw [if_pos he]
      repeat (first | refine JL.q (by first|(apply OQ.iC (b:=4294967295);rfl;rfl;exact hm)|(apply OQ.move;rfl)) rfl ?_ | refine JC.seq ?_ | refine JC.region ?_ | refine JC.exit ?_ | refine JL.nil ?_ | refine JE.next ?_ | refine JE.aH ?_ | refine JE.aW ?_)
      refine JC.cond_true rfl rfl ?_
      repeat (first | refine JL.q (by (apply OQ.assign;rfl)) rfl ?_ | refine JC.seq ?_ | refine JC.region ?_ | refine JL.nil ?_ | refine JE.next ?_)
      refine JC.ret ?_
      repeat (refine JE.aA ?_)
      exact JE.cw rfl (RV.tmp rfl) (RV.tmp rfl) fun w' hw=>⟨rfl,hw.bf⟩
end
end Go.Proofs.YtmhlgnbdhnolaaaGreatDoor
