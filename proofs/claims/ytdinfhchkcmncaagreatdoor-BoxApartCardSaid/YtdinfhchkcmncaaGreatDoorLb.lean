/-
  Of no statement by itself: the texts DskB, Slf, Slfi, Slgr, Slfr, Slrw, DskC, DskD, Slcv, DskE, Sliv, JrnP, NumP, NumA, JrnA, DskL, JrnM, JrnB, Slal, JrnC, JrnD, JrnE, JrnF, JrnG in one.
  Conditions: each theorem's own.
-/
import Derived.Test.YtdinfhchkcmncaaGreatDoorLa
import Derived.RangeFuncWrites
import Derived.RangeFuncLeaves
import Derived.TacticsIn
import Derived.Shelf.Abstract
import Derived.OrdersIn
import Derived.Laws.Cover3
import Derived.Laws.StructEq
set_option linter.unusedSimpArgs false
set_option linter.unusedVariables false
namespace Go.Proofs.YtdinfhchkcmncaaGreatDoor
section
set_option maxRecDepth 10000
open Sl dc
theorem OQ.zM {n : Nat} {E : Env} {C : World→Prop} {dst : Option Tmp} {ty : TypeId} {pos : String} {aft : Array Edge} {g : Option (Nat × Bool)} {x y : Operand} {k : Nat} {b : Bk} (hx : ev E x=some (N k)) (hy : ev E y=some (.agg (bc b).toArray)) (hb : b.length=64) :
    OQ Tryz.prog n E C ⟨dst,.build 235 #[(0,x),(1,y)],ty,pos,aft,g⟩ (.agg (wc (k,b)).toArray):=
  OQ.run fun a ha w _=>by
    have h1:=ha.eval hx
    have h2:=ha.eval hy
    have hbl : (bc b).length=64:=cG hb
    have hb2 : Tryz.prog.built 235 [(0,N k),(1,.agg (bc b).toArray)]=some (wc (k,b)).toArray:=by
      have h : Tryz.prog.built 235 [(0,N k),(1,.agg (bc b).toArray)]=Instr.fill (fun i=>#[(0,1),(1,64)][i]?) ((Value.int .i64 0::List.replicate 64 (.int .u8 0)).toArray) [(0,N k),(1,.agg (bc b).toArray)]:=by kernel_rfl
      rw [h,oR (cs:=[N k]) (off:=0) (sz:=1) rfl rfl rfl (by simp),oR (cs:=bc b) (off:=1) (sz:=64) rfl rfl hbl (by simp)]
      have e : ∀ c : List Value,c.length=64→List.take 1 (List.take 0 (Value.int .i64 0::List.replicate 64 (.int .u8 0))++[N k]++List.drop (0+1) (Value.int .i64 0::List.replicate 64 (.int .u8 0)))++c++List.drop (1+64) (List.take 0 (Value.int .i64 0::List.replicate 64 (.int .u8 0))++[N k]++List.drop (0+1) (Value.int .i64 0::List.replicate 64 (.int .u8 0)))=N k::c:=fun c hc=>by simp
      rw [e _ hbl]
      rfl
    have r:=run_build w 235 #[(0,N k),(1,.agg (bc b).toArray)] (wc (k,b)).toArray (by simpa using hb2)
    simp [execOp,h1,h2,r]
theorem qA (n : Nat) : (ke (c6 n)).flatten=List.replicate (n * 64) (.int .u8 0):=by
  induction n with
  | zero=>rfl
  | succ n ih=>
    show bc zero++(ke (c6 n)).flatten=_
    rw [ih,Nat.succ_mul,Nat.add_comm,← List.replicate_append_replicate]
    rfl
theorem tj : aI Tryz.prog 24:=⟨_,Tryz.func24,rfl,by kernel_rfl⟩
theorem OQ.vb {n : Nat} {E : Env} {C : World→Prop} {dst : Option Tmp} {ty : TypeId} {pos : String} {aft : Array Edge} {g : Option (Nat × Bool)} {x : Operand} {ad : Option Addr} {len cap : Nat} (hx : ev E x=some (.slice ad len cap)) :
    OQ Tryz.prog n E C ⟨dst,.build 87 #[(0,x)],ty,pos,aft,g⟩ (.agg [.slice ad len cap,.slice none 0 0].toArray):=
  OQ.run fun a ha w _=>by
    have h1:=ha.eval hx
    have r:=run_build (P:=Tryz.prog) w 87 #[(0,.slice ad len cap)] [.slice ad len cap,.slice none 0 0].toArray (by kernel_rfl)
    simp [execOp,h1,r]
set_option maxHeartbeats 4000000 in
theorem xL (n : Nat) (h1 : 1≤n) (h2 : n≤65536) (w : World) : Calls Tryz.prog 24 [N n].toArray w fun e w'=>∃ x : Dp,e=.returned (.tuple #[Pt x.p 0,N 0])∧x.a=none∧Holds w [] (bT x (c6 n) []) w':=by
  refine enter (n:=14) Tryz.func24 rfl rfl rfl (Holds.start w []) ?_
  have g1 : decide ((n : Int)<1)=false:=decide_eq_false (by omega)
  have g2 : decide ((65536 : Int)<n)=false:=decide_eq_false (by omega)
  repeat (first | refine JL.q (by first|(apply OQ.kU (b:=1);rfl;rfl;exact g1)|(apply OQ.cz (b:=65536);rfl;rfl;exact g2)|(apply OQ.aW;rfl;rfl)|(apply OQ.move;rfl)|(apply OQ.assign;rfl)) rfl ?_ | refine JC.seq ?_ | refine JC.region ?_ | refine JL.nil ?_ | refine JE.next ?_ | refine JL.aD rfl rfl ?_)
  refine JC.cond_false rfl rfl ?_
  repeat (first | refine JL.q (by (apply OQ.move;rfl)) rfl ?_ | refine JC.seq ?_ | refine JC.region ?_ | refine JC.skip ?_ | refine JE.next ?_)
  refine JL.make (c:=n) (sz:=64) Tryz.underlying84 BY rfl (by decide) rfl rfl (by omega) (by omega) rfl fun b hb=>?_
  repeat (refine JL.q (by (apply OQ.vb;rfl)) rfl ?_)
  refine JL.box (r:=[.slice (some ⟨b,0,none⟩) n n,.slice none 0 0]) rfl rfl rfl fun p hp=>?_
  repeat (first | refine JL.q (by (apply OQ.assign;rfl)) rfl ?_ | refine JL.nil ?_ | refine JE.next ?_)
  refine JC.ret (JE.cg rfl (RV.tmp rfl) (RV.tmp rfl) fun w' hw=>⟨⟨p,b,n,none⟩,rfl,rfl,hw.weak ?_⟩)
  refine .keep _ _ _ _ _ _ (fun o ho=>?_) (.keep _ _ _ _ _ _ (fun o ho=>?_) (.nil _))
  · have e : (c6 n).length=n:=List.length_replicate
    unfold gV
    rw [e]
    exact ho
  · have e : (c6 n).length=n:=List.length_replicate
    rw [e,qA]
    exact u7 List.length_replicate o ho
theorem hU : aI Tryz.prog 150:=⟨_,Tryz.func150,rfl,by kernel_rfl⟩
theorem qB : aI Tryz.prog 152:=⟨_,Tryz.func152,rfl,by kernel_rfl⟩
theorem tn (x : Dp) (bl : List Bk) (pd : List (Nat × Bk)) (w : World) (h : Holds w (keys (bT x bl pd)) (bT x bl pd) w) :
    Calls Tryz.prog 152 [Pt x.p 0].toArray w fun e w'=>e=.returned (.tuple #[])∧Holds w (keys (bT x bl pd)) (bT ⟨x.p,x.q,x.cap,none⟩ bl []) w':=by
  refine enter (n:=5) Tryz.func152 rfl rfl rfl h ?_
  repeat (first | refine JL.q (by first|(apply OQ.move;rfl)|(apply OQ.bx;rfl)|(apply OQ.bA;rfl;rfl;rfl;exact (by decide);rfl)) rfl ?_ | refine JC.region ?_)
  refine JL.cY (b:=x.p) (r:=gV x bl pd) (r':=[.slice (some ⟨x.q,0,none⟩) bl.length x.cap,.slice none 0 0]) Cn rfl rfl rfl rfl .here (show 1<2 by decide) rfl ?_
  repeat (refine JL.nil ?_)
  refine JE.uS rfl fun w' hw=>⟨rfl,hw.weak ?_⟩
  exact .keep _ _ _ _ _ _ (fun _ h=>h) (.keep _ _ _ _ _ _ (fun _ h=>h) (.nil _))
theorem oU : aI Tryz.prog 153:=⟨_,Tryz.func153,rfl,by kernel_rfl⟩
set_option maxHeartbeats 16000000 in
theorem tq (x : Dp) (bl : List Bk) (pd : List (Nat × Bk)) (n : Nat) (b : Bk) (hn : n<bl.length) (hb : b.length=64) (h : br x bl pd) (w : World) (hw : Holds w (keys (bT x bl pd)) (bT x bl pd) w) :
    Calls Tryz.prog 153 [Pt x.p 0,N n,.agg (bc b).toArray].toArray w fun e w'=>∃ y : Nat × Nat,e=.returned (N 0)∧Holds w (keys (bT x bl pd)) (bT ⟨x.p,x.q,x.cap,some y⟩ (bl.set n b) (wrote bl pd n)) w':=by
  have hq : x.a=none→nN pd=[]:=fun e=>by rw [h.a e];rfl
  have hr1 : (gV x bl pd)[1]?=some (av x.a (nN pd).length):=by rw [sn];rfl
  have hol : (old bl n).length=64:=h.ok.old hn
  have hwl : (wc (n,old bl n)).length=65:=by rw [wc,List.length_cons,cG hol]
  have hwo : ∀ v ∈ wc (n,old bl n),v.oneCell'=true:=by
    intro v hv
    rcases List.mem_cons.1 hv with rfl | hv
    · rfl
    · exact List.all_eq_true.1 (ej _) v hv
  generalize hS : keys (bT x bl pd)=S at hw ⊢
  refine enter (n:=36) Tryz.func153 rfl rfl rfl hw ?_
  repeat (first | refine JC.seq ?_ | refine JC.region ?_)
  refine JL.box (r:=bc b) rfl rfl rfl fun b5 _=>?_
  have hc : ∀ w',Holds w S (⟨b5,Row 138 (bc b),true⟩::bT x bl pd) w'→Calls Tryz.prog 154 [Pt x.p 0,.int .i64 n].toArray w' fun e w2=>e=.returned (.bool true)∧Ext w' w2:=fun w' hw'=>by
    have:=sr x.p (some ⟨x.q,0,none⟩) bl.length x.cap n w' (sq (M:=[]) (hw'.weak (.drop _ _ _ (by rw [List.append_nil];exact ak.refl _)))).1
    rwa [decide_eq_true (show (0 : Int)≤n∧(n : Int)<bl.length by omega)] at this
  repeat (first | refine JL.q (by first|(apply OQ.aB (vs:=[Pt x.p 0,.int .i64 n]);exact oT;rfl;exact hc)|(apply OQ.not;rfl)|(apply OQ.move;rfl)|(apply OQ.assign;rfl)) rfl ?_ | refine JC.seq ?_ | refine JC.region ?_ | refine JL.nil ?_ | refine JE.next ?_)
  refine JC.cond_false rfl rfl ?_
  repeat (first | refine JC.seq ?_ | refine JC.skip ?_ | refine JE.next ?_)
  let vs : Nat→Nat × Nat→Value:=fun j y=>match j with
    | 0=>Pt x.p 0
    | 1=>Pt x.p 0
    | 2=>Pt x.p 0
    | 3=>Pt x.p 1
    | 4=>av x.a (nN pd).length
    | 5=>N n
    | 6=>Pt x.p 0
    | 7=>Pt x.p 0
    | 8=>Pt x.p 0
    | 9=>.slice (some ⟨x.q,0,none⟩) bl.length x.cap
    | 10=>N n
    | 11=>Pt x.q (0+n * 64)
    | 12=>.agg (bc (old bl n)).toArray
    | 13=>.agg (wc (n,old bl n)).toArray
    | 14=>.slice (some ⟨y.1,0,none⟩) 1 1
    | 15=>av (some y) (nN pd++[wc (n,old bl n)]).length
    | 16=>Pt x.p 0
    | 17=>Pt x.p 1
    | _=>N 0
  let Ms : Nat→Nat × Nat→List aj:=fun j y=>match j with
    | 14=>[⟨y.1,Row 235 (wc (n,old bl n)),true⟩]
    | 15=>cD 235 65 (some y) (nN pd++[wc (n,old bl n)])
    | 18=>[⟨x.p,Row 87 [.slice (some ⟨x.q,0,none⟩) bl.length x.cap,av (some y) (nN pd++[wc (n,old bl n)]).length],true⟩]
    | 19=>[⟨b5,Row 138 (bc b),true⟩]
    | 20=>[⟨x.p,Row 87 (gV x bl pd),true⟩]
    | 21=>[⟨x.q,Sl.Own 138 64 bl.length x.cap (ke bl).flatten,true⟩]
    | 22=>cD 235 65 x.a (nN pd)
    | _=>[]
  refine JC.grow (g:=⟨[(0,Pt x.p 0),(1,N n),(5,Pt b5 0)],23,vs,Ms,(fun j=>match j with | 2=>[(1,12)] | 3=>[(2,13)] | 4=>[(3,14)] | 7=>[(6,17)] | 8=>[(7,18)] | 9=>[(8,19)] | 11=>[(9,20),(10,21)] | 12=>[(11,22)] | 13=>[(5,16),(12,23)] | 14=>[(13,24)] | 15=>[(4,15),(14,25)] | 16=>[(0,11)] | 17=>[(16,27)] | 18=>[(17,28),(15,26)] | _=>[]),(fun j=>match j with | 4=>[20] | 9=>[20] | 12=>[21] | 15=>[14,22] | 18=>[20] | _=>[]),(fun j=>match j with | 15=>[14,22] | 18=>[20] | _=>[]),(fun j=>match j with | 18=>some 15 | _=>none)⟩) [] [18,21,15,19] cC (by repeat (first | exact ah.nil | refine ah.cons _ _ _ rfl ?_)) ?_ (by kernel_rfl) (by kernel_rfl) (by kernel_rfl) ?_ ?_
  · show ak (Ms 19 default++(Ms 20 default++(Ms 21 default++(Ms 22 default++[])))) _;rw [List.append_nil];exact ak.refl _
  · refine ⟨?_,?_,?_,?_,?_,?_,?_,?_,?_,?_,?_,?_,?_,?_,?_,?_,?_,?_,?_,trivial⟩
    · (intro xx EF MF Q kk;(try refine JL.aD rfl rfl ?_);exact JL.q (OQ.move rfl) rfl (JL.nil (kk default nofun)))
    · (intro xx EF MF Q kk;(try refine JL.aD rfl rfl ?_);exact JL.q (OQ.move rfl) rfl (JL.nil (kk default nofun)))
    · (intro xx EF MF Q kk;(try refine JL.aD rfl rfl ?_);exact JL.q (OQ.bx rfl) rfl (JL.nil (kk default nofun)))
    · (intro xx EF MF Q kk;(try refine JL.aD rfl rfl ?_);exact JL.q (OQ.bA rfl rfl rfl (by decide) rfl) rfl (JL.nil (kk default nofun)))
    · (intro xx EF MF Q kk;(try refine JL.aD rfl rfl ?_);exact JL.q (OQ.load CK rfl .here (Row.cell (v:=av x.a (nN pd).length) hr1)) rfl (JL.nil (kk default nofun)))
    · (intro xx EF MF Q kk;(try refine JL.aD rfl rfl ?_);exact JL.q (OQ.move rfl) rfl (JL.nil (kk default nofun)))
    · (intro xx EF MF Q kk;(try refine JL.aD rfl rfl ?_);exact JL.q (OQ.move rfl) rfl (JL.nil (kk default nofun)))
    · (intro xx EF MF Q kk;(try refine JL.aD rfl rfl ?_);exact JL.q (OQ.bx rfl) rfl (JL.nil (kk default nofun)))
    · (intro xx EF MF Q kk;(try refine JL.aD rfl rfl ?_);exact JL.q (OQ.bA rfl rfl rfl (by decide) rfl) rfl (JL.nil (kk default nofun)))
    · (intro xx EF MF Q kk;(try refine JL.aD rfl rfl ?_);exact JL.q (OQ.load y8 rfl .here (Row.cell (v:=.slice (some ⟨x.q,0,none⟩) bl.length x.cap) rfl)) rfl (JL.nil (kk default nofun)))
    · (intro xx EF MF Q kk;(try refine JL.aD rfl rfl ?_);exact JL.q (OQ.move rfl) rfl (JL.nil (kk default nofun)))
    · (intro xx EF MF Q kk;(try refine JL.aD rfl rfl ?_);exact JL.q (OQ.mz Tryz.underlying84 oA rfl rfl hn) rfl (JL.nil (kk default nofun)))
    · (intro xx EF MF Q kk;(try refine JL.aD rfl rfl ?_);exact JL.q (OQ.to (OQ.u6 (L:=ke bl) (i:=n) oS oA rfl (Nat.zero_add _) .here (ku h.ok) (by rw [sk];exact hn)) (by rw [u9 hn];rfl)) rfl (JL.nil (kk default nofun)))
    · (intro xx EF MF Q kk;(try refine JL.aD rfl rfl ?_);exact JL.q (OQ.zM rfl rfl hol) rfl (JL.nil (kk default nofun)))
    · (intro xx EF MF Q kk;exact JL.s8 (cs:=wc (n,old bl n)) Tryz.underlying85 Cm rfl (by decide) (by decide) rfl hwl rfl fun b _=>JL.nil (kk (b,0) nofun))
    · (intro xx EF MF Q kk;refine JL.perm (M':=⟨(xx 14).1,Row 235 (wc (n,old bl n)),true⟩::(cD 235 65 x.a (nN pd)++MF)) ?_ (List.Perm.of_eq (by show (Ms 14 (xx 14)++(Ms 22 (xx 22)++[]))++MF=_;simp [Ms]));exact JL.iJ x.a Tryz.underlying85 Cm hq rfl rfl hwl hwo rfl (by decide) (by rw [sn];have:=h.m;omega) (by rw [sn];have:=h.m;omega) rfl fun b' cap'=>JL.nil (kk (b',cap') nofun))
    · (intro xx EF MF Q kk;(try refine JL.aD rfl rfl ?_);exact JL.q (OQ.bx rfl) rfl (JL.nil (kk default nofun)))
    · (intro xx EF MF Q kk;(try refine JL.aD rfl rfl ?_);exact JL.q (OQ.bA rfl rfl rfl (by decide) rfl) rfl (JL.nil (kk default nofun)))
    · (intro xx EF MF Q kk;exact JL.cY (b:=x.p) (r:=gV x bl pd) (r':=[.slice (some ⟨x.q,0,none⟩) bl.length x.cap,av (some (xx 15)) (nN pd++[wc (n,old bl n)]).length]) Cn rfl rfl rfl rfl .here (show 1<2 by decide) rfl (JL.nil (kk (xx 15) (fun k h=>by cases h;rfl))))
  · intro xx hx
    have e18:=hx 18 15 (by decide) rfl
    show JE _ _ _ _ _ [(0,Pt x.p 0),(1,N n),(5,Pt b5 0)] [⟨x.p,Row 87 [.slice (some ⟨x.q,0,none⟩) bl.length x.cap,av (some (xx 18)) (nN pd++[wc (n,old bl n)]).length],true⟩,⟨x.q,Sl.Own 138 64 bl.length x.cap (ke bl).flatten,true⟩,⟨(xx 15).1,Sl.Own 235 65 (nN pd++[wc (n,old bl n)]).length (xx 15).2 (nN pd++[wc (n,old bl n)]).flatten,true⟩,⟨b5,Row 138 (bc b),true⟩]
    rw [e18]
    generalize xx 15=y
    clear hx e18 xx vs Ms
    (repeat (first | refine JC.seq ?_ | refine JE.next ?_))
    refine JC.tail 6 cC (by kernel_rfl) ?_
    simp only [List.take_succ_cons,List.take_zero,List.drop_succ_cons,List.drop_zero]
    (repeat (first | refine JL.q (by first|(apply OQ.load;exact y8;rfl;exact .here;exact (Row.cell (v:=.slice (some ⟨x.q,0,none⟩) bl.length x.cap) rfl))|(apply OQ.aq (cs:=bc b);exact oS;exact oA;rfl;exact (.there (.there (.there .here)));exact (cG hb);exact Row.all)|(apply OQ.mz;exact Tryz.underlying84;exact oA;rfl;rfl;exact hn)|(apply OQ.move;rfl)|(apply OQ.bx;rfl)|(apply OQ.bA;rfl;rfl;rfl;exact (by decide);rfl)) rfl ?_ | refine JQ.q (by first|(apply OQ.load;exact y8;rfl;exact .here;exact (Row.cell (v:=.slice (some ⟨x.q,0,none⟩) bl.length x.cap) rfl))|(apply OQ.aq (cs:=bc b);exact oS;exact oA;rfl;exact (.there (.there (.there .here)));exact (cG hb);exact Row.all)|(apply OQ.mz;exact Tryz.underlying84;exact oA;rfl;rfl;exact hn)|(apply OQ.move;rfl)|(apply OQ.bx;rfl)|(apply OQ.bA;rfl;rfl;rfl;exact (by decide);rfl)) rfl ?_ | refine JQ.cq ?_))
    refine JL.zL (L:=ke bl) (i:=n) oA rfl (Nat.zero_add _) rfl (cG hb) (ej _) (ku h.ok) (sk bl) hn (.there .here) ?_
    (repeat (first | refine JL.q (by (apply OQ.assign;rfl)) rfl ?_ | refine JC.seq ?_ | refine JC.region ?_ | refine JL.nil ?_ | refine JE.next ?_))
    refine JC.ret (JE.aP rfl (RV.tmp rfl) fun w' hw=>⟨y,rfl,hw.weak ?_⟩)
    have e1 : nN (wrote bl pd n)=nN pd++[wc (n,old bl n)]:=by simp [nN,wrote]
    have e2 : (wrote bl pd n).length=(nN pd++[wc (n,old bl n)]).length:=by rw [← e1,sn]
    unfold bT gV
    rw [e1,e2,List.length_set,← xK]
    exact .keep _ _ _ _ _ _ (fun _ h=>h) (.keep _ _ _ _ _ _ (fun _ h=>h) (.keep _ _ _ _ _ _ (fun _ h=>h) (.nil _)))
end
section
namespace Sl
inductive iM : List aj→List aj→Prop where
  | nil (N : List aj) : iM [] N
  | keep (b : Nat) (A A' : Obj→Prop) (wr wr' : Bool) (N N' : List aj) : (∀ o,A o→A' o)→(wr'=true→wr=true)→iM N' N→iM (⟨b,A',wr'⟩::N') (⟨b,A,wr⟩::N)
  | drop (e : aj) (N N' : List aj) : iM N' N→iM N' (e::N)
theorem iM.keys {M M' : List aj} (h : iM M' M) : (M'.map aj.b).Sublist (M.map aj.b):=by
  induction h with
  | nil=>exact List.nil_sublist _
  | keep _ _ _ _ _ _ _ _ _ _ ih=>exact ih.cons_cons _
  | drop _ _ _ _ ih=>exact ih.cons _
theorem iM.old {M M' : List aj} (h : iM M' M) : ∀ e ∈ M',∃ e' ∈ M,e'.b=e.b∧(e.wr=true→e'.wr=true)∧∀ o,e'.A o→e.A o:=by
  induction h with
  | nil=>simp
  | keep b A A' wr wr' M M' hA hw _ ih=>
    intro e he
    simp only [List.mem_cons] at he
    rcases he with rfl | he
    · exact ⟨⟨b,A,wr⟩,by simp,rfl,hw,hA⟩
    · obtain ⟨e',h1,h2⟩:=ih e he
      exact ⟨e',by simp [h1],h2⟩
  | drop _ _ _ _ ih=>
    intro e he
    obtain ⟨e',h1,h2⟩:=ih e he
    exact ⟨e',by simp [h1],h2⟩
def y9 (M : List aj) : List Nat:=(M.filter (·.wr)).map aj.b
theorem kz {M : List aj} {k : Nat} : k ∈ y9 M↔∃ e ∈ M,e.wr=true∧e.b=k:=by
  simp [y9,and_assoc]
theorem Holds.zN {w0 w : World} {S : List Nat} {M : List aj} (h : Holds w0 S M w) : Holds w (y9 M) M w:=
  ⟨jP.refl _ _,h.nodup,fun e he=>⟨(h.all e he).1,fun hw=>.inl (kz.2 ⟨e,he,hw,rfl⟩)⟩⟩
theorem Holds.nO {w0 w : World} {M : List aj} (h : Holds w0 [] M w) : ∀ k ∈ y9 M,w0.heap.size≤k:=fun k hk=>by
  obtain ⟨e,he,hw,rfl⟩:=kz.1 hk
  rcases (h.all e he).2 hw with h | h
  · cases h
  · exact h
theorem Holds.zO {w0 w w' : World} {M M' : List aj} (h : Holds w0 [] M w) (h' : Holds w (y9 M) M' w') : Holds w0 [] M' w':=by
  refine ⟨⟨h'.aS.os.trans h.aS.os,h'.aS.tape.trans h.aS.tape,h'.aS.output.trans h.aS.output,Nat.le_trans h.aS.size h'.aS.size,fun k hk _=>?_⟩,h'.nodup,fun e he=>⟨(h'.all e he).1,fun hw=>.inr ?_⟩⟩
  · refine (h'.aS.block k (Nat.lt_of_lt_of_le hk h.aS.size) fun hm=>?_).trans (h.aS.block k hk (by simp))
    have:=h.nO k hm
    omega
  · rcases (h'.all e he).2 hw with h1 | h1
    · exact h.nO _ h1
    · exact Nat.le_trans h.aS.size h1
theorem tu {M : List aj} (h : (M.map aj.b).Nodup) : ∀ {e1 e2 : aj},e1 ∈ M→e2 ∈ M→e1.b=e2.b→e1=e2:=by
  induction M with
  | nil=>intro e1 e2 h1;cases h1
  | cons x M ih=>
    simp only [List.map_cons,List.nodup_cons] at h
    intro e1 e2 h1 h2 he
    rcases List.mem_cons.1 h1 with rfl | h1'
    · rcases List.mem_cons.1 h2 with rfl | h2'
      · rfl
      · exact absurd (he ▸ List.mem_map_of_mem (f:=aj.b) h2') h.1
    · rcases List.mem_cons.1 h2 with rfl | h2'
      · exact absurd (he ▸ List.mem_map_of_mem (f:=aj.b) h1') h.1
      · exact ih h.2 h1' h2' he
theorem dy.other {M M' : List aj} {b b' : Nat} {A A' : Obj→Prop} (h : dy M b A b' A' M') (hn : (M.map aj.b).Nodup) : ∀ e ∈ M',e=⟨b',A',true⟩∨(e ∈ M∧e.b≠b):=by
  induction h with
  | @here b A b' A' M=>
    intro e he
    simp only [List.map_cons,List.nodup_cons] at hn
    simp only [List.mem_cons] at he
    rcases he with rfl | he
    · exact .inl rfl
    · exact .inr ⟨by simp [he],fun h=>hn.1 (h ▸ List.mem_map_of_mem he)⟩
  | @there x M b A b' A' M' hu ih=>
    intro e he
    simp only [List.map_cons,List.nodup_cons] at hn
    simp only [List.mem_cons] at he
    rcases he with rfl | he
    · refine .inr ⟨by simp,fun h=>hn.1 ?_⟩
      rw [h]
      exact List.mem_map_of_mem hu.has.mem (f:=aj.b)
    · rcases ih hn.2 e he with h | ⟨h1,h2⟩
      · exact .inl h
      · exact .inr ⟨by simp [h1],h2⟩
section
variable {P : Program} {m l : Nat}
def oV (o : Oper) : Bool:=match o.op with
  | .defer _=>false
  | _=>true
abbrev Rd (l : Nat) : Fence:=Fence.wide.inRound l
theorem qC {o : Oper} {a : Act} {w : World} {K K' : Act→World→Prop} {Q : Exit→Act→World→Prop} (hd : oV o=true) (hQ : ¬ LetsOut Q) (hK : ∀ a w,K a w→K' a w) (h : o.wp P a w K Q) : o.wpIn (Rd l) m P a w K' Q:=by
  refine ⟨fun _ _=>trivial,?_⟩
  have e : Oper.semAt (Rd l).round a.eval o=execOp a.eval o:=Oper.semAt_some l _ _ fun c hc=>by
    unfold oV at hd
    rw [hc] at hd
    cases hd
  rw [e]
  unfold Oper.wp at h
  have hdep : (Rd l).depth.isSome=true→1≤m:=fun h=>by cases h
  cases hr : (execOp a.eval o).run P w with
  | ok nx w'=>
    rw [hr] at h
    cases nx with
    | value v=>exact hK _ _ h
    | skip=>exact hK _ _ h
    | defer d=>exact hK _ _ h
    | enter f args=>
      have h' : Calls P f args w' fun
        | .returned v,w''=>K (a.put o.dst v) w''
        | .panicked chain,w''=>Q (.panic chain) a w''
        | .outgrown,_=>LetsOut Q:=h
      refine ⟨hdep,(callsIn_wide (n:=m - 1)).2 (h'.mono fun e w2 h2=>?_)⟩
      cases e with
      | returned v=>exact hK _ _ h2
      | panicked ch=>exact h2
      | outgrown=>exact h2
    | row r args=>
      have h' : Rows P r args w' fun v w''=>K (a.put o.dst v) w'':=h
      refine ⟨hdep,fun c cs _=>?_⟩
      obtain ⟨v,w2,h2,hs⟩:=h' c cs
      exact ⟨v,w2,hK _ _ h2,stepsIn_wide.2 hs⟩
    | round=>exact h.elim
    | _=>exact h.elim
  | halt x w'=>
    rw [hr] at h
    cases x with
    | panic v=>exact h
    | _=>exact h.elim
theorem dN {ops : Array Oper} {Q : Exit→Act→World→Prop} (hQ : ¬ LetsOut Q) : ∀ (os : List Oper),os.all oV=true→∀ a w,wpList P ops Q os a w→wpListIn (Rd l) m P ops Q os a w
  | [],_,a,w,h=>h
  | o::os,hd,a,w,h=>by
    simp only [List.all_cons,Bool.and_eq_true] at hd
    have ih:=dN (ops:=ops) hQ os hd.2
    unfold wpList at h
    unfold wpListIn
    by_cases hw : Region.wanted o (yielded ops a.tmps)=true
    · simp only [hw,if_true] at h ⊢
      rcases h with h | h
      · exact qC hd.1 hQ ih h
      · exact absurd h.2 hQ
    · simp only [hw,if_false] at h ⊢
      exact ⟨fun _ _=>trivial,ih _ _ h⟩
end
section
variable {P : Program} {n : Nat} {w0 : World} {S : List Nat} {Q Q' : Exit→Act→World→Prop} {E : Env} {M : List aj} {m l : Nat}
structure JR (P : Program) (n : Nat) (w0 : World) (S : List Nat) (l m : Nat) (Q : Exit→Act→World→Prop) (c : Code) (E : Env) (M : List aj) : Prop where
  go : ∀ a w,aG n E a→Holds w0 S M w→c.wpIn (Rd l) m P Q a w
theorem JR.region {id : Nat} {os : List Oper} (hd : os.all oV=true) (hQ : ¬ LetsOut Q) (h : JL P n w0 S os.toArray Q os E M) : JR P n w0 S l m Q (.region id os.toArray false) E M:=
  ⟨fun a w ha hw=>wpIn_region_lit (dN hQ os hd a w (h.go a w ha hw))⟩
theorem JR.seq {x y : Code} (h : JR P n w0 S l m (Exit.then (y.wpIn (Rd l) m P Q) Q) x E M) : JR P n w0 S l m Q (.seq x y) E M:=⟨fun a w ha hw=>wpIn_seq (h.go a w ha hw)⟩
theorem JR.block {id : Nat} {c : Code} (h : JR P n w0 S l m (Exit.inBlock id Q) c E M) : JR P n w0 S l m Q (.block id c) E M:=⟨fun a w ha hw=>wpIn_block (h.go a w ha hw)⟩
end
def mk (D : Nat) : Deferred:={ target:=.collected D,args:=#[] }
def A5 : Obj→Prop:=fun o=>o=.deferred (some [])
structure fW (D n : Nat) (E : Env) (a : Act) : Prop where
  defers : a.defers=[mk D]
  base : aG n E { a with defers:=[] }
section
variable {P : Program} {D n : Nat} {w0 : World} {S : List Nat} {ops : Array Oper} {Q Q' : Exit→Act→World→Prop} {os : List Oper} {E : Env} {M : List aj} {d : Nat} {op : Op} {ty : TypeId} {pos : String} {aft : Array Edge} {v : Value}
theorem mL (a : Act) : ({ a with defers:=[] } : Act).eval=a.eval:=funext fun x=>by cases x <;> rfl
theorem fW.put {a : Act} (h : fW D n E a) (d : Nat) (v : Value) (hd : Nat.blt d n=true) : fW D n ((d,v)::E) (a.put (some d) v):=⟨h.defers,h.base.put d v hd⟩
theorem fW.eval {a : Act} (h : fW D n E a) {x : Operand} {v : Value} (hx : ev E x=some v) : a.eval x=v:=by
  rw [← mL];exact h.base.eval hx
structure KL (P : Program) (D n : Nat) (w0 : World) (S : List Nat) (ops : Array Oper) (Q : Exit→Act→World→Prop) (os : List Oper) (E : Env) (M : List aj) : Prop where
  go : ∀ a w,fW D n E a→Holds w0 S M w→wpList P ops Q os a w
structure KE (D n : Nat) (w0 : World) (S : List Nat) (Q : Exit→Act→World→Prop) (e : Exit) (E : Env) (M : List aj) : Prop where
  go : ∀ a w,fW D n E a→Holds w0 S M w→Q e a w
structure KC (P : Program) (D n : Nat) (w0 : World) (S : List Nat) (Q : Exit→Act→World→Prop) (c : Code) (E : Env) (M : List aj) : Prop where
  go : ∀ a w,fW D n E a→Holds w0 S M w→c.wp P Q a w
theorem KC.seq {x y : Code} (h : KC P D n w0 S (Exit.then (y.wp P Q) Q) x E M) : KC P D n w0 S Q (.seq x y) E M:=⟨fun a w ha hw=>wp_seq (h.go a w ha hw)⟩
theorem KC.skip (h : KE D n w0 S Q .normal E M) : KC P D n w0 S Q .skip E M:=⟨fun a w ha hw=>wp_skip (h.go a w ha hw)⟩
theorem KC.ret (h : KE D n w0 S Q .ret E M) : KC P D n w0 S Q .ret E M:=⟨fun a w ha hw=>wp_ret (h.go a w ha hw)⟩
theorem KC.cond {c : Operand} {x y : Code} {t : Bool} (hc : ev E c=some (.bool t)) (ht : t=true→KC P D n w0 S Q x E M) (hf : t=false→KC P D n w0 S Q y E M) : KC P D n w0 S Q (.cond c x y) E M:=
  ⟨fun a w ha hw=>wp_cond_split (ha.eval hc) (fun h=>(ht h).go a w ha hw) (fun h=>(hf h).go a w ha hw)⟩
theorem KC.region {id : Nat} {os : List Oper} (h : KL P D n w0 S os.toArray Q os E M) : KC P D n w0 S Q (.region id os.toArray false) E M:=⟨fun a w ha hw=>wp_region_lit (h.go a w ha hw)⟩
theorem KE.next {y : Code} (h : KC P D n w0 S Q' y E M) : KE D n w0 S (Exit.then (y.wp P Q') Q) .normal E M:=⟨h.go⟩
theorem KL.nil (h : KE D n w0 S Q .normal E M) : KL P D n w0 S ops Q [] E M:=⟨h.go⟩
theorem KL.q (h : OQ P n E (Holds w0 S M) ⟨some d,op,ty,pos,aft,none⟩ v) (hd : Nat.blt d n=true) (k : KL P D n w0 S ops Q os ((d,v)::E) M) : KL P D n w0 S ops Q (⟨some d,op,ty,pos,aft,none⟩::os) E M:=
  ⟨fun a _ ha hw=>wpList_plain rfl fun _ hK=>Oper.wp_of_quiet (C:=Holds w0 S M) (K:=fun a'=>a'=a.put (some d) v) hw (fun _ _ hw' e=>hK _ _ (e ▸ k.go _ _ (ha.put d v hd) hw')) ⟨v,fun w hw=>by
    have:=h.go _ ha.base w hw
    unfold Oper.quietAt at this ⊢
    rwa [mL] at this,rfl⟩⟩
theorem KC.weak {c : Code} {M' : List aj} (hM : ak M' M) (h : KC P D n w0 S Q c E M') : KC P D n w0 S Q c E M:=⟨fun a w ha hw=>h.go a w ha (hw.weak hM)⟩
end
structure oW (L : List Nat) (W W' : World) : Prop where
  os : W'.os=W.os
  tape : W'.tape=W.tape
  output : W'.output=W.output
  size : W.heap.size≤W'.heap.size
  same : ∀ k ∈ L,W'.heap[k]?=W.heap[k]?
theorem oW.trans {L : List Nat} {X Y Z : World} (h : oW L X Y) (k : oW L Y Z) : oW L X Z:=
  ⟨k.os.trans h.os,k.tape.trans h.tape,k.output.trans h.output,Nat.le_trans h.size k.size,fun i hi=>(k.same i hi).trans (h.same i hi)⟩
def vc {α ι : Type} (Mi : ι→List aj) (Inv : List α→ι→Prop) (xs : List α) (w1 : World) (S1 : List Nat) : Exit→Act→World→Prop
  | .normal,_,W'=>∃ j,Inv xs j∧Holds w1 S1 (Mi j) W'
  | _,_,_=>False
theorem JE.round {α ι : Type} {n : Nat} {w1 : World} {S1 : List Nat} {E : Env} {M : List aj} {Mi : ι→List aj} {Inv : List α→ι→Prop} {xs : List α} (j : ι) (hj : Inv xs j) (hM : ak (Mi j) M) : JE n w1 S1 (vc Mi Inv xs w1 S1) .normal E M:=
  ⟨fun _ _ _ hw=>⟨j,hj,hw.weak hM⟩⟩
theorem JC.range {P : Program} {n : Nat} {w0 : World} {Q : Exit→Act→World→Prop} {E : Env} {M : List aj} {α ι : Type} {g : Operand} {p d rid : Nat} {ty : TypeId} {pos : String} {body : Code} {gf : Nat} {lb : Array Value} (enc : α→Value) (L : List Nat) (Sd Sp : List α→Prop) (N : Nat)
    (Mi : ι→List aj) (Inv : List α→ι→Prop) (hg : ev E g=some (.func (.func gf) #[] lb)) (eg : ∀ args w,(callFunc gf args).run P w=.ok (.enter gf args) w)
    (hseq : ∀ W,Holds w0 [] M W→SeqStopsK Fence.wide 2 P gf lb (fun x=>#[enc x]) (oW L) Sd Sp N W)
    (hcell : ∀ i,∀ e ∈ Mi i,∀ o,e.A o→o.isCells=true) (hL : ∀ i,∀ k ∈ L,k<w0.heap.size∨∃ A,Has (Mi i) k A false)
    (i0 : ι) (h0 : Inv [] i0) (hM : ∀ w,Holds w0 [] M w→Holds w0 [] (Mi i0) w) (hp : Nat.blt p n=true) (hd : Nat.blt d n=true)
    (hbody : ∀ l pre x i w1,Inv pre i→pre.length<N→Ext w0 w1→(∀ k ∈ y9 (Mi i),w0.heap.size≤k)→JR P n w1 (y9 (Mi i)) l 1 (vc Mi Inv (pre++[x]) w1 (y9 (Mi i))) body ((d,enc x)::(p,enc x)::E) (Mi i))
    (hdone : ∀ D xs i,Sd xs→Inv xs i→KE D n w0 [] Q .normal E (⟨D,A5,true⟩::Mi i)) :
    JC P n w0 [] Q (.rangeFunc g #[p] (.region rid #[⟨some d,.assign (.tmp p),ty,pos,#[],none⟩] false) body) E M:=by
  refine ⟨fun a w ha hw=>(wpIn_wide (n:=3)).1 ?_⟩
  have hLw : ∀ k ∈ L,k<w.heap.size:=fun k hk=>by
    rcases hL i0 k hk with h | ⟨A,h⟩
    · exact Nat.lt_of_lt_of_le h hw.aS.size
    · exact (hM w hw).lt h.mem
  have hI : OwnFrom w.heap.size (fun pre W=>∃ i,Inv pre i∧Holds w0 [] (Mi i) W):=by
    rintro pre W W' row ⟨i,hi,h⟩ hgr hrow
    refine ⟨i,hi,⟨hgr.os.trans h.aS.os,hgr.tape.trans h.aS.tape,hgr.output.trans h.aS.output,Nat.le_trans h.aS.size hgr.size,fun k hk _=>?_⟩,h.nodup,fun e he=>⟨?_,(h.all e he).2⟩⟩
    · refine (hgr.block k (Nat.lt_of_lt_of_le hk h.aS.size) fun hr=>?_).trans (h.aS.block k hk (by simp))
      have:=(hrow k hr.symm).1
      have:=hw.aS.size
      omega
    · obtain ⟨o,ho,hA⟩:=(h.all e he).1
      refine ⟨o,(hgr.block e.b (h.lt he) fun hr=>?_).trans ho,hA⟩
      obtain ⟨_,o2,ho2,hc⟩:=hrow _ hr.symm
      rw [ho] at ho2
      cases ho2
      rw [hcell i e he o hA] at hc
      cases hc
  have hpn : p<n:=by simpa using hp
  have hdn : d<n:=by simpa using hd
  refine wpIn_rangeFunc_ownG (n:=3) rfl (by omega) (gf:=gf) (lb:=lb) (ha.eval hg) trivial eg (w0:=w) (hseq w hw) (fun h k=>h.trans k) (fun W l o o' hl _ _ _=>?_) (RowKit.Below.refl _ _) (fun _=>rfl)
    (fun pre W=>∃ i,Inv pre i∧Holds w0 [] (Mi i) W) (fun _ _ _=>False) hI (fun _ _ _ _ _ h _ _=>h) ⟨i0,h0,hM w hw⟩ (fun x=>(a.put (some p) (enc x)).put (some d) (enc x)) ?_ ?_ ?_ (fun _ _ _ _ _ _ h _=>h.elim)
  · exact ⟨rfl,rfl,rfl,by simp,fun k hk=>World.putObj_heap_other (by have:=hLw k hk;omega)⟩
  · intro l x W K hK
    refine wpIn_region_lit (wpListIn_plain rfl fun K' hK'=>⟨fun _ _=>trivial,?_⟩)
    have he : ((#[p].zip #[enc x]).foldl (fun t (x : Nat × Value)=>t.setIfInBounds x.1 x.2) a.tmps).getD p undef=enc x:=by
      have : p<a.tmps.size:=by rw [ha.size];exact hpn
      simp [this]
    have hs : Oper.semAt (Rd l).round ({ tmps:=(#[p].zip #[enc x]).foldl (fun t (x : Nat × Value)=>t.setIfInBounds x.1 x.2) a.tmps,defers:=[] } : Act).eval ⟨some d,.assign (.tmp p),ty,pos,#[],none⟩=.pure (.value (enc x)):=by
      refine (Oper.semAt_some l _ _ ?_).trans ?_
      · intro c h;cases h
      show Sem.pure (Next.value (_ : Value))=_
      exact congrArg (fun v=>Sem.pure (Next.value v)) he
    show Oper.uponIn _ _ _ _ _ _ _ ((Oper.semAt (Rd l).round _ _).run P W)
    rw [hs]
    refine hK' _ _ (wpListIn_nil ?_)
    show K _ W
    have e : ({ tmps:=(#[p].zip #[enc x]).foldl (fun t (x : Nat × Value)=>t.setIfInBounds x.1 x.2) a.tmps,defers:=[] } : Act).put (some d) (enc x)=(a.put (some p) (enc x)).put (some d) (enc x):=by
      obtain ⟨tm,df⟩:=a
      have:=ha.defers
      simp only at this
      subst this
      simp [Act.put]
    rw [e]
    exact hK
  · rintro l pre x W ⟨i,hi,h⟩ hlen
    refine wpIn_mono ((hbody l pre x i W hi hlen h.aS h.nO).go _ W ((ha.put p _ hp).put d _ hd) h.zN) ?_
    · rintro e a2 W2 hq
      cases e with
      | normal=>
        obtain ⟨j,hj,h2⟩:=hq
        refine ⟨⟨h2.aS.size,fun k o _ hk ho=>?_⟩,⟨h2.aS.os,h2.aS.tape,h2.aS.output,h2.aS.size,fun k hk=>?_⟩,j,hj,h.zO h2⟩
        · refine (h2.aS.block k (Array.getElem?_eq_some_iff.1 hk).1 fun hm=>?_).trans hk
          obtain ⟨e,he,_,rfl⟩:=kz.1 hm
          obtain ⟨o',ho',hA⟩:=(h.all e he).1
          rw [hk] at ho'
          cases ho'
          rw [hcell i e he _ hA] at ho
          cases ho
        · rcases hL i k hk with hlt | ⟨A,hA⟩
          · exact h2.aS.block k (Nat.lt_of_lt_of_le hlt h.aS.size) fun hm=>by have:=h.nO k hm;omega
          · refine h2.aS.block k (h.lt hA.mem) fun hm=>?_
            obtain ⟨e,he,hwr,hb⟩:=kz.1 hm
            have:=tu h.nodup he hA.mem hb
            subst this
            cases hwr
      | ret=>exact hq.elim
      | exit id=>exact hq.elim
      | goto t=>exact hq.elim
      | panic ch=>exact hq.elim
      | outgrown=>exact hq.elim
  · rintro D xs W hD hS ⟨i,hi,h⟩ hk
    refine (hdone D xs i hS hi).go _ W ⟨?_,?_⟩ ?_
    · show _::a.defers=_
      rw [ha.defers];rfl
    · exact ⟨ha.size,rfl,ha.all⟩
    · refine ⟨h.aS,?_,fun e he=>?_⟩
      · simp only [List.map_cons,List.nodup_cons,h.nodup,and_true]
        intro hm
        obtain ⟨e,he,hb⟩:=List.mem_map.1 hm
        obtain ⟨o,ho,hA⟩:=(h.all e he).1
        rw [hb] at ho
        rw [hk] at ho
        cases ho
        have:=hcell i e he _ hA
        cases this
      · simp only [List.mem_cons] at he
        rcases he with rfl | he
        · exact ⟨⟨_,hk,rfl⟩,fun _=>.inr (Nat.le_trans hw.aS.size hD)⟩
        · exact h.all e he
end Sl
end
section
namespace Sl
section
variable {P : Program} {n : Nat} {W : World} {ops : Array Oper} {Q Q' : Exit→Act→World→Prop} {os : List Oper} {E E' : Env} {d : Nat} {op : Op} {ty : TypeId} {pos : String} {aft : Array Edge} {v : Value} {m : Nat}
structure FL (P : Program) (n m : Nat) (W : World) (ops : Array Oper) (Q : Exit→Act→World→Prop) (os : List Oper) (E : Env) : Prop where
  go : ∀ a,aG n E a→wpListIn Fence.wide m P ops Q os a W
structure FE (n : Nat) (W : World) (Q : Exit→Act→World→Prop) (e : Exit) (E : Env) : Prop where
  go : ∀ a,aG n E a→Q e a W
structure FC (P : Program) (n : Nat) (W : World) (Q : Exit→Act→World→Prop) (c : Code) (E : Env) : Prop where
  go : ∀ a,aG n E a→c.wp P Q a W
theorem FC.seq {x y : Code} (h : FC P n W (Exit.then (y.wp P Q) Q) x E) : FC P n W Q (.seq x y) E:=⟨fun a ha=>wp_seq (h.go a ha)⟩
theorem FC.skip (h : FE n W Q .normal E) : FC P n W Q .skip E:=⟨fun a ha=>wp_skip (h.go a ha)⟩
theorem FC.ret (h : FE n W Q .ret E) : FC P n W Q .ret E:=⟨fun a ha=>wp_ret (h.go a ha)⟩
theorem FC.exit {id : Nat} (h : FE n W Q (.exit id) E) : FC P n W Q (.exit id) E:=⟨fun a ha=>wp_exit (h.go a ha)⟩
theorem FC.block {id : Nat} {c : Code} (h : FC P n W (Exit.inBlock id Q) c E) : FC P n W Q (.block id c) E:=⟨fun a ha=>wp_block (h.go a ha)⟩
theorem FC.cond {c : Operand} {x y : Code} {t : Bool} (hc : ev E c=some (.bool t)) (ht : t=true→FC P n W Q x E) (hf : t=false→FC P n W Q y E) : FC P n W Q (.cond c x y) E:=
  ⟨fun a ha=>wp_cond_split (ha.eval hc) (fun h=>(ht h).go a ha) (fun h=>(hf h).go a ha)⟩
theorem FC.region {id : Nat} {os : List Oper} (h : FL P n 2 W os.toArray Q os E) : FC P n W Q (.region id os.toArray false) E:=⟨fun a ha=>(wpIn_wide (n:=2)).1 (wpIn_region_lit (h.go a ha))⟩
theorem FE.next {y : Code} (h : FC P n W Q' y E) : FE n W (Exit.then (y.wp P Q') Q) .normal E:=⟨h.go⟩
theorem FL.nil (h : FE n W Q .normal E) : FL P n m W ops Q [] E:=⟨h.go⟩
theorem FL.q (h : OQ P n E (fun w=>w=W) ⟨some d,op,ty,pos,aft,none⟩ v) (hdf : oV ⟨some d,op,ty,pos,aft,none⟩=true) (hd : Nat.blt d n=true) (k : FL P n m W ops Q os ((d,v)::E)) : FL P n m W ops Q (⟨some d,op,ty,pos,aft,none⟩::os) E:=
  ⟨fun a ha=>wpListIn_plain rfl fun K hK=>by
    have hk:=hK _ _ (k.go _ (ha.put d v hd))
    have hq:=h.go a ha W rfl
    refine ⟨fun _ _=>trivial,?_⟩
    have e : Oper.semAt Fence.wide.round a.eval ⟨some d,op,ty,pos,aft,none⟩=execOp a.eval ⟨some d,op,ty,pos,aft,none⟩:=rfl
    rw [e]
    unfold Oper.quietAt at hq
    cases hr : (execOp a.eval ⟨some d,op,ty,pos,aft,none⟩).run P W with
    | ok nx w'=>
      rw [hr] at hq
      cases nx with
      | value u=>
        obtain ⟨rfl,rfl⟩:=hq
        exact hk
      | skip=>
        obtain ⟨rfl,rfl⟩:=hq
        exact hk
      | enter f args=>
        obtain ⟨rfl,hc⟩:=hq
        refine ⟨fun h=>(by cases h),(callsIn_wide (n:=m - 1)).2 (hc.mono ?_)⟩
        rintro e w2 ⟨rfl,rfl⟩
        exact hk
      | _=>exact hq.elim
    | halt x w'=>
      rw [hr] at hq
      exact hq.elim⟩
theorem FC.loop {ι : Type} (Ei : ι→Env) (Ci : ι→World→Prop) (μ : ι→Nat) {c : Code} (i : ι) (hi : Ci i W) (hE : ah E (Ei i))
    (h : ∀ i w,Ci i w→FC P n w (Exit.then (fun a' w'=>∃ j,Ci j w'∧μ j<μ i∧aG n (Ei j) a') Q) c (Ei i)) : FC P n W Q (.loop c) E:=by
  refine ⟨fun a ha=>?_⟩
  have ha':=ha.sub hE
  clear ha hE
  have key : ∀ m i,μ i=m→∀ a w,Ci i w→aG n (Ei i) a→∀ (b : Frame) (k : List Item) (cs : List Frame),
      ∃ e a' w',Q e a' w'∧Arrives P (lone (b.at a (.code c::.inLoop c::k)) cs w) b k cs e a' w':=by
    intro m
    induction m using Nat.strongRecOn with
    | _ m ih=>
      intro i hm a w hw ha b k cs
      obtain ⟨e,a₁,w₁,hq,harr⟩:=(h i w hw).go a ha b (.inLoop c::k) cs
      cases e with
      | normal=>
        obtain ⟨j,hw₁,hlt,ha₁⟩:=hq
        obtain ⟨e₂,a₂,w₂,hq₂,harr₂⟩:=ih (μ j) (hm ▸ hlt) j rfl a₁ w₁ hw₁ ha₁ b k cs
        exact ⟨e₂,a₂,w₂,hq₂,.of_steps (Steps.trans harr (.one step_inLoop)) harr₂⟩
      | exit id=>exact ⟨_,a₁,w₁,hq,.pass (x:=.inLoop c) rfl (fun _ _=>.inl (by simp)) harr⟩
      | goto l=>exact ⟨_,a₁,w₁,hq,.pass (x:=.inLoop c) rfl (fun _ _=>.inl (by simp)) harr⟩
      | ret=>exact ⟨_,a₁,w₁,hq,.pass (x:=.inLoop c) rfl (fun _ _=>.inl (by simp)) harr⟩
      | panic ch=>exact ⟨_,a₁,w₁,hq,.pass (x:=.inLoop c) rfl (fun _ _=>.inl (by simp)) harr⟩
      | outgrown=>exact ⟨_,a₁,w₁,hq,.pass (x:=.inLoop c) rfl (fun _ _=>.inl (by simp)) harr⟩
  intro b k cs
  obtain ⟨e,a',w',hq,harr⟩:=key _ i rfl a W hi ha' b k cs
  exact ⟨e,a',w',hq,.of_steps (.one step_loop) harr⟩
end
end Sl
end
section
namespace Sl
variable {Y : Type}
structure bk (Y : Type) where
  E0 : Env
  N : Nat
  v : Nat→Y→Value
  M : Nat→Y→List aj
  need : Nat→List (Nat × Nat)
  iC : Nat→List Nat
  nL : Nat→List Nat
  src : Nat→Option Nat
  E1 : Nat→Env
  R : Nat→Y→Y→Prop
def bk.zI (g : bk Y) (l : List Oper) (i : Nat) : Bool:=
  (g.E1 i).all fun p=>(List.range l.length).all fun k=>bV l k != some p.1 || (k != i && bF l k i)
def bk.jr (g : bk Y) (l : List Oper) (i : Nat) (o : Oper) : Bool:=
  (((g.need i).all (fun p=>behind o p.1 && bV l p.1 == some p.2) && rZ o (g.src i)) && g.zI l i) &&
  ((g.iC i).all (fun j=>decide (j<g.N) && (decide (l.length≤j) || behind o j)) &&
  ((g.nL i).all (fun j=>(g.iC i).contains j) &&
  ((List.range l.length).all (fun k=>k == i || (g.nL k).all fun j=>!(g.iC i).contains j || bF l k i) &&
  (iD (g.iC i) && (o.after.toList.all (fun e=>!Region.binds .any e || decide (e.on<i)) && jq l g.E0 i o.dst)))))
def bk.dh (g : bk Y) (l : List Oper) : Nat→List Oper→Bool
  | _,[]=>true
  | i,o::r=>g.jr l i o && g.dh l (i+1) r
theorem bk.bG {g : bk Y} {l : List Oper} : ∀ {r : List Oper} {i : Nat},g.dh l i r=true→∀ {j o},r[j]?=some o→g.jr l (i+j) o=true
  | [],_,_,j,o,h=>by simp at h
  | q::r,i,hk,j,o,h=>by
    simp only [bk.dh,Bool.and_eq_true] at hk
    cases j with
    | zero=>
      simp only [List.getElem?_cons_zero,Option.some.injEq] at h
      subst h
      exact hk.1
    | succ j=>
      have:=bk.bG hk.2 (j:=j) (o:=o) (by simpa using h)
      rwa [show i+1+j=i+(j+1) by omega] at this
def bk.AV (g : bk Y) (P : Program) (n : Nat) (w0 : World) (S : List Nat) (l : List Oper) (i : Nat) (o : Oper) : Prop:=
  ∀ (x : Nat→Y) (EF : Env) (MF : List aj) (Q : Exit→Act→World→Prop),
    (∀ xi : Y,(∀ k,g.src i=some k→g.R i xi (x k))→JE n w0 S Q .normal (slot o.dst (g.v i xi)++((g.need i).map (fun p=>(p.2,g.v p.1 (x p.1)))++(g.E0++(g.E1 i++EF)))) (g.M i xi++(((g.iC i).filter fun j=>!(g.nL i).contains j).flatMap (fun j=>g.M j (x j))++MF)))→
    JL P n w0 S l.toArray Q [o] ((g.need i).map (fun p=>(p.2,g.v p.1 (x p.1)))++(g.E0++(g.E1 i++EF))) ((g.iC i).flatMap (fun j=>g.M j (x j))++MF)
def bk.kP (g : bk Y) (P : Program) (n : Nat) (w0 : World) (S : List Nat) (l : List Oper) : Nat→List Oper→Prop
  | _,[]=>True
  | i,o::r=>g.AV P n w0 S l i o∧g.kP P n w0 S l (i+1) r
theorem bk.iE {g : bk Y} {P : Program} {n : Nat} {w0 : World} {S : List Nat} {l : List Oper} : ∀ {r : List Oper} {i : Nat},g.kP P n w0 S l i r→∀ {j o},r[j]?=some o→g.AV P n w0 S l (i+j) o
  | [],_,_,j,o,h=>by simp at h
  | q::r,i,hk,j,o,h=>by
    cases j with
    | zero=>
      simp only [List.getElem?_cons_zero,Option.some.injEq] at h
      subst h
      exact hk.1
    | succ j=>
      have:=bk.iE hk.2 (j:=j) (o:=o) (by simpa using h)
      rwa [show i+1+j=i+(j+1) by omega] at this
def bk.live (g : bk Y) (m : Nat) (done : Array Bool) (j : Nat) : Prop:=j<g.N∧(m≤j∨done.getD j false=true)∧∀ k,done.getD k false=true→j ∉ g.nL k
structure bk.Inv (g : bk Y) (n : Nat) (w0 : World) (S : List Nat) (l : List Oper) (done : Array Bool) (x : Nat→Y) (a : Act) (w : World) : Prop where
  size : a.tmps.size=n
  defers : a.defers=[]
  kQ : done.size=l.length
  base : ∀ p ∈ g.E0,a.tmps.getD p.1 undef=p.2
  first : ∀ j,j<l.length→done.getD j false=false→∀ p ∈ g.E1 j,a.tmps.getD p.1 undef=p.2
  vals : ∀ j d,done.getD j false=true→bV l j=some d→a.tmps.getD d undef=g.v j (x j)
  rel : ∀ j k,done.getD j false=true→g.src j=some k→g.R j (x j) (x k)
  down : ∀ j i,done.getD j false=true→bF l j i=true→done.getD i false=true
  mem : eu w0 S (g.live l.length done) (fun j=>g.M j (x j)) w
section
variable {P : Program} {n : Nat} {w0 : World} {S : List Nat} {Q : Exit→Act→World→Prop} {E : Env} {M : List aj} {g : bk Y} {l : List Oper}
theorem bk.run (hok : g.dh l 0 l=true) (hj : g.kP P n w0 S l 0 l)
    (hend : ∀ done x a w,g.Inv n w0 S l done x a w→(∀ j,j<l.length→done.getD j false=true)→Q .normal a w) :
    ∀ (f : Nat) (done : Array Bool) (x : Nat→Y) (a : Act) (w : World),f=(List.range l.length).countP (fun j=>!done.getD j false)→g.Inv n w0 S l done x a w→wpAny P .any l.toArray Q f done a w:=by
  have hrdy : ∀ done : Array Bool,done.size=l.length→Region.ready .any l.toArray done=[]→∀ j,j<l.length→done.getD j false=true:=by
    intro done hds hr j
    induction j using Nat.strongRecOn with
    | _ j ih=>
      intro hjl
      cases hd : done.getD j false with
      | true=>rfl
      | false=>
        obtain ⟨o,ho⟩ : ∃ o,l[j]?=some o:=⟨_,List.getElem?_eq_getElem hjl⟩
        have hk:=bk.bG hok ho
        simp only [bk.jr,Bool.and_eq_true,Nat.zero_add] at hk
        have hkk:=hk.2.2.2.2.2.1
        have : j ∈ Region.ready .any l.toArray done:=by
          rw [mem_ready]
          refine ⟨?_,o,by simpa using ho,fun e he hb=>?_⟩
          · rw [Array.getD_eq_getD_getElem?,Array.getElem?_eq_getElem (by omega)] at hd ⊢
            simpa using hd
          · have:=List.all_eq_true.1 hkk e (by simpa using he)
            simp only [hb,Bool.not_true,Bool.false_or,decide_eq_true_eq] at this
            exact ih e.on this (by omega)
        rw [hr] at this
        cases this
  intro f
  induction f with
  | zero=>
    intro done x a w hf hI
    have hall : ∀ j,j<l.length→done.getD j false=true:=fun j hjl=>by
      have:=List.countP_eq_zero.1 hf.symm j (List.mem_range.2 hjl)
      simpa using this
    refine ⟨?_,hend done x a w hI hall⟩
    refine List.eq_nil_iff_forall_not_mem.2 fun i hi=>?_
    obtain ⟨hu,o,ho,_⟩:=mem_ready.1 hi
    have hil : i<l.length:=by
      have:=(Array.getElem?_eq_some_iff.1 ho).1
      simpa using this
    have:=hall i hil
    rw [Array.getD_eq_getD_getElem?,Array.getElem?_eq_getElem (by have:=hI.kQ;omega)] at hu this
    simp only [Option.getD_some] at hu this
    rw [hu] at this
    cases this
  | succ f ih=>
    intro done x a w hf hI
    have hds:=hI.kQ
    refine ⟨fun h0=>hend done x a w hI (hrdy done hds h0),fun i hi=>?_⟩
    obtain ⟨hu,o,ho,hbe⟩:=mem_ready.1 hi
    have hil : i<l.length:=by
      have:=(Array.getElem?_eq_some_iff.1 ho).1
      simpa using this
    have ho' : l[i]?=some o:=by simpa using ho
    have hu' : done.getD i false=false:=by
      rw [Array.getD_eq_getD_getElem?,Array.getElem?_eq_getElem (by omega)] at hu ⊢
      simpa using hu
    have hk:=bk.bG hok ho'
    simp only [bk.jr,Bool.and_eq_true,Nat.zero_add] at hk
    obtain ⟨⟨⟨k1,k8⟩,k9⟩,k2,k3,k4,k5,_,k7⟩:=hk
    have hbeh : ∀ j,behind o j=true→done.getD j false=true:=fun j hj=>by
      simp only [behind,List.any_eq_true,Bool.and_eq_true,beq_iff_eq] at hj
      obtain ⟨e,he,rfl,hb⟩:=hj
      exact hbe e (by simpa using he) hb
    have hbi : ∀ k,bF l k i=true→done.getD k false=false:=fun k hk=>by
      cases h : done.getD k false with
      | false=>rfl
      | true=>have:=hI.down k i h hk;rw [hu'] at this;cases this
    have hinp : ∀ j ∈ g.iC i,g.live l.length done j:=by
      intro j hj
      have h2:=List.all_eq_true.1 k2 j hj
      simp only [Bool.and_eq_true,Bool.or_eq_true,decide_eq_true_eq] at h2
      refine ⟨h2.1,h2.2.imp id (hbeh j),fun k hkd hjk=>?_⟩
      have hkl : k<l.length:=by
        by_cases h : k<l.length
        · exact h
        · rw [Array.getD_eq_getD_getElem?,Array.getElem?_eq_none (by omega)] at hkd
          cases hkd
      have h4:=List.all_eq_true.1 k4 k (List.mem_range.2 hkl)
      have hki : k≠i:=fun e=>by rw [e,hu'] at hkd;cases hkd
      simp only [Bool.or_eq_true,beq_iff_eq,hki,false_or] at h4
      have h5:=List.all_eq_true.1 h4 j hjk
      simp only [Bool.or_eq_true,Bool.not_eq_true',List.contains_eq_mem,decide_eq_false_iff_not,hj,not_true,false_or] at h5
      rw [hbi k h5] at hkd
      cases hkd
    have hdone_ne : ∀ j,done.getD j false=true→j≠i:=fun j hj e=>by rw [e,hu'] at hj;cases hj
    have hlen : ∀ k,done.getD k false=true→k<l.length:=fun k hkd=>by
      by_cases h : k<l.length
      · exact h
      · rw [Array.getD_eq_getD_getElem?,Array.getElem?_eq_none (by omega)] at hkd
        cases hkd
    have hdi : bV l i=o.dst:=by simp [bV,ho']
    have hne : ∀ j d,done.getD j false=true→bV l j=some d→o.dst≠some d:=by
      intro j d hjd hd he
      rw [he] at k7
      simp only [jq,Bool.and_eq_true] at k7
      have:=List.all_eq_true.1 k7.1 j (List.mem_range.2 (hlen j hjd))
      simp [hdone_ne j hjd,hd] at this
    have hne0 : ∀ p ∈ g.E0,o.dst≠some p.1:=by
      intro p hp he
      rw [he] at k7
      simp only [jq,Bool.and_eq_true] at k7
      have:=List.all_eq_true.1 k7.2 p hp
      simp at this
    let rest : List Nat:=(List.range g.N).filter fun j=>@decide (g.live l.length done j) (Classical.propDecidable _) && !(g.iC i).contains j
    have hrest : ∀ j,j ∈ rest↔g.live l.length done j∧j ∉ g.iC i:=by
      intro j
      simp only [rest,List.mem_filter,List.mem_range,Bool.and_eq_true,Bool.not_eq_true',List.contains_eq_mem,decide_eq_false_iff_not]
      refine ⟨fun ⟨_,h2,h3⟩=>⟨@of_decide_eq_true _ (Classical.propDecidable _) h2,h3⟩,fun ⟨h2,h3⟩=>⟨h2.1,@decide_eq_true _ (Classical.propDecidable _) h2,h3⟩⟩
    have hnd : (g.iC i++rest).Nodup:=by
      rw [List.nodup_append]
      refine ⟨ff k5,List.nodup_range.filter _,fun a ha b hb e=>?_⟩
      exact ((hrest b).1 hb).2 (e ▸ ha)
    have H1:=hI.mem.to (g.iC i++rest) hnd (fun j hj=>by
      rcases List.mem_append.1 hj with h | h
      · exact hinp j h
      · exact ((hrest j).1 h).1)
    rw [List.flatMap_append] at H1
    let EF0 : Env:=(List.range l.length).filterMap fun j=>if done.getD j false=true then (bV l j).map (fun d=>(d,g.v j (x j))) else none
    let EF1 : Env:=(List.range l.length).flatMap fun j=>if done.getD j false=true then [] else g.E1 j
    let EF : Env:=EF0++EF1
    have hEF : ∀ p,p ∈ EF0↔∃ j d,done.getD j false=true∧bV l j=some d∧p=(d,g.v j (x j)):=by
      intro p
      simp only [EF0,List.mem_filterMap,List.mem_range]
      constructor
      · rintro ⟨j,_,hp⟩
        split at hp
        · rename_i hjd
          obtain ⟨d,hd,rfl⟩:=Option.map_eq_some_iff.1 hp
          exact ⟨j,d,hjd,hd,rfl⟩
        · cases hp
      · rintro ⟨j,d,hjd,hd,rfl⟩
        exact ⟨j,hlen j hjd,by rw [if_pos hjd,hd];rfl⟩
    have hEF1 : ∀ j,j<l.length→done.getD j false=false→∀ p ∈ g.E1 j,p ∈ EF1:=by
      intro j hjl hjd p hp
      simp only [EF1,List.mem_flatMap,List.mem_range]
      exact ⟨j,hjl,by rw [if_neg (by rw [hjd];decide)];exact hp⟩
    have hne1 : ∀ j,j<l.length→done.getD j false=false→∀ p ∈ g.E1 j,o.dst≠some p.1:=by
      intro j hjl hjd p hp he
      have hjo : l[j]?=some (l[j]'hjl):=List.getElem?_eq_getElem hjl
      have hkj:=bk.bG hok hjo
      simp only [bk.jr,Bool.and_eq_true,Nat.zero_add] at hkj
      have h9:=List.all_eq_true.1 hkj.1.2 p hp
      have h10:=List.all_eq_true.1 h9 i (List.mem_range.2 hil)
      simp only [hdi,he,bne_self_eq_false,Bool.false_or,Bool.and_eq_true] at h10
      have h11 : behind o j=true:=by simpa [bF,ho'] using h10.2
      rw [hbeh j h11] at hjd
      cases hjd
    have hneed : ∀ p ∈ g.need i,done.getD p.1 false=true∧bV l p.1=some p.2:=by
      intro p hp
      have h1:=List.all_eq_true.1 k1 p hp
      simp only [Bool.and_eq_true,beq_iff_eq] at h1
      exact ⟨hbeh _ h1.1,h1.2⟩
    have hK : ∀ p ∈ ((g.need i).map (fun p=>(p.2,g.v p.1 (x p.1)))++(g.E0++(g.E1 i++EF))),a.tmps.getD p.1 undef=p.2∧o.dst≠some p.1:=by
      intro p hp
      rcases List.mem_append.1 hp with h | h
      · obtain ⟨q,hq,rfl⟩:=List.mem_map.1 h
        obtain ⟨h1,h2⟩:=hneed q hq
        exact ⟨hI.vals _ _ h1 h2,hne _ _ h1 h2⟩
      · rcases List.mem_append.1 h with h | h
        · exact ⟨hI.base p h,hne0 p h⟩
        · rcases List.mem_append.1 h with h | h
          · exact ⟨hI.first i hil hu' p h,hne1 i hil hu' p h⟩
          · rcases List.mem_append.1 h with h | h
            · obtain ⟨j,d,h1,h2,rfl⟩:=(hEF p).1 h
              exact ⟨hI.vals _ _ h1 h2,hne _ _ h1 h2⟩
            · simp only [EF1,List.mem_flatMap,List.mem_range] at h
              obtain ⟨j,hjl,h⟩:=h
              cases hjd : done.getD j false with
              | true=>rw [hjd] at h;simp at h
              | false=>
                rw [hjd] at h
                simp only [Bool.false_eq_true,if_false] at h
                exact ⟨hI.first j hjl hjd p h,hne1 j hjl hjd p h⟩
    have job:=bk.iE hj ho'
    rw [Nat.zero_add] at job
    refine fe ho ((job x EF (rest.flatMap fun j=>g.M j (x j)) _ fun xi hxi=>⟨fun a' w' hK' hH'=>?_⟩).go a w (aG.of hI.size hI.defers fun p hp=>(hK p hp).1) H1)
    have hd' : ∀ j,(done.setIfInBounds i true).getD j false=(decide (j=i) || done.getD j false):=fun j=>oI (by omega)
    refine ih _ (fun j=>if j=i then xi else x j) a' w' ?_ ?_
    · have:=kN (l:=List.range l.length) (p:=fun j=>!done.getD j false) (q:=fun j=>!(done.setIfInBounds i true).getD j false) (i:=i) List.nodup_range (List.mem_range.2 hil) (by simp only [hu'];rfl) (by simp only [hd'];simp) (fun j hj=>by simp only [hd'];simp [hj])
      omega
    · have hmem : ∀ p ∈ (slot o.dst (g.v i xi)++((g.need i).map (fun p=>(p.2,g.v p.1 (x p.1)))++(g.E0++(g.E1 i++EF)))),a'.tmps.getD p.1 undef=p.2:=by
        intro p hp
        refine hK'.mem (f:=fun t=>if o.dst=some t then g.v i xi else a.tmps.getD t undef) (fun q hq=>?_) hp
        rcases List.mem_append.1 hq with h | h
        · cases hod : o.dst with
          | none=>rw [hod] at h;cases h
          | some d=>
            rw [hod] at h
            simp only [slot,List.mem_singleton] at h
            subst h
            simp
        · have:=hK q h
          simp only [this.2,if_false]
          exact this.1
      refine ⟨hK'.size,hK'.defers,by simp [hds],fun p hp=>hmem p (by simp [hp]),fun j hjl hjd p hp=>?_,?_,?_,?_,?_⟩
      · rw [hd'] at hjd
        simp only [Bool.or_eq_false_iff] at hjd
        exact hmem p (List.mem_append_right _ (List.mem_append_right _ (List.mem_append_right _ (List.mem_append_right _ (List.mem_append_right _ (hEF1 j hjl hjd.2 p hp))))))
      · intro j d hjd hd
        by_cases e : j=i
        · subst e
          rw [hdi] at hd
          have:=hmem (d,g.v j xi) (by simp [hd,slot])
          simpa using this
        · rw [hd'] at hjd
          simp only [e,decide_false,Bool.false_or] at hjd
          have:=hmem (d,g.v j (x j)) (List.mem_append_right _ (List.mem_append_right _ (List.mem_append_right _ (List.mem_append_right _ (List.mem_append_left _ ((hEF _).2 ⟨j,d,hjd,hd,rfl⟩))))))
          simpa [e] using this
      · intro j k hjd hs
        rw [hd'] at hjd
        by_cases e : j=i
        · subst e
          rw [hs] at k8
          simp only [if_true,hdone_ne k (hbeh k k8),if_false]
          exact hxi k hs
        · simp only [e,decide_false,Bool.false_or] at hjd
          have hjo : l[j]?=some (l[j]'(hlen j hjd)):=List.getElem?_eq_getElem (hlen j hjd)
          have hkj:=bk.bG hok hjo
          simp only [bk.jr,Bool.and_eq_true,Nat.zero_add] at hkj
          have h8:=hkj.1.1.2
          rw [hs] at h8
          have hkd:=hI.down j k hjd (by simpa [bF,hjo,rZ] using h8)
          simp only [e,hdone_ne k hkd,if_false]
          exact hI.rel j k hjd hs
      · intro j i' hjd hb
        rw [hd'] at hjd ⊢
        by_cases e : j=i
        · subst e
          have : behind o i'=true:=by simpa [bF,ho'] using hb
          simp [hbeh i' this]
        · simp only [e,decide_false,Bool.false_or] at hjd
          simp [hI.down j i' hjd hb]
      · have hnl : ¬ g.live l.length done i:=fun h=>by
          rcases h.2.1 with h | h
          · omega
          · rw [hu'] at h;cases h
        have hcg : ∀ L : List Nat,(∀ j ∈ L,g.live l.length done j)→L.flatMap (fun j=>g.M j (if j=i then xi else x j))=L.flatMap fun j=>g.M j (x j):=by
          intro L
          induction L with
          | nil=>simp
          | cons j L ih=>
            intro h
            have hji : j≠i:=fun e=>hnl (e ▸ h j (by simp))
            simp only [List.flatMap_cons,hji,if_false,ih fun k hk=>h k (by simp [hk])]
        refine eu.of (Js:=i::(((g.iC i).filter fun j=>!(g.nL i).contains j)++rest)) ?_ ?_
        · rw [List.flatMap_cons,List.flatMap_append,hcg _ (fun j hj=>hinp j (List.mem_filter.1 hj).1),hcg rest (fun j hj=>((hrest j).1 hj).1)]
          simpa using hH'
        · intro j hj
          by_cases e : j=i
          · simp [e]
          · have hl : g.live l.length done j:=by
              refine ⟨hj.1,hj.2.1.imp id (fun h=>?_),fun k hk=>hj.2.2 k (by rw [hd'];simp [hk])⟩
              rw [hd'] at h
              simpa [e] using h
            have hne : j ∉ g.nL i:=hj.2.2 i (by rw [hd'];simp)
            by_cases hji : j ∈ g.iC i
            · simp [e,hji,hne]
            · have:=(hrest j).2 ⟨hl,hji⟩
              simp [e,this]
theorem tv [Inhabited Y] (g : bk Y) (outs : List (Nat × Nat)) (ends : List Nat) (hE : ah E g.E0) (hE1 : ∀ i,i<l.length→ah E (g.E1 i)) (hM : ak (((List.range g.N).filter fun j=>decide (l.length≤j)).flatMap fun j=>g.M j default) M)
    (hok : g.dh l 0 l=true) (ho : (outs.all fun p=>decide (p.1<l.length) && bV l p.1 == some p.2)=true)
    (he : (iD ends && ends.all fun j=>decide (j<g.N) && (List.range l.length).all fun k=>!(g.nL k).contains j)=true)
    (hj : g.kP P n w0 S l 0 l)
    (k : ∀ x : Nat→Y,(∀ j k,j<l.length→g.src j=some k→g.R j (x j) (x k))→JE n w0 S Q .normal (outs.map (fun p=>(p.2,g.v p.1 (x p.1)))++g.E0) (ends.flatMap fun j=>g.M j (x j))) {a : Act} {w : World} (ha : aG n E a) (hw : Holds w0 S M w) : wpAny P .any l.toArray Q l.toArray.size (Array.replicate l.toArray.size false) a { w with drawn:=w.drawn+1 }:=by
    have hw':=(hw.drawn (w.drawn+1)).weak hM
    simp only [Bool.and_eq_true] at he
    refine bk.run hok hj (fun done x a w hI hall=>?_) _ _ (fun _=>default) a _ ?_ ?_
    · refine (k x fun j k hj hs=>hI.rel j k (hall j hj) hs).go a w (aG.of hI.size hI.defers fun p hp=>?_) (hI.mem.to ends (ff he.1) fun j hj=>?_)
      · rcases List.mem_append.1 hp with h | h
        · obtain ⟨q,hq,rfl⟩:=List.mem_map.1 h
          have:=List.all_eq_true.1 ho q hq
          simp only [Bool.and_eq_true,decide_eq_true_eq,beq_iff_eq] at this
          exact hI.vals _ _ (hall _ this.1) this.2
        · exact hI.base p h
      · have:=List.all_eq_true.1 he.2 j hj
        simp only [Bool.and_eq_true,decide_eq_true_eq] at this
        refine ⟨this.1,?_,fun k hk hjk=>?_⟩
        · by_cases h : l.length≤j
          · exact .inl h
          · exact .inr (hall j (by omega))
        · have hkl : k<l.length:=by
            by_cases h : k<l.length
            · exact h
            · have:=hI.kQ
              rw [Array.getD_eq_getD_getElem?,Array.getElem?_eq_none (by omega)] at hk
              cases hk
          have:=List.all_eq_true.1 this.2 k (List.mem_range.2 hkl)
          simp [hjk] at this
    · have : ∀ j,(Array.replicate l.toArray.size false).getD j false=false:=fun j=>by
        simp only [Array.getD_eq_getD_getElem?,Array.getElem?_replicate]
        split <;> rfl
      rw [List.countP_eq_length.2 (fun j _=>by simp only [this];rfl)]
      simp
    · have hf : ∀ j,(Array.replicate l.toArray.size false).getD j false=false:=fun j=>by
        simp only [Array.getD_eq_getD_getElem?,Array.getElem?_replicate]
        split <;> rfl
      refine ⟨ha.size,ha.defers,by simp,fun p hp=>ha.all _ _ (hE.all p hp),fun j hj _ p hp=>ha.all _ _ ((hE1 j hj).all p hp),fun j d h=>?_,fun j k h=>?_,fun j i h=>?_,?_⟩
      · rw [hf] at h;cases h
      · rw [hf] at h;cases h
      · rw [hf] at h;cases h
      · refine eu.of hw' fun j hj=>?_
        rw [List.mem_filter]
        refine ⟨List.mem_range.2 hj.1,?_⟩
        rcases hj.2.1 with h | h
        · simpa using h
        · rw [hf] at h;cases h
theorem JC.zb [Inhabited Y] (g : bk Y) (outs : List (Nat × Nat)) (ends : List Nat) {id : Nat} (hm : P.follows .mixedOrders=true) (hE : ah E g.E0) (hE1 : ∀ i,i<l.length→ah E (g.E1 i)) (hM : ak (((List.range g.N).filter fun j=>decide (l.length≤j)).flatMap fun j=>g.M j default) M)
    (hok : g.dh l 0 l=true) (ho : (outs.all fun p=>decide (p.1<l.length) && bV l p.1 == some p.2)=true)
    (he : (iD ends && ends.all fun j=>decide (j<g.N) && (List.range l.length).all fun k=>!(g.nL k).contains j)=true)
    (hj : g.kP P n w0 S l 0 l)
    (k : ∀ x : Nat→Y,(∀ j k,j<l.length→g.src j=some k→g.R j (x j) (x k))→JE n w0 S Q .normal (outs.map (fun p=>(p.2,g.v p.1 (x p.1)))++g.E0) (ends.flatMap fun j=>g.M j (x j))) : JC P n w0 S Q (.region id l.toArray true) E M:=
  ⟨fun a w ha hw=>wp_region_any hm (tv g outs ends hE hE1 hM hok ho he hj k ha hw)⟩
end
end Sl
end
section
namespace Sl
section
variable {P : Program} {m l : Nat}
end
section
variable {P : Program} {n : Nat} {w0 : World} {S : List Nat} {Q Q' : Exit→Act→World→Prop} {E : Env} {M : List aj} {m r : Nat}
theorem JR.cond {c : Operand} {x y : Code} {t : Bool} (hc : ev E c=some (.bool t)) (ht : t=true→JR P n w0 S r m Q x E M) (hf : t=false→JR P n w0 S r m Q y E M) : JR P n w0 S r m Q (.cond c x y) E M:=
  ⟨fun a w ha hw=>wpIn_cond_split (ha.eval hc) (fun h=>(ht h).go a w ha hw) (fun h=>(hf h).go a w ha hw)⟩
theorem JR.skip (h : JE n w0 S Q .normal E M) : JR P n w0 S r m Q .skip E M:=⟨fun a w ha hw=>wpIn_skip (h.go a w ha hw)⟩
theorem JR.ret (h : JE n w0 S Q .ret E M) : JR P n w0 S r m Q .ret E M:=⟨fun a w ha hw=>wpIn_ret (h.go a w ha hw)⟩
end
section
variable {P : Program} {D n : Nat} {w0 : World} {S : List Nat} {ops : Array Oper} {Q Q' : Exit→Act→World→Prop} {os : List Oper} {E : Env} {M : List aj} {d : Nat} {op : Op} {ty : TypeId} {pos : String} {aft : Array Edge} {v : Value}
end
section
variable {ι κ : Type} {Mi : ι→List aj} {Inv : Nat→ι→Prop} {Mx : κ→List aj} {Fin : κ→Prop} {k n : Nat} {w1 : World} {S1 : List Nat} {E : Env} {M : List aj}
end
theorem Holds.mark {w0 W : World} {M : List aj} {D : Nat} (h : Holds w0 [] M W) (hc : ∀ e ∈ M,∀ o,e.A o→o.isCells=true) (hD : w0.heap.size≤D) (hk : W.heap[D]?=some (.deferred (some []))) : Holds w0 [] (⟨D,A5,true⟩::M) W:=by
  refine ⟨h.aS,?_,fun e he=>?_⟩
  · simp only [List.map_cons,List.nodup_cons,h.nodup,and_true]
    intro hm
    obtain ⟨e,he,hb⟩:=List.mem_map.1 hm
    obtain ⟨o,ho,hA⟩:=(h.all e he).1
    rw [hb,hk] at ho
    cases ho
    have:=hc e he _ hA
    cases this
  · rcases List.mem_cons.1 he with rfl | he
    · exact ⟨⟨_,hk,rfl⟩,fun _=>.inr hD⟩
    · exact h.all e he
end Sl
end
section
set_option maxRecDepth 10000
open Go.RowKit
namespace Sl
end Sl
end
section
set_option maxRecDepth 10000
open Sl dc
section
variable {P : Program} {n : Nat} {E : Env} {dst : Option Tmp} {t ty : TypeId} {pos : String} {aft : Array Edge} {g : Option (Nat × Bool)} {x : Operand} {b j : Nat} {v : Value} {W : World} {cs : List Value}
end
end
section
set_option maxRecDepth 10000
open Sl dc
section
variable {P : Program} {n : Nat} {E : Env} {C : World→Prop} {dst : Option Tmp} {t t' e ty : TypeId} {pos : String} {aft : Array Edge} {g : Option (Nat × Bool)} {x y : Operand}
end
def ia (s : az) (S : List Nat) : Prop:=s.l≠[]→∀ a,s.ad=some a→a.block ∉ S
end
section
set_option maxRecDepth 10000
open Sl
section
variable {P : Program} {n : Nat} {w0 : World} {S : List Nat} {ops : Array Oper} {Q : Exit→Act→World→Prop} {l : List Oper} {E : Env} {M : List aj} {C : World→Prop}
variable {dst : Option Tmp} {d : Nat} {t t' e ty : TypeId} {pos : String} {aft : Array Edge} {g : Option (Nat × Bool)} {x y : Operand}
theorem JL.bI {ι : Type} {X M0 : List aj} (vf : ι→Value) (Yf : ι→List aj) {f : FuncId} {xs : List Operand} {ats : Array TypeId} {vs : List Value} (hg : aI P f) (hx : gS E xs=some vs) (hd : Nat.blt d n=true) (hX : ∀ e ∈ X,e.wr=true) (hY : ∀ i,∀ e ∈ Yf i,e.wr=true)
    (hc : ∀ w,Holds w0 S (X++M0) w→Holds w (keys X) X w→Calls P f vs.toArray w fun e w'=>∃ i,e=.returned (vf i)∧Holds w (keys X) (Yf i) w')
    (k : ∀ i,JL P n w0 S ops Q l ((d,vf i)::E) (Yf i++M0)) : JL P n w0 S ops Q (⟨some d,.call ⟨.value (.func f),xs.toArray,ats⟩,ty,pos,aft,none⟩::l) E (X++M0):=
  JL.call (ι:=ι) vf (fun i=>Yf i++M0) hg hx hd (fun w hw=>(hc w hw (hw.own.weak (an _ _))).mono fun _ _ ⟨i,h1,h2⟩=>⟨i,h1,hw.u5 h2 hX (hY i)⟩) k
theorem OQ.zP {ad : Option Addr} {k cap : Nat} (hu : P.underlying t=some (.slice e)) (hx : ev E x=some (.slice ad k cap)) (hy : ev E y=some (.slice none 0 0)) :
    OQ P n E C ⟨dst,.binOp .eql t x y t',ty,pos,aft,g⟩ (.bool ad.isNone):=
  OQ.run fun c ha w _=>by
    have h1:=ha.eval hx
    have h2:=ha.eval hy
    have h4 : (binOp .eql t (.slice ad k cap) (.slice none 0 0)).run P w=.ok (.bool ad.isNone) w:=by
      show (do pure (.bool (← Op.equal t (.slice ad k cap) (.slice none 0 0))) : Sem Value).run P w=_
      simp [Sem.run_bind,run_equal_slice_nil w t e ad k cap hu]
    simp [execOp,h1,h2,eqGuard,h4]
theorem OQ.nP {a : Option Addr} (hu : P.underlying t=some (.pointer e)) (hx : ev E x=some (.pointer a)) (hy : ev E y=some (.pointer none)) :
    OQ P n E C ⟨dst,.binOp .eql t x y t',ty,pos,aft,g⟩ (.bool a.isNone):=
  OQ.run fun c ha w _=>by
    have h1:=ha.eval hx
    have h2:=ha.eval hy
    have h3 : ∀ w,(underlying t).run P w=.ok (.pointer e) w:=run_underlying hu
    have h4 : (binOp .eql t (.pointer a) (.pointer none)).run P w=.ok (.bool a.isNone) w:=by
      show (do pure (.bool (← Op.equalIn (9999+1) t (.pointer a) (.pointer none))) : Sem Value).run P w=_
      unfold Op.equalIn
      cases a <;> simp [Sem.run_bind,h3]
    simp [execOp,h1,h2,eqGuard,h4]
end
theorem ct {w0 w : World} {S : List Nat} {X M : List aj} {b : Nat} {A : Obj→Prop} {wr : Bool} (hw : Holds w0 S (X++M) w) (hM : Has M b A wr) : b ∉ keys X:=by
  have hn:=hw.nodup
  rw [List.map_append,List.nodup_append] at hn
  intro hm
  exact hn.2.2 b hm b (List.mem_map_of_mem (f:=aj.b) hM.mem) rfl
end
section
set_option maxRecDepth 10000
open Sl dc
theorem kY {w0 w : World} {X M : List aj} {s : az} (hw : Holds w0 [] (X++M) w) (hX : ∀ e ∈ X,e.wr=true) (hs : s.ok w0) : ia s (keys X):=by
  intro h0 a ha hm
  obtain ⟨e,he,hb⟩:=List.mem_map.1 hm
  have h1:=hs.lt h0 a ha
  rcases (hw.all e (List.mem_append_left _ he)).2 (hX e he) with h | h
  · cases h
  · omega
theorem br.write {x : Dp} {bl : List Bk} {pd : List (Nat × Bk)} (h : br x bl pd) {n : Nat} {b : Bk} (hn : n<bl.length) (hb : b.length=64) (hm : pd.length+1≤1000000) (y : Nat × Nat) : br ⟨x.p,x.q,x.cap,some y⟩ (bl.set n b) (wrote bl pd n) where
  ok:=h.ok.write hn hb
  n0:=by rw [List.length_set];exact h.n0
  n1:=by rw [List.length_set];exact h.n1
  m:=by rw [wrote,List.length_append];exact hm
  a:=nofun
theorem br.sync {x : Dp} {bl : List Bk} {pd : List (Nat × Bk)} (h : br x bl pd) : br ⟨x.p,x.q,x.cap,none⟩ bl []:=⟨h.ok.sync,h.n0,h.n1,by simp,fun _=>rfl⟩
theorem br.new {x : Dp} {n : Nat} (h1 : 1≤n) (h2 : n≤65536) : br x (c6 n) []:=⟨Ok.new n,by rw [c6,List.length_replicate];exact h1,by rw [c6,List.length_replicate];exact h2,by simp,fun _=>rfl⟩
section
variable {n : Nat} {w0 : World} {S : List Nat} {ops : Array Oper} {Q : Exit→Act→World→Prop} {l : List Oper} {E : Env} {M : List aj}
variable {d : Nat} {ty : TypeId} {pos : String} {aft : Array Edge} {x1 x2 x3 : Operand} {ats : Array TypeId} {x : Dp} {bl : List Bk} {pd : List (Nat × Bk)}
theorem JL.BZ {k : Nat} (h1 : 1≤k) (h2 : k≤65536) (e1 : ev E x1=some (N k)) (hd : Nat.blt d n=true)
    (kk : ∀ x : Dp,br x (c6 k) []→JL Tryz.prog n w0 S ops Q l ((d,.tuple #[Pt x.p 0,N 0])::E) (bT x (c6 k) []++M)) : JL Tryz.prog n w0 S ops Q (⟨some d,.call ⟨.value (.func 24),#[x1],ats⟩,ty,pos,aft,none⟩::l) E M:=
  JL.bq (ι:={ x : Dp // br x (c6 k) [] }) (xs:=[x1]) (vs:=[N k]) (fun x=>.tuple #[Pt x.1.p 0,N 0]) (fun x=>bT x.1 (c6 k) []) tj (by simp [gS,e1]) hd (fun x=>bW _ _ _)
    (fun w _=>(xL k h1 h2 w).mono fun e w' ⟨x,g1,_,g3⟩=>⟨⟨x,br.new h1 h2⟩,g1,g3⟩) fun x=>kk x.1 x.2
end
theorem oX : aI Tryz.prog 68:=⟨_,Tryz.func68,rfl,by kernel_rfl⟩
theorem tw {L : List (List Value)} (h : ∀ c ∈ L,c.all Value.oneCell'=true) : ∀ v ∈ L.flatten,v.oneCell'=true:=by
  intro v hv
  obtain ⟨c,hc,hv⟩:=List.mem_flatten.1 hv
  exact List.all_eq_true.1 (h c hc) v hv
theorem ve (bl : List Bk) : ∀ v ∈ (ke bl).flatten,v.oneCell'=true:=tw fun c hc=>by
  obtain ⟨b,_,rfl⟩:=List.mem_map.1 hc
  exact ej b
set_option maxHeartbeats 4000000 in
theorem qD (ad : Addr) (cap : Nat) (bl : List Bk) (hb : ∀ x ∈ bl,x.length=64) (h1 : bl.length≤65536) (w : World) (hr : Reads w (some ad) (ke bl).flatten) : Calls Tryz.prog 68 [.slice (some ad) bl.length cap].toArray w fun e w'=>∃ y : Nat × Nat,e=.returned (.slice (some ⟨y.1,0,none⟩) bl.length y.2)∧Holds w [] [⟨y.1,Sl.Own 138 64 bl.length y.2 (ke bl).flatten,true⟩] w':=by
  refine enter (n:=8) Tryz.func68 rfl rfl rfl (Holds.start w []) ?_
  have hlen : (ke bl).flatten.length=bl.length * 64:=by rw [bH (ku (pd:=[]) ⟨hb,by simp⟩),sk]
  repeat (first | refine JL.q (by first|(apply OQ.zP;exact Tryz.underlying84;rfl;rfl)|(apply OQ.move;rfl)|(apply OQ.assign;rfl)) rfl ?_ | refine JC.seq ?_ | refine JC.region ?_ | refine JL.nil ?_ | refine JE.next ?_)
  refine JC.cond_false rfl rfl ?_
  repeat (first | refine JC.seq ?_ | refine JC.region ?_ | refine JC.skip ?_ | refine JE.next ?_)
  refine JL.AX Tryz.underlying84 BY rfl fun b0 _=>?_
  repeat (refine JL.q (by (apply OQ.move;rfl)) rfl ?_)
  refine JL.append (cs:=(ke bl).flatten) (m:=bl.length) (ad:=some ad) (sc:=cap) (xs:=[]) (fun b' cap'=>[⟨b',Sl.Own 138 64 (0+bl.length) cap' ([]++(ke bl).flatten),true⟩]) Tryz.underlying84 BY rfl rfl (by intro _ _;repeat (first | exact dy.here | apply dy.there)) hlen (fun w' hw'=>hw'.reads hr (fun _ _ _=>by simp)) (ve bl) rfl (by decide) (by omega) (by omega) rfl fun b2 cap2=>?_
  rw [Nat.zero_add,List.nil_append]
  repeat (first | refine JL.q (by (apply OQ.assign;rfl)) rfl ?_ | refine JL.nil ?_ | refine JE.next ?_)
  exact JC.ret (JE.aP rfl (RV.tmp rfl) fun w' hw=>⟨(b2,cap2),rfl,hw⟩)
theorem tC : aI Tryz.prog 46:=⟨_,Tryz.func46,rfl,by kernel_rfl⟩
set_option maxHeartbeats 4000000 in
theorem tD (x : Dp) (bl : List Bk) (pd : List (Nat × Bk)) (h : br x bl pd) {u w : World} {S : List Nat} {M : List aj} (hw : Holds u S (bT x bl pd++M) w) : Calls Tryz.prog 46 [Pt x.p 0].toArray w fun e w'=>∃ z : Dp,e=.returned (Pt z.p 0)∧Holds w [] (bT ⟨z.p,z.q,z.cap,none⟩ bl []) w':=by
  have hc:=(sq hw).1
  have hr : Reads w (some ⟨x.q,0,none⟩) (ke bl).flatten:=by
    obtain ⟨o,ho,hA⟩:=hw.get (b:=x.q) (A:=Sl.Own 138 64 bl.length x.cap (ke bl).flatten) (wr:=true) (.there .here)
    exact Reads.block ho (Sl.Own.cells o hA)
  refine enter (n:=10) Tryz.func46 rfl rfl rfl (Holds.start w []) ?_
  repeat (first | refine JL.q (by first|(apply OQ.bw;exact y8;rfl;exact (block_lt_of_cell hc);exact (by simp);exact hc)|(apply OQ.move;rfl)|(apply OQ.assign;rfl)|(apply OQ.bx;rfl)|(apply OQ.bA;rfl;rfl;rfl;exact (by decide);rfl)) rfl ?_ | refine JC.seq ?_ | refine JC.region ?_ | refine JL.nil ?_ | refine JE.next ?_)
  refine JL.bq (ι:=Nat × Nat) (vs:=[.slice (some ⟨x.q,0,none⟩) bl.length x.cap]) (fun y=>.slice (some ⟨y.1,0,none⟩) bl.length y.2) (fun y=>[⟨y.1,Sl.Own 138 64 bl.length y.2 (ke bl).flatten,true⟩]) oX rfl rfl (fun y e he=>by rw [List.mem_singleton.1 he]) (fun w' hw'=>qD _ _ bl h.ok.b h.n1 w' (hw'.reads hr (fun _ _ _=>by simp))) fun y=>?_
  repeat (refine JL.q (by (apply OQ.vb;rfl)) rfl ?_)
  refine JL.box (r:=[.slice (some ⟨y.1,0,none⟩) bl.length y.2,.slice none 0 0]) rfl rfl rfl fun p hp=>?_
  repeat (first | refine JL.q (by (apply OQ.assign;rfl)) rfl ?_ | refine JL.nil ?_ | refine JE.next ?_)
  refine JC.ret (JE.aP rfl (RV.tmp rfl) fun w' hw=>⟨⟨p,y.1,y.2,none⟩,rfl,hw⟩)
end
section
set_option maxRecDepth 10000
namespace Sl
section
variable {P : Program} {n : Nat} {w0 : World} {S : List Nat} {ops : Array Oper} {Q : Exit→Act→World→Prop} {l : List Oper} {E : Env} {M : List aj} {C : World→Prop}
variable {dst : Option Tmp} {d : Nat} {t ty : TypeId} {pos name : String} {aft : Array Edge} {g : Option (Nat × Bool)} {r : Operand} {v u : Value} {f : FuncId} {xs : List Operand} {ats ats' : Array TypeId}
theorem mM (A M : List aj) : ak A (A++M):=by
  induction A with
  | nil=>exact .nil _
  | cons e A ih=>exact .keep _ _ _ _ _ _ (fun _ h=>h) ih
def dO (P : Program) (t : TypeId) (v : Value) (name : String) (f : FuncId) : Prop:=uP P (Go.method (P.types.size+Made.depth) t v name)=some (f,v)
theorem oY {a : Act} (hm : dO P t v name f) (hk : aG n E a) (hr : ev E r=some (.iface t v)) (w : World) :
    (execOp a.eval ⟨dst,.call ⟨.invoke r name,xs.toArray,ats⟩,ty,pos,aft,g⟩).run P w=(execOp a.eval ⟨dst,.call ⟨.value (.func f),(.const v::xs).toArray,ats'⟩,ty,pos,aft,g⟩).run P w:=by
  have h1:=hk.eval hr
  have h2 : (Go.method (P.types.size+Made.depth) t v name).run P w=.ok (f,v) w:=eY hm
  have e2 : a.eval (.func f)=.func (.func f) #[] #[]:=rfl
  have e3 : a.eval (.const v)=v:=rfl
  have e4 : List.take xs.length (List.map a.eval xs)=List.map a.eval xs:=List.take_of_length_le (by simp)
  simp only [execOp,resolve,Sem.run_bind,Sem.run_pure,Result.andThen_ok,e2,Deferred.ofValue,invoke]
  simp [h1,callMethod,program,Sem.run_bind,Sem.run,h2,e3,e4]
theorem OQ.inv (hm : dO P t v name f) (hr : ev E r=some (.iface t v)) (h : OQ P n E C ⟨dst,.call ⟨.value (.func f),(.const v::xs).toArray,ats⟩,ty,pos,aft,g⟩ u) : OQ P n E C ⟨dst,.call ⟨.invoke r name,xs.toArray,ats⟩,ty,pos,aft,g⟩ u:=by
  refine ⟨fun a ha w hw=>?_⟩
  have h1:=h.go a ha w hw
  unfold Oper.quietAt at h1 ⊢
  rw [oY hm ha hr]
  exact h1
theorem kZ {a : Act} {vs : List Value} (hm : dO P t v name f) (hg : aI P f) (hk : aG n E a) (hr : ev E r=some (.iface t v)) (hx : gS E xs=some vs) (w : World) :
    (execOp a.eval ⟨dst,.call ⟨.invoke r name,xs.toArray,ats⟩,ty,pos,aft,g⟩).run P w=.ok (.enter f (v::vs).toArray) w:=by
  rw [oY (ats':=ats) hm hk hr]
  exact jo hg hk (by simp [gS,hx,ev]) w
theorem JL.ze {ι : Type} {op : Op} {X M0 : List aj} {vs : List Value} (vf : ι→Value) (Yf : ι→List aj) (hex : ∀ a,aG n E a→∀ w,(execOp a.eval ⟨some d,op,ty,pos,aft,none⟩).run P w=.ok (.enter f vs.toArray) w) (hd : Nat.blt d n=true) (hX : ∀ e ∈ X,e.wr=true) (hY : ∀ i,∀ e ∈ Yf i,e.wr=true)
    (hc : ∀ w,Holds w0 S (X++M0) w→Holds w (keys X) X w→Calls P f vs.toArray w fun e w'=>∃ i,e=.returned (vf i)∧Holds w (keys X) (Yf i) w')
    (k : ∀ i,JL P n w0 S ops Q l ((d,vf i)::E) (Yf i++M0)) : JL P n w0 S ops Q (⟨some d,op,ty,pos,aft,none⟩::l) E (X++M0):=
  ⟨fun a w ha hw=>wpList_plain rfl fun K hK=>by
    unfold Oper.wp
    rw [hex a ha w]
    exact (hc w hw (hw.own.weak (mM _ _))).mono fun e w' ⟨i,h1,h2⟩=>by subst h1;exact hK _ _ ((k i).go _ _ (ha.put d _ hd) (hw.u5 h2 hX (hY i)))⟩
end
end Sl
end
section
namespace dz
open dc
abbrev Mk:=BitVec 32 × BitVec 32 × BitVec 16 × Bool
def cL (l : Bk) : BitVec 32:=l.foldl (fun (n : BitVec 32) (c : BitVec 8)=>(n <<< 8) ||| c.setWidth 32) 0
def eE (l : Bk) : Nat:=l.foldl (fun (n : Nat) (c : BitVec 8)=>256 * n+c.toNat) 0
def be (n : BitVec 32) (size : Nat) : Bk:=(List.range size).map fun i=>(n >>> (8 * (size - 1 - i))).setWidth 8
def dm (b : Bk) : BitVec 16:=(cL ((b.drop 8).take 2)).setWidth 16
def ag (b : Bk) : Mk:=(cL (b.take 4),cL ((b.drop 4).take 4),dm b % 32768#16,decide (32768≤(dm b).toNat))
def vg (m : Mk) : BitVec 32:=if m.2.2.2 then m.2.2.1.setWidth 32+32768#32 else m.2.2.1.setWidth 32
def mb (m : Mk) : Bk:=be m.1 4++be m.2.1 4++be (vg m) 2
def aY (m : Mk) (part : Bk) : Bk:=mb m++be (BitVec.ofNat 32 part.length) 2++part++List.replicate (42 - part.length) 0++mb m
def cnt (b : Bk) : Nat:=(cL ((b.drop 10).take 2)).toNat
def bC (b : Bk) : Bool:=decide (ag b=ag (b.drop 54)) && (decide (cnt b≤42) && (decide (cnt b=42) || (ag b).2.2.2))
def partOf (b : Bk) : Bk:=(b.drop 12).take (cnt b)
theorem vh {n : BitVec 32} {c : BitVec 8} (h : n.toNat<16777216) : ((n <<< 8) ||| c.setWidth 32).toNat=256 * n.toNat+c.toNat:=by
  rw [BitVec.toNat_or,BitVec.toNat_shiftLeft,BitVec.toNat_setWidth]
  have hc:=c.isLt
  rw [Nat.mod_eq_of_lt (by omega : c.toNat<2 ^ 32),Nat.shiftLeft_eq,Nat.mod_eq_of_lt (by omega)]
  have:=Nat.two_pow_add_eq_or_of_lt (i:=8) (b:=c.toNat) hc n.toNat
  rw [Nat.mul_comm n.toNat (2 ^ 8),← this]
theorem k6 : ∀ (l : Bk) (n : BitVec 32) (k : Nat),n.toNat<256 ^ k→k+l.length≤4→(l.foldl (fun (n : BitVec 32) (c : BitVec 8)=>(n <<< 8) ||| c.setWidth 32) n).toNat=l.foldl (fun (n : Nat) (c : BitVec 8)=>256 * n+c.toNat) n.toNat∧l.foldl (fun (n : Nat) (c : BitVec 8)=>256 * n+c.toNat) n.toNat<256 ^ (k+l.length)
  | [],n,k,h,_=>⟨rfl,h⟩
  | c::l,n,k,h,hl=>by
    simp only [List.length_cons] at hl
    have hk : 256 ^ k≤256 ^ 3:=Nat.pow_le_pow_right (by decide) (by omega)
    have hs:=vh (n:=n) (c:=c) (by omega)
    have hc:=c.isLt
    have hlt : ((n <<< 8) ||| c.setWidth 32).toNat<256 ^ (k+1):=by rw [hs,Nat.pow_succ];omega
    have ih:=k6 l _ (k+1) hlt (by omega)
    simp only [List.foldl_cons]
    rw [hs] at ih
    refine ⟨ih.1,?_⟩
    have:=ih.2
    simp only [List.length_cons]
    rwa [show k+(l.length+1)=k+1+l.length by omega]
theorem jy {l : Bk} (h : l.length≤4) : (cL l).toNat=eE l:=(k6 l 0 0 (by decide) (by omega)).1
theorem su {l : Bk} (h : l.length≤4) : eE l<256 ^ l.length:=by
  have:=(k6 l 0 0 (by decide) (by omega)).2
  rwa [Nat.zero_add] at this
theorem bn (n : BitVec 32) (s : Nat) : (be n s).length=s:=by simp [be]
theorem Co (n : BitVec 32) : eE (be n 4)=n.toNat:=by
  have h:=n.isLt
  have e : be n 4=[(n >>> 24).setWidth 8,(n >>> 16).setWidth 8,(n >>> 8).setWidth 8,(n >>> 0).setWidth 8]:=rfl
  rw [e]
  simp only [eE,List.foldl_cons,List.foldl_nil,BitVec.toNat_setWidth,BitVec.toNat_ushiftRight,Nat.shiftRight_eq_div_pow]
  omega
theorem Cp (n : BitVec 32) : eE (be n 2)=n.toNat % 65536:=by
  have e : be n 2=[(n >>> 8).setWidth 8,(n >>> 0).setWidth 8]:=rfl
  rw [e]
  simp only [eE,List.foldl_cons,List.foldl_nil,BitVec.toNat_setWidth,BitVec.toNat_ushiftRight,Nat.shiftRight_eq_div_pow]
  omega
theorem sv (n : BitVec 32) : cL (be n 4)=n:=BitVec.eq_of_toNat_eq (by rw [jy (by rw [bn];decide),Co])
theorem sw (n : BitVec 32) : (cL (be n 2)).toNat=n.toNat % 65536:=by rw [jy (by rw [bn];decide),Cp]
theorem dP (m : Mk) : (mb m).length=10:=by simp [mb,bn]
theorem jz {m : Mk} {part : Bk} (h : part.length≤42) : (aY m part).length=64:=by
  simp only [aY,List.length_append,dP,bn,List.length_replicate]
  omega
def zQ (m : Mk) : Prop:=m.2.2.1.toNat<32768
theorem sx {m : Mk} (h : zQ m) (r : Bk) : ag (mb m++r)=m:=by
  obtain ⟨g,n,p,l⟩:=m
  have hp : p.toNat<32768:=h
  have e1 : (mb (g,n,p,l)++r).take 4=be g 4:=by simp [mb,List.append_assoc,List.take_append,bn]
  have e2 : ((mb (g,n,p,l)++r).drop 4).take 4=be n 4:=by simp [mb,List.append_assoc,List.drop_append,List.take_append,bn,List.drop_eq_nil_of_le]
  have e3 : ((mb (g,n,p,l)++r).drop 8).take 2=be (vg (g,n,p,l)) 2:=by simp [mb,List.append_assoc,List.drop_append,List.take_append,bn,List.drop_eq_nil_of_le]
  have e4 : dm (mb (g,n,p,l)++r)=(cL (be (vg (g,n,p,l)) 2)).setWidth 16:=by unfold dm;rw [e3]
  have hpl : (vg (g,n,p,l)).toNat=if l then p.toNat+32768 else p.toNat:=by
    unfold vg
    cases l
    · simp only [Bool.false_eq_true,if_false,BitVec.toNat_setWidth]
      omega
    · simp only [if_true,BitVec.toNat_add,BitVec.toNat_setWidth]
      rw [show (32768#32).toNat=32768 from rfl]
      omega
  have e5 : (dm (mb (g,n,p,l)++r)).toNat=if l then p.toNat+32768 else p.toNat:=by
    rw [e4,BitVec.toNat_setWidth,sw,hpl]
    cases l
    · simp only [Bool.false_eq_true,if_false];omega
    · simp only [if_true];omega
  unfold ag
  rw [e1,e2,sv,sv,e5]
  have e6 : dm (mb (g,n,p,l)++r) % 32768#16=p:=by
    apply BitVec.eq_of_toNat_eq
    rw [BitVec.toNat_umod,e5,show (32768#16).toNat=32768 from rfl]
    cases l
    · simp only [Bool.false_eq_true,if_false];omega
    · simp only [if_true];omega
  rw [e6]
  cases l
  · simp only [Bool.false_eq_true,if_false]
    rw [decide_eq_false (by omega)]
  · simp only [if_true]
    rw [decide_eq_true (by omega)]
theorem fo {m : Mk} (h : zQ m) (part : Bk) : ag (aY m part)=m:=by
  unfold aY
  simp only [List.append_assoc]
  exact sx h _
theorem ld {m : Mk} (h : zQ m) {part : Bk} (hp : part.length≤42) : ag ((aY m part).drop 54)=m:=by
  have e : (aY m part).drop 54=mb m++[]:=by
    unfold aY
    rw [List.drop_append,List.drop_eq_nil_of_le (by simp only [List.length_append,dP,bn,List.length_replicate];omega)]
    simp only [List.length_append,dP,bn,List.length_replicate]
    rw [show 54 - (10+2+part.length+(42 - part.length))=0 by omega]
    simp
  rw [e]
  exact sx h _
theorem mN {m : Mk} {part : Bk} (hp : part.length≤42) : cnt (aY m part)=part.length:=by
  have e : ((aY m part).drop 10).take 2=be (BitVec.ofNat 32 part.length) 2:=by
    unfold aY
    simp only [List.append_assoc]
    rw [List.drop_append_of_le_length (by rw [dP];decide),List.drop_of_length_le (by rw [dP];decide),List.nil_append,List.take_append_of_le_length (by rw [bn];decide),List.take_of_length_le (by rw [bn];decide)]
  unfold cnt
  rw [e,sw,BitVec.toNat_ofNat]
  omega
theorem lg {m : Mk} {part : Bk} (hp : part.length≤42) : partOf (aY m part)=part:=by
  unfold partOf
  rw [mN hp]
  unfold aY
  simp only [List.append_assoc]
  rw [← List.append_assoc (mb m),List.drop_append_of_le_length (by rw [List.length_append,dP,bn];decide),List.drop_of_length_le (by rw [List.length_append,dP,bn];decide),List.nil_append,List.take_append_of_le_length (Nat.le_refl _),List.take_of_length_le (Nat.le_refl _)]
theorem jT {m : Mk} (h : zQ m) {part : Bk} (hp : part.length≤42) (hl : part.length=42∨m.2.2.2=true) : bC (aY m part)=true:=by
  unfold bC
  rw [fo h,ld h hp,mN hp]
  rcases hl with hl | hl <;> simp [hl] <;> omega
def nb (n : Nat) : Nat:=max 1 (n / 42+min 1 (n % 42))
theorem lp (n : Nat) : 0<nb n:=by unfold nb;omega
theorem mO (n : Nat) : n≤nb n * 42:=by unfold nb;omega
theorem A6 {n i : Nat} (h : i+1<nb n) : (i+1) * 42<n:=by unfold nb at h;omega
def tE (g : BitVec 32) (r : Nat) (n i : Nat) : Mk:=(g,BitVec.ofNat 32 r,BitVec.ofNat 16 i,decide (i+1=n))
def chunk (rec : Bk) (i : Nat) : Bk:=(rec.drop (i * 42)).take 42
def blk (g : BitVec 32) (r : Nat) (rec : Bk) (i : Nat) : Bk:=aY (tE g r (nb rec.length) i) (chunk rec i)
def cH (g : BitVec 32) (r : Nat) (rec : Bk) : List Bk:=(List.range (nb rec.length)).map (blk g r rec)
def rd (g : BitVec 32) (r : Nat) : List Bk→Nat→Bk→Option (Bk × Nat)
  | [],_,_=>none
  | b::bs,p,acc=>if bC b=true∧ag b=(g,BitVec.ofNat 32 r,BitVec.ofNat 16 p,(ag b).2.2.2) then
      (if (ag b).2.2.2 then some (acc++partOf b,p+1) else rd g r bs (p+1) (acc++partOf b)) else none
theorem vi {g : BitVec 32} {r : Nat} : ∀ {bs : List Bk} {p : Nat} {acc rec : Bk} {k : Nat},rd g r bs p acc=some (rec,k)→p<k∧k≤p+bs.length
  | [],_,_,_,_,h=>by simp [rd] at h
  | b::bs,p,acc,rec,k,h=>by
    unfold rd at h
    split at h
    · split at h
      · simp only [Option.some.injEq,Prod.mk.injEq] at h
        simp only [List.length_cons]
        omega
      · have:=vi h
        simp only [List.length_cons]
        omega
    · cases h
def gW (g : BitVec 32) : Nat→List Bk→Nat→List Bk
  | 0,_,_=>[]
  | f+1,bs,n=>match rd g n bs 0 [] with
    | some (rec,k)=>rec::gW g f (bs.drop k) (n+1)
    | none=>[]
def told (g : BitVec 32) (bs : List Bk) : List Bk:=gW g (bs.length+1) bs 0
theorem bH {rec : Bk} (i : Nat) : (chunk rec i).length=min 42 (rec.length - i * 42):=by simp [chunk]
theorem vj {g : BitVec 32} {r : Nat} {rec : Bk} (hn : nb rec.length≤32768) (rest : List Bk) : ∀ (d p : Nat),p+d+1=nb rec.length→
    rd g r (((List.range (nb rec.length)).drop p).map (blk g r rec)++rest) p (rec.take (p * 42))=some (rec,nb rec.length):=by
  intro d
  induction d with
  | zero=>
    intro p hp
    have hp1 : p<nb rec.length:=by omega
    have e : (List.range (nb rec.length)).drop p=p::(List.range (nb rec.length)).drop (p+1):=by
      rw [List.drop_eq_getElem_cons (by simpa using hp1)]
      simp
    have hc : (chunk rec p).length≤42:=by rw [bH];omega
    have hok : zQ (tE g r (nb rec.length) p):=by
      show (BitVec.ofNat 16 p).toNat<32768
      rw [BitVec.toNat_ofNat]
      omega
    have hl : (tE g r (nb rec.length) p).2.2.2=true:=decide_eq_true (by omega)
    have hm : ag (blk g r rec p)=tE g r (nb rec.length) p:=fo hok _
    rw [e,List.map_cons,List.cons_append,rd,if_pos ⟨jT hok hc (.inr hl),by rw [hm];rfl⟩,hm,hl,if_pos rfl]
    have hpt : partOf (blk g r rec p)=chunk rec p:=lg hc
    rw [hpt]
    have hle:=mO rec.length
    have : rec.take (p * 42)++chunk rec p=rec:=by
      unfold chunk
      rw [List.take_of_length_le (by rw [List.length_drop];omega : (rec.drop (p * 42)).length≤42),List.take_append_drop]
    rw [this]
    congr 2
  | succ d ih=>
    intro p hp
    have hp1 : p<nb rec.length:=by omega
    have e : (List.range (nb rec.length)).drop p=p::(List.range (nb rec.length)).drop (p+1):=by
      rw [List.drop_eq_getElem_cons (by simpa using hp1)]
      simp
    have hlt:=A6 (n:=rec.length) (i:=p) (by omega)
    have hc : (chunk rec p).length=42:=by rw [bH];omega
    have hok : zQ (tE g r (nb rec.length) p):=by
      show (BitVec.ofNat 16 p).toNat<32768
      rw [BitVec.toNat_ofNat]
      omega
    have hl : (tE g r (nb rec.length) p).2.2.2=false:=decide_eq_false (by omega)
    have hm : ag (blk g r rec p)=tE g r (nb rec.length) p:=fo hok _
    rw [e,List.map_cons,List.cons_append,rd,if_pos ⟨jT hok (by omega) (.inl hc),by rw [hm];rfl⟩,hm,hl,if_neg (by decide)]
    have hpt : partOf (blk g r rec p)=chunk rec p:=lg (by omega)
    rw [hpt]
    have : rec.take (p * 42)++chunk rec p=rec.take ((p+1) * 42):=by
      unfold chunk
      rw [Nat.succ_mul,List.take_add]
    rw [this]
    exact ih (p+1) (by omega)
theorem xM {g : BitVec 32} {r : Nat} {rec : Bk} (hn : nb rec.length≤32768) (rest : List Bk) : rd g r (cH g r rec++rest) 0 []=some (rec,nb rec.length):=by
  have h:=vj (g:=g) (r:=r) hn rest (nb rec.length - 1) 0 (by have:=lp rec.length;omega)
  simpa [cH] using h
theorem bX (g : BitVec 32) (r : Nat) (rec : Bk) : (cH g r rec).length=nb rec.length:=by simp [cH]
def bt (g : BitVec 32) : Nat→List Bk→List Bk
  | _,[]=>[]
  | n,rec::aa=>cH g n rec++bt g (n+1) aa
def room (aa : List Bk) : Nat:=(aa.map fun r=>nb r.length).sum
theorem bP (g : BitVec 32) : ∀ (n : Nat) (aa : List Bk),(bt g n aa).length=room aa
  | _,[]=>rfl
  | n,rec::aa=>by
    rw [bt,List.length_append,bX,bP g (n+1) aa]
    simp [room]
theorem fX (g : BitVec 32) : ∀ (n : Nat) (a b : List Bk),bt g n (a++b)=bt g n a++bt g (n+a.length) b
  | n,[],b=>by simp [bt]
  | n,r::a,b=>by
    rw [List.cons_append,bt,bt,fX g (n+1) a b,List.append_assoc,List.length_cons,show n+1+a.length=n+(a.length+1) by omega]
theorem dA (a b : List Bk) : room (a++b)=room a+room b:=by simp [room]
theorem kC (aa : List Bk) : aa.length≤room aa:=by
  induction aa with
  | nil=>exact Nat.le_refl _
  | cons r aa ih=>
    have:=lp r.length
    simp only [room,List.map_cons,List.sum_cons,List.length_cons] at ih ⊢
    omega
theorem vk {g : BitVec 32} {r : Nat} {bs : List Bk} {p : Nat} {acc : Bk} (h : ∀ b ∈ bs,(ag b).1≠g) : rd g r bs p acc=none:=by
  cases bs with
  | nil=>rfl
  | cons b bs=>
    unfold rd
    rw [if_neg fun hh=>h b (by simp) (by rw [hh.2])]
theorem mP {g : BitVec 32} : ∀ (aa : List Bk) (f n : Nat) (rest : List Bk),aa.length<f→(∀ b ∈ rest,(ag b).1≠g)→room aa≤32768→gW g f (bt g n aa++rest) n=aa
  | [],f+1,n,rest,_,h,_=>by
    show (match rd g n ([]++rest) 0 [] with | some (rec,k)=>_ | none=>_)=_
    rw [List.nil_append,vk h]
  | rec::aa,f+1,n,rest,hf,h,hr=>by
    have hr' : nb rec.length+room aa≤32768:=by simpa [room] using hr
    show (match rd g n (cH g n rec++bt g (n+1) aa++rest) 0 [] with | some (rec,k)=>_ | none=>_)=_
    rw [List.append_assoc,xM (by omega)]
    show rec::gW g f ((cH g n rec++bt g (n+1) aa++rest).drop (nb rec.length)) (n+1)=_
    rw [List.append_assoc,List.drop_left' (bX _ _ _),mP aa f (n+1) rest (by simpa using hf) h (by omega)]
theorem vl {g : BitVec 32} {aa rest : List Bk} (h : ∀ b ∈ rest,(ag b).1≠g) (hr : room aa≤32768) : told g (bt g 0 aa++rest)=aa:=
  mP aa _ 0 rest (by have:=kC aa;rw [List.length_append,bP];omega) h hr
end dz
end
section
namespace dz
open dc
def dG (l : Bk) : BitVec 64:=l.foldl (fun (n : BitVec 64) (c : BitVec 8)=>(n <<< 8) ||| c.setWidth 64) 0
def dI (n : BitVec 64) (size : Nat) : Bk:=(List.range size).map fun i=>(n >>> (8 * (size - 1 - i))).setWidth 8
theorem dB (n : BitVec 64) (s : Nat) : (dI n s).length=s:=by simp [dI]
theorem vm (n : BitVec 64) (c : BitVec 8) : ((n <<< 8) ||| c.setWidth 64).setWidth 32=(n.setWidth 32 <<< 8) ||| c.setWidth 32:=by
  ext i hi
  by_cases h : i<8 <;> simp [BitVec.getLsbD_shiftLeft,h]
theorem lq : ∀ (l : Bk) (n : BitVec 64),(l.foldl (fun (n : BitVec 64) (c : BitVec 8)=>(n <<< 8) ||| c.setWidth 64) n).setWidth 32=l.foldl (fun (n : BitVec 32) (c : BitVec 8)=>(n <<< 8) ||| c.setWidth 32) (n.setWidth 32)
  | [],_=>rfl
  | c::l,n=>by
    simp only [List.foldl_cons]
    rw [lq l,vm]
theorem oZ (l : Bk) : (dG l).setWidth 32=cL l:=lq l 0
theorem vn (l : Bk) : (dG l).setWidth 16=(cL l).setWidth 16:=by
  rw [← oZ]
  ext i hi
  simp
theorem qE {n : BitVec 64} {c : BitVec 8} (h : n.toNat<72057594037927936) : ((n <<< 8) ||| c.setWidth 64).toNat=256 * n.toNat+c.toNat:=by
  rw [BitVec.toNat_or,BitVec.toNat_shiftLeft,BitVec.toNat_setWidth]
  have hc:=c.isLt
  rw [Nat.mod_eq_of_lt (by omega : c.toNat<2 ^ 64),Nat.shiftLeft_eq,Nat.mod_eq_of_lt (by omega)]
  have:=Nat.two_pow_add_eq_or_of_lt (i:=8) (b:=c.toNat) hc n.toNat
  rw [Nat.mul_comm n.toNat (2 ^ 8),← this]
theorem jU : ∀ (l : Bk) (n : BitVec 64) (k : Nat),n.toNat<256 ^ k→k+l.length≤8→(l.foldl (fun (n : BitVec 64) (c : BitVec 8)=>(n <<< 8) ||| c.setWidth 64) n).toNat=l.foldl (fun (n : Nat) (c : BitVec 8)=>256 * n+c.toNat) n.toNat∧l.foldl (fun (n : Nat) (c : BitVec 8)=>256 * n+c.toNat) n.toNat<256 ^ (k+l.length)
  | [],n,k,h,_=>⟨rfl,h⟩
  | c::l,n,k,h,hl=>by
    simp only [List.length_cons] at hl
    have hk : 256 ^ k≤256 ^ 7:=Nat.pow_le_pow_right (by decide) (by omega)
    have hs:=qE (n:=n) (c:=c) (by omega)
    have hc:=c.isLt
    have hlt : ((n <<< 8) ||| c.setWidth 64).toNat<256 ^ (k+1):=by rw [hs,Nat.pow_succ];omega
    have ih:=jU l _ (k+1) hlt (by omega)
    simp only [List.foldl_cons]
    rw [hs] at ih
    refine ⟨ih.1,?_⟩
    have:=ih.2
    simp only [List.length_cons]
    rwa [show k+(l.length+1)=k+1+l.length by omega]
theorem eo {l : Bk} (h : l.length≤8) : (dG l).toNat=eE l:=(jU l 0 0 (by decide) (by omega)).1
theorem vo (n : BitVec 32) (k : Nat) : ((n.setWidth 64) >>> k).setWidth 8=(n >>> k).setWidth 8:=by
  ext i hi
  simp
  intro h
  have:=BitVec.lt_of_getLsbD h
  omega
theorem sy (n : BitVec 32) (s : Nat) : dI (n.setWidth 64) s=be n s:=by
  unfold dI be
  refine List.map_congr_left fun i _=>?_
  exact vo n _
theorem vp {k : Nat} (h : k<4294967296) (s : Nat) : dI (BitVec.ofNat 64 k) s=be (BitVec.ofNat 32 k) s:=by
  rw [← sy]
  congr 1
  apply BitVec.eq_of_toNat_eq
  simp only [BitVec.toNat_setWidth,BitVec.toNat_ofNat]
  omega
theorem vq {k : Nat} (h : k<65536) : eE (be (BitVec.ofNat 32 k) 2)=k:=by rw [Cp,BitVec.toNat_ofNat];omega
theorem vr {k : Nat} (h : k<4294967296) : eE (be (BitVec.ofNat 32 k) 4)=k:=by rw [Co,BitVec.toNat_ofNat];omega
theorem vt (n : BitVec 64) : eE (dI n 8)=n.toNat:=by
  have h:=n.isLt
  have e : dI n 8=[(n >>> 56).setWidth 8,(n >>> 48).setWidth 8,(n >>> 40).setWidth 8,(n >>> 32).setWidth 8,(n >>> 24).setWidth 8,(n >>> 16).setWidth 8,(n >>> 8).setWidth 8,(n >>> 0).setWidth 8]:=rfl
  rw [e]
  simp only [eE,List.foldl_cons,List.foldl_nil,BitVec.toNat_setWidth,BitVec.toNat_ushiftRight,Nat.shiftRight_eq_div_pow]
  omega
theorem tF (n : BitVec 64) : dG (dI n 8)=n:=BitVec.eq_of_toNat_eq (by rw [eo (by rw [dB];decide),vt])
end dz
end
section
set_option maxRecDepth 10000
open Sl dz
abbrev Bs:=List Bt
theorem bM : aI Tryz.prog 35:=⟨_,Tryz.func35,rfl,by kernel_rfl⟩
set_option maxHeartbeats 4000000 in
theorem cQ (s : az) (w : World) (hs : s.ok w) (hl : s.l.length≤1000000) : Calls Tryz.prog 35 [s.v].toArray w fun e w'=>e=.returned (fN (dG s.l))∧Ext w w':=by
  refine enter (n:=19) Tryz.func35 rfl rfl rfl (Holds.start w []) ?_
  repeat (first | refine JL.q (by first|(apply OQ.len (k:=s.l.length) (ad:=s.ad) (cap:=s.cap);exact Tryz.underlying24;rfl)|(apply OQ.move;rfl)|(apply OQ.assign;rfl)) rfl ?_ | refine JC.seq ?_ | refine JC.region ?_ | refine JC.block ?_ | refine JL.nil ?_ | refine JE.next ?_)
  refine JC.loop (fun i : Nat=>[(6,s.v),(7,N s.l.length),(8,N i),(3,fN (dG (s.l.take i)))]) (fun _=>[]) (fun i=>s.l.length - i) (fun i=>i≤s.l.length) 0 (Nat.zero_le _) (by repeat (first | exact ah.nil | refine ah.cons _ _ _ rfl ?_)) (ak.refl _) ?_
  intro i hi
  repeat (first | refine JL.q (by (apply OQ.fc;rfl;rfl)) rfl ?_ | refine JC.seq ?_ | refine JC.region ?_ | refine JL.nil ?_ | refine JE.next ?_)
  refine JC.cond rfl (fun h=>?_) (fun h=>?_)
  · have hi' : i<s.l.length:=by have:=of_decide_eq_true h;omega
    clear h
    obtain ⟨b,j,hae,hca⟩:=hs.reads.at (by simp;omega)
    have hca:=hca i _ (e9 U8 0 hi')
    have hsv : s.v=.slice (some ⟨b,j,none⟩) s.l.length s.cap:=by rw [← hae];rfl
    have e : dG (s.l.take (i+1))=(dG (s.l.take i) <<< 8) ||| (s.l.getD i 0).setWidth 64:=by
      rw [List.take_succ_eq_append_getElem hi']
      unfold dG
      rw [List.foldl_append]
      simp [hi']
    rw [hsv]
    repeat (first | refine JL.q (by first|(apply OQ.dw;exact Tryz.underlying24;exact gN;rfl;rfl;exact hi')|(apply OQ.bw;exact zJ;rfl;exact (block_lt_of_cell hca);exact (by simp);exact hca)|(apply OQ.AZ (k:=8);rfl;rfl)|(apply OQ.uX;exact Tryz.underlying5;exact Tryz.underlying82;rfl)|(apply OQ.BU;rfl;rfl)|(apply OQ.move;rfl)|(apply OQ.assign;rfl)|(apply OQ.addN;rfl;rfl;exact (by (try simp only []);omega))) rfl ?_ | refine JC.seq ?_ | refine JC.region ?_ | refine JC.block ?_ | refine JC.skip ?_ | refine JL.nil ?_ | refine JE.next ?_ | refine JE.au ?_)
    rw [← hsv,← e]
    exact JE.again (i:=i) (i+1) hi' (by omega) (by repeat (first | exact ah.nil | refine ah.cons _ _ _ rfl ?_)) (ak.refl _)
  · have hi' : i=s.l.length:=by have:=of_decide_eq_false h;omega
    subst hi'
    rw [List.take_length]
    repeat (first | refine JL.q (by first|(apply OQ.move;rfl)|(apply OQ.assign;rfl)) rfl ?_ | refine JC.seq ?_ | refine JC.region ?_ | refine JC.exit ?_ | refine JL.nil ?_ | refine JE.next ?_ | refine JE.aH ?_ | refine JE.aX ?_)
    exact JC.ret (JE.aP rfl (RV.tmp rfl) fun w' hw=>⟨rfl,hw.aS⟩)
theorem o5 : aI Tryz.prog 42:=⟨_,Tryz.func42,rfl,by kernel_rfl⟩
theorem tG (n : BitVec 64) {size i : Nat} (h : i<size) : (dI n size).take (i+1)=(dI n size).take i++[(n >>> (8 * (size - 1 - i))).setWidth 8]:=by
  rw [List.take_succ_eq_append_getElem (by rw [dB];exact h)]
  simp [dI]
set_option maxHeartbeats 8000000 in
theorem qF (q : Acc) (xs : Bs) (n : BitVec 64) (size : Nat) (h0 : 0<size) (h4 : size≤8) (hq : q=none→xs=[]) (hl : xs.length≤70000000000000) (w : World) (hw : Holds w (keys (af 5 q (xs.map U8))) (af 5 q (xs.map U8)) w) :
    Calls Tryz.prog 42 [av q xs.length,fN n,N size].toArray w fun e w'=>∃ r : Nat × Nat,e=.returned (av (some r) (xs++dI n size).length)∧Holds w (keys (af 5 q (xs.map U8))) (af 5 (some r) ((xs++dI n size).map U8)) w':=by
  generalize keys (af 5 q (xs.map U8))=S at hw ⊢
  refine enter (n:=25) Tryz.func42 rfl rfl rfl hw ?_
  repeat (first | refine JL.q (by first|(apply OQ.move;rfl)|(apply OQ.assign;rfl)) rfl ?_ | refine JC.seq ?_ | refine JC.region ?_ | refine JC.block ?_ | refine JL.nil ?_ | refine JE.next ?_)
  refine JC.loop (fun z : Nat × Acc=>[(0,av z.2 (xs++(dI n size).take z.1).length),(1,fN n),(2,N size),(8,N size),(9,N z.1)]) (fun z=>af 5 z.2 ((xs++(dI n size).take z.1).map U8)) (fun z=>size - z.1) (fun z=>z.1≤size∧(z.2=none→xs++(dI n size).take z.1=[]∧z.1=0)) (0,q) ⟨Nat.zero_le _,fun e=>⟨by rw [hq e];rfl,rfl⟩⟩ (by rw [List.take_zero,List.append_nil];exact (by repeat (first | exact ah.nil | refine ah.cons _ _ _ rfl ?_))) (by rw [List.take_zero,List.append_nil];exact ak.refl _) ?_
  rintro ⟨i,q⟩ ⟨hi,hq2⟩
  dsimp only at hi hq2 ⊢
  repeat (first | refine JL.q (by (apply OQ.fc;rfl;rfl)) rfl ?_ | refine JC.seq ?_ | refine JC.region ?_ | refine JL.nil ?_ | refine JE.next ?_)
  refine JC.cond rfl (fun h=>?_) (fun h=>?_)
  · have hi' : i<size:=by have:=of_decide_eq_true h;omega
    clear h
    have et:=tG n hi'
    generalize hys : xs++(dI n size).take i=ys at hq2 ⊢
    have hy2 : xs++(dI n size).take (i+1)=ys++[(n >>> (8 * (size - 1 - i))).setWidth 8]:=by rw [et,← List.append_assoc,hys]
    have hyl : ys.length≤70000000000008:=by rw [← hys,List.length_append,List.length_take,dB];omega
    repeat (first | refine JL.q (by first|(apply OQ.mulN (a:=8);rfl;rfl;exact (by omega))|(apply OQ.AU (k:=8 * (size - 1 - i));rfl;rfl)|(apply OQ.uT;exact Tryz.underlying82;exact Tryz.underlying5;rfl)|(apply OQ.move;rfl)|(apply OQ.assign;rfl)|(apply OQ.qj;rfl;rfl;exact (by (try simp only []);omega);exact (by (try simp only []);omega))) rfl ?_ | refine JC.seq ?_ | refine JC.region ?_ | refine JC.block ?_ | refine JC.skip ?_ | refine JL.nil ?_ | refine JE.next ?_)
    refine JL.j7 Tryz.underlying24 qw rfl rfl rfl rfl fun bl _=>?_
    refine JL.perm (M':=af 5 q (ys.map U8)++[⟨bl,Row 5 [U8 ((n >>> (8 * (size - 1 - i))).setWidth 8)],true⟩]) ?_ (by exact (List.perm_append_singleton _ _).symm)
    refine JL.cZ (xs:=ys.map U8) (cs:=[U8 ((n >>> (8 * (size - 1 - i))).setWidth 8)]) (m:=1) (ad:=some ⟨bl,0,none⟩) (sc:=1) q Tryz.underlying24 qw (fun e=>by rw [(hq2 e).1];rfl) (by rw [List.length_map];rfl) rfl rfl (fun w' hw'=>?_) (by simp [Value.oneCell']) rfl (by rw [List.length_map];omega) (by rw [List.length_map];omega) rfl fun q' hq'=>?_
    · obtain ⟨o,ho,hA⟩:=hw'.get (b:=bl) (A:=Row 5 [U8 ((n >>> (8 * (size - 1 - i))).setWidth 8)]) (wr:=true) (aZ .here)
      exact Reads.block ho (Row.all o hA)
    have e2 : ys.map U8++[U8 ((n >>> (8 * (size - 1 - i))).setWidth 8)]=(xs++(dI n size).take (i+1)).map U8:=by rw [hy2];simp
    rw [e2] at hq' ⊢
    rw [List.length_map]
    repeat (first | refine JL.q (by first|(apply OQ.move;rfl)|(apply OQ.assign;rfl)|(apply OQ.addN;rfl;rfl;exact (by (try simp only []);omega))) rfl ?_ | refine JC.region ?_ | refine JL.nil ?_ | refine JE.next ?_ | refine JE.au ?_)
    refine JE.again (i:=(i,q)) (i+1,q') ⟨hi',fun e=>absurd (hq' e) (by rw [hy2];simp)⟩ (by dsimp only;omega) (by repeat (first | exact ah.nil | refine ah.cons _ _ _ rfl ?_)) (an _ _)
  · have hi' : i=size:=by have:=of_decide_eq_false h;omega
    subst hi'
    cases q with
    | none=>have:=(hq2 rfl).2;omega
    | some r=>
      rw [List.take_of_length_le (by rw [dB];exact Nat.le_refl _)]
      repeat (first | refine JL.q (by first|(apply OQ.move;rfl)|(apply OQ.assign;rfl)) rfl ?_ | refine JC.seq ?_ | refine JC.region ?_ | refine JC.exit ?_ | refine JL.nil ?_ | refine JE.next ?_ | refine JE.aH ?_ | refine JE.aX ?_)
      exact JC.ret (JE.aP rfl (RV.tmp rfl) fun w' hw=>⟨r,rfl,hw⟩)
section
variable {n : Nat} {w0 : World} {S : List Nat} {ops : Array Oper} {Q : Exit→Act→World→Prop} {l : List Oper} {E : Env} {M : List aj} {C : World→Prop}
variable {dst : Option Tmp} {d : Nat} {ty t t' : TypeId} {pos : String} {aft : Array Edge} {g : Option (Nat × Bool)} {x x1 x2 x3 : Operand} {ats : Array TypeId} {P : Program}
theorem JL.qG {q : Acc} {xs : Bs} {m : BitVec 64} {size : Nat} (h0 : 0<size) (h4 : size≤8) (hq : q=none→xs=[]) (hl : xs.length≤70000000000000) (e1 : ev E x1=some (av q xs.length)) (e2 : ev E x2=some (fN m)) (e3 : ev E x3=some (N size)) (hd : Nat.blt d n=true)
    (kk : ∀ r : Nat × Nat,JL Tryz.prog n w0 S ops Q l ((d,av (some r) (xs++dI m size).length)::E) (af 5 (some r) ((xs++dI m size).map U8)++M)) : JL Tryz.prog n w0 S ops Q (⟨some d,.call ⟨.value (.func 42),#[x1,x2,x3],ats⟩,ty,pos,aft,none⟩::l) E (af 5 q (xs.map U8)++M):=
  JL.A3 (ι:=Nat × Nat) (xs:=[x1,x2,x3]) (vs:=[av q xs.length,fN m,N size]) (fun r=>av (some r) (xs++dI m size).length) (fun r=>af 5 (some r) ((xs++dI m size).map U8)) o5 (by simp [gS,e1,e2,e3]) hd (aM _ _ _) (fun _=>aM _ _ _)
    (fun w hw=>qF q xs m size h0 h4 hq hl w (hw.weak (an _ _))) kk
theorem JL.iN {q : Acc} {xs : Bs} {m : BitVec 32} {size : Nat} (h0 : 0<size) (h4 : size≤8) (hq : q=none→xs=[]) (hl : xs.length≤70000000000000) (e1 : ev E x1=some (av q xs.length)) (e2 : ev E x2=some (fN (m.setWidth 64))) (e3 : ev E x3=some (N size)) (hd : Nat.blt d n=true)
    (kk : ∀ r : Nat × Nat,JL Tryz.prog n w0 S ops Q l ((d,av (some r) (xs++be m size).length)::E) (af 5 (some r) ((xs++be m size).map U8)++M)) : JL Tryz.prog n w0 S ops Q (⟨some d,.call ⟨.value (.func 42),#[x1,x2,x3],ats⟩,ty,pos,aft,none⟩::l) E (af 5 q (xs.map U8)++M):=
  JL.qG h0 h4 hq hl e1 e2 e3 hd (sy m size ▸ kk)
theorem OQ.tH {d : TypeDesc} {a : BitVec 64} (hs : P.underlying t=some d) (hd : P.underlying t'=some (.int .u32)) (hx : ev E x=some (fN a)) : OQ P n E C ⟨dst,.convert t t' x,ty,pos,aft,g⟩ (dF (a.setWidth 32)):=
  OQ.conv hs hd hx (by rw [wrap32];simp [dF,BitVec.toNat_setWidth])
theorem OQ.mQ {d : TypeDesc} {a : BitVec 32} (hs : P.underlying t=some d) (hd : P.underlying t'=some (.int .u64)) (hx : ev E x=some (dF a)) : OQ P n E C ⟨dst,.convert t t' x,ty,pos,aft,g⟩ (fN (a.setWidth 64)):=
  OQ.conv hs hd hx (by rw [wrap64];simp [fN,BitVec.toNat_setWidth])
end
end
section
set_option maxRecDepth 10000
open Sl dc dz
@[reducible] def sA (a : BitVec 16) : Value:=.int .u16 a.toNat
section
variable {P : Program} {n : Nat} {E : Env} {C : World→Prop} {dst : Option Tmp} {t t' e ty : TypeId} {pos : String} {aft : Array Edge} {g : Option (Nat × Bool)} {x y z : Operand}
theorem vu (a : Nat) : IntKind.u16.wrap (a : Int)=((a % 65536 : Nat) : Int):=by simp [IntKind.wrap,IntKind.bits,IntKind.signed]
theorem OQ.tI {d : TypeDesc} {a : BitVec 64} (hs : P.underlying t=some d) (hd : P.underlying t'=some (.int .u16)) (hx : ev E x=some (fN a)) : OQ P n E C ⟨dst,.convert t t' x,ty,pos,aft,g⟩ (sA (a.setWidth 16)):=
  OQ.conv hs hd hx (by rw [vu];simp [sA,BitVec.toNat_setWidth])
theorem OQ.tJ {d : TypeDesc} {a : BitVec 16} (hs : P.underlying t=some d) (hd : P.underlying t'=some (.int .u64)) (hx : ev E x=some (sA a)) : OQ P n E C ⟨dst,.convert t t' x,ty,pos,aft,g⟩ (fN (a.setWidth 64)):=
  OQ.conv hs hd hx (by rw [wrap64];simp [fN,BitVec.toNat_setWidth])
theorem OQ.xN {d : TypeDesc} {l : Bk} (hs : P.underlying t=some d) (hd : P.underlying t'=some (.int .u32)) (hx : ev E x=some (fN (dG l))) : OQ P n E C ⟨dst,.convert t t' x,ty,pos,aft,g⟩ (dF (cL l)):=
  oZ l ▸ OQ.tH hs hd hx
theorem OQ.xO {d : TypeDesc} {l : Bk} (hs : P.underlying t=some d) (hd : P.underlying t'=some (.int .u16)) (hx : ev E x=some (fN (dG l))) : OQ P n E C ⟨dst,.convert t t' x,ty,pos,aft,g⟩ (sA ((cL l).setWidth 16)):=
  vn l ▸ OQ.tI hs hd hx
theorem OQ.zR {d : TypeDesc} {l : Bk} (hs : P.underlying t=some d) (hd : P.underlying t'=some (.int .i64)) (hx : ev E x=some (fN (dG l))) (hl : l.length≤4) : OQ P n E C ⟨dst,.convert t t' x,ty,pos,aft,g⟩ (N (cL l).toNat):=by
  have h:=su hl
  have : 256 ^ l.length≤256 ^ 4:=Nat.pow_le_pow_right (by decide) hl
  rw [jy hl,← eo (by omega)]
  exact OQ.oG hs hd hx (by rw [eo (by omega)];omega)
theorem OQ.lu {d : TypeDesc} {a : Nat} (hs : P.underlying t=some d) (hd : P.underlying t'=some (.int .u16)) (hx : ev E x=some (N a)) : OQ P n E C ⟨dst,.convert t t' x,ty,pos,aft,g⟩ (sA (BitVec.ofNat 16 a)):=
  OQ.conv hs hd hx (by rw [vu];simp [sA])
theorem OQ.A7 {a b : BitVec 16} (hx : ev E x=some (sA a)) (hy : ev E y=some (sA b)) (h : b.toNat≠0) : OQ P n E C ⟨dst,.binOp .rem t x y t',ty,pos,aft,g⟩ (sA (a % b)):=
  OQ.bin hx hy rfl fun w=>by
    have h4 : ((a.toNat : Int).tmod b.toNat)=((a % b).toNat : Int):=by rw [Int.tmod_eq_emod_of_nonneg (by omega),BitVec.toNat_umod];exact_mod_cast rfl
    have h5 : ¬ (b.toNat : Int)=0:=by omega
    have h7 : Op.intDiv .rem .u16 (a.toNat : Int) b.toNat=(Pure.pure (.int .u16 ((a.toNat : Int).tmod b.toNat)) : Sem Value):=by simp only [Op.intDiv,if_neg h5]
    show Sem.run P (Op.intDiv .rem .u16 (a.toNat : Int) b.toNat) w=_
    rw [h7,h4];rfl
theorem OQ.B0 {a c : Nat} (hx : ev E x=some (N a)) (hy : ev E y=some (N c)) : OQ P n E C ⟨dst,.call ⟨.builtin .max,#[x,y],#[t,t']⟩,ty,pos,aft,g⟩ (N (max a c)):=
  OQ.run fun ac ha w _=>by
    have h1:=ha.eval hx
    have h2:=ha.eval hy
    have h3 : (if a<c then (c : Int) else (a : Int))=((max a c : Nat) : Int):=by split <;> omega
    simp [execOp,h1,h2,resolve,invoke,builtin,Builtin.max_,Builtin.max2,Sem.run_bind,N]
    exact h3
def az.sub (s : az) (lo hi : Nat) : az:=⟨if s.cap=lo then s.ad else s.ad.map (·.add (lo * 1)),s.cap - lo,(s.l.take hi).drop lo⟩
theorem az.ok.sub {s : az} {w : World} (h : s.ok w) {lo hi : Nat} (h1 : lo≤hi) (h2 : hi≤s.l.length) : (s.sub lo hi).ok w:=by
  have hc:=h.len
  refine ⟨by show ((s.l.take hi).drop lo).length≤s.cap - lo;rw [List.length_drop,List.length_take];omega,?_⟩
  have hr:=h.reads.take hi
  rw [← List.map_take] at hr
  have:=hr.drop (len:=hi) (cap:=s.cap) (lo:=lo) (by rw [List.length_map,List.length_take];omega) (by omega) h1
  rwa [← List.map_drop] at this
theorem OQ.zS {s : az} {lo hi : Nat} (hu : P.underlying t=some (.slice e)) (hz : dH P e=some 1) (hx : ev E x=some s.v) (hl : ev E y=some (N lo)) (hh : ev E z=some (N hi)) (h1 : lo≤hi) (h2 : hi≤s.l.length) (hc : s.l.length≤s.cap) :
    OQ P n E C ⟨dst,.slice t x (some y) (some z) none,ty,pos,aft,g⟩ (s.sub lo hi).v:=
  OQ.to (OQ.uW (ad:=s.ad) (len:=s.l.length) (cap:=s.cap) hu hz hx hl hh h1 (by omega)) (by
    have : ((s.l.take hi).drop lo).length=hi - lo:=by rw [List.length_drop,List.length_take];omega
    simp only [az.v,az.sub,this])
end
theorem gO : dY Tryz.prog 117=true:=by kernel_rfl
theorem A8 : dH Tryz.prog 117=some 1:=by kernel_rfl
theorem A9 : dY Tryz.prog 172=true:=by kernel_rfl
theorem fY : dY Tryz.prog 4=true:=by kernel_rfl
def bN (m : Mk) : List Value:=[dF m.1,dF m.2.1,sA m.2.2.1,.bool m.2.2.2]
theorem ji : dH Tryz.prog 174=some 4:=by kernel_rfl
theorem fL : jm Tryz.prog 174=true:=by kernel_rfl
theorem AM : zc Tryz.prog 174=some (bN (0,0,0,false)):=by kernel_rfl
theorem OQ.nQ {n : Nat} {E : Env} {C : World→Prop} {dst : Option Tmp} {ty : TypeId} {pos : String} {aft : Array Edge} {g : Option (Nat × Bool)} {x1 x2 x3 x4 : Operand} {m : Mk} (h1 : ev E x1=some (dF m.1)) (h2 : ev E x2=some (dF m.2.1)) (h3 : ev E x3=some (sA m.2.2.1)) (h4 : ev E x4=some (.bool m.2.2.2)) :
    OQ Tryz.prog n E C ⟨dst,.build 174 #[(0,x1),(1,x2),(2,x3),(3,x4)],ty,pos,aft,g⟩ (.agg (bN m).toArray):=
  OQ.run fun a ha w _=>by
    have e1:=ha.eval h1
    have e2:=ha.eval h2
    have e3:=ha.eval h3
    have e4:=ha.eval h4
    have r:=run_build (P:=Tryz.prog) w 174 #[(0,dF m.1),(1,dF m.2.1),(2,sA m.2.2.1),(3,.bool m.2.2.2)] (bN m).toArray (by kernel_rfl)
    simp [execOp,e1,e2,e3,e4,r]
theorem cS : aI Tryz.prog 55:=⟨_,Tryz.func55,rfl,by kernel_rfl⟩
theorem dD (n : Nat) (hn : n<4611686018427387904) (w : World) : Calls Tryz.prog 55 [N n].toArray w fun e w'=>e=.returned (N (nb n))∧Ext w w':=by
  refine enter (n:=10) Tryz.func55 rfl rfl rfl (Holds.start w []) ?_
  repeat (first | refine JL.q (by first|(apply OQ.zB (b:=42);rfl;rfl;exact (by decide);exact (by omega))|(apply OQ.BO (b:=42);rfl;rfl;exact (by decide))|(apply OQ.AY (a:=1);rfl;rfl)|(apply OQ.addN (a:=n / 42);rfl;rfl;exact (by omega))|(apply OQ.B0 (a:=1);rfl;rfl)|(apply OQ.move;rfl)|(apply OQ.assign;rfl)) rfl ?_ | refine JC.seq ?_ | refine JC.region ?_ | refine JL.nil ?_ | refine JE.next ?_)
  exact JC.ret (JE.aP rfl (RV.tmp rfl) fun w' hw=>⟨rfl,hw.aS⟩)
end
section
set_option maxRecDepth 10000
open Sl dc
theorem vv (n : Nat) : (c6 n).length=n:=List.length_replicate
theorem zf {w0 w : World} {S : List Nat} {e : aj} {M : List aj} (h : Holds w0 S (e::M) w) : Holds w0 S M w:=h.weak (.drop _ _ _ (ak.refl _))
end
section
set_option maxRecDepth 10000
open Sl dc dz
section
variable {n : Nat} {E : Env} {C : World→Prop} {dst : Option Tmp} {t t' e ty : TypeId} {pos : String} {aft : Array Edge} {g : Option (Nat × Bool)} {x y z : Operand}
theorem B1 : Tryz.prog.eqGuardType Tryz.prog.depth 174=false:=by kernel_rfl
set_option maxHeartbeats 4000000 in
theorem OQ.zT {m m' : Mk} {r : Bool} (hx : ev E x=some (.agg (bN m).toArray)) (hy : ev E y=some (.agg (bN m').toArray)) (h : decide (m=m')=r) :
    OQ Tryz.prog n E C ⟨dst,.binOp .neq 174 x y t',ty,pos,aft,g⟩ (.bool (!r)):=
  OQ.run fun k hk w _=>by
    have e1:=hk.eval hx
    have e2:=hk.eval hy
    have h4:=fun w=>run_eqGuard_agg (P:=Tryz.prog) (w:=w) .neq 174 x y (bN m).toArray (bN m').toArray B1
    have h5:=fun w=>run_neq_struct (P:=Tryz.prog) (w:=w) 174 (bN m).toArray (bN m').toArray
    have hf : Tryz.prog.fieldsOf 174=match Tryz.prog.underlying 174 with | some (.struct fs)=>fs | _=>#[]:=by kernel_rfl
    have ei : ∀ (k : IntKind) (t : TypeId) (a b : Int) (w : World),Tryz.prog.underlying t=some (.int k)→(Op.equalIn 9999 t (.int k a) (.int k b)).run Tryz.prog w=.ok (a == b) w:=fun k t a b w ht=>run_equalIn_int (w:=w) 9998 t k k a b ht
    have eb : ∀ (a b : Bool) (w : World),(Op.equalIn 9999 4 (.bool a) (.bool b)).run Tryz.prog w=.ok (a == b) w:=fun a b w=>run_equalIn_bool w 9998 _ a b Tryz.underlying4
    have p0 : ∀ (a b c d : Value) w,(part 117 #[a,b,c,d] 0).run Tryz.prog w=.ok a w:=fun a b c d w=>by simp [part,de gO]
    have p1 : ∀ (a b c d : Value) w,(part 117 #[a,b,c,d] 1).run Tryz.prog w=.ok b w:=fun a b c d w=>by simp [part,de gO]
    have p2 : ∀ (a b c d : Value) w,(part 172 #[a,b,c,d] 2).run Tryz.prog w=.ok c w:=fun a b c d w=>by simp [part,de A9]
    have p3 : ∀ (a b c d : Value) w,(part 4 #[a,b,c,d] 3).run Tryz.prog w=.ok d w:=fun a b c d w=>by simp [part,de fY]
    have h3 : (Op.equalIn 10000 174 (.agg (bN m).toArray) (.agg (bN m').toArray)).run Tryz.prog w=.ok r w:=by
      rw [show (10000 : Nat)=9999+1 from rfl,run_equalIn_struct (w:=w) 9999 _ _ _ (by kernel_rfl) (by kernel_rfl),hf,Tryz.underlying174]
      subst h
      obtain ⟨g1,r1,q1,l1⟩:=m
      obtain ⟨g2,r2,q2,l2⟩:=m'
      have d1 : ((g1.toNat : Int) == (g2.toNat : Int))=decide (g1=g2):=by
        rw [Bool.eq_iff_iff,beq_iff_eq,decide_eq_true_eq]
        exact ⟨fun h=>BitVec.eq_of_toNat_eq (by omega),fun h=>by rw [h]⟩
      have d2 : ((r1.toNat : Int) == (r2.toNat : Int))=decide (r1=r2):=by
        rw [Bool.eq_iff_iff,beq_iff_eq,decide_eq_true_eq]
        exact ⟨fun h=>BitVec.eq_of_toNat_eq (by omega),fun h=>by rw [h]⟩
      have d3 : ((q1.toNat : Int) == (q2.toNat : Int))=decide (q1=q2):=by
        rw [Bool.eq_iff_iff,beq_iff_eq,decide_eq_true_eq]
        exact ⟨fun h=>BitVec.eq_of_toNat_eq (by omega),fun h=>by rw [h]⟩
      simp only [bN,dF,sA,Op.eqFields,Sem.run_bind,p0,p1,p2,p3,Result.andThen_ok]
      by_cases c1 : g1=g2 <;> by_cases c2 : r1=r2 <;> by_cases c3 : q1=q2 <;> by_cases c4 : l1=l2 <;> simp [c1,c2,c3,c4,d1,d2,d3,ei _ _ _ _ _ Tryz.underlying117,ei _ _ _ _ _ Tryz.underlying172,eb,p0,p1,p2,p3,Op.eqFields,Sem.run_bind]
    simp only [execOp,e1,e2,Sem.run_bind,h4,Result.andThen_ok,h5,h3]
    rfl
end
end
section
set_option maxRecDepth 10000
open Sl dc dz
theorem vw (m : Mk) : (vg m).setWidth 64=if m.2.2.2 then m.2.2.1.setWidth 64+32768#64 else m.2.2.1.setWidth 64:=by
  have h:=m.2.2.1.isLt
  unfold vg
  cases m.2.2.2
  · simp only [Bool.false_eq_true,if_false]
    apply BitVec.eq_of_toNat_eq
    simp only [BitVec.toNat_setWidth]
    omega
  · simp only [if_true]
    apply BitVec.eq_of_toNat_eq
    simp only [BitVec.toNat_setWidth,BitVec.toNat_add,BitVec.toNat_ofNat]
    omega
theorem lz : aI Tryz.prog 119:=⟨_,Tryz.func119,rfl,by kernel_rfl⟩
set_option maxHeartbeats 8000000 in
theorem mR (m : Mk) (w : World) : Calls Tryz.prog 119 [.agg (bN m).toArray].toArray w fun e w'=>∃ r : Nat × Nat,e=.returned (av (some r) (mb m).length)∧Holds w [] (af 5 (some r) ((mb m).map U8)) w':=by
  refine enter (n:=24) Tryz.func119 rfl rfl rfl (Holds.start w []) ?_
  repeat (first | refine JC.seq ?_ | refine JC.region ?_)
  refine JL.box (r:=bN m) rfl rfl rfl fun b1 _=>?_
  repeat (first | refine JL.q (by first|(apply OQ.load;exact A9;rfl;exact .here;exact (Row.cell (v:=sA m.2.2.1) rfl))|(apply OQ.tJ;exact Tryz.underlying172;exact Tryz.underlying82;rfl)|(apply OQ.load;exact fY;rfl;exact .here;exact (Row.cell (v:=.bool m.2.2.2) rfl))|(apply OQ.assign;rfl)|(apply OQ.bA;rfl;rfl;rfl;exact (by decide);rfl)) rfl ?_ | refine JC.seq ?_ | refine JC.region ?_ | refine JL.nil ?_ | refine JE.next ?_)
  refine JC.join (ι:=Unit) (fun _=>[(1,Pt b1 0),(3,fN ((vg m).setWidth 64))]) (fun _=>[⟨b1,Row 174 (bN m),true⟩]) (fun _=>True) ?_ fun _ _=>?_
  · refine JC.cond rfl (fun hl=>?_) (fun hl=>?_)
    · have e : (vg m).setWidth 64=m.2.2.1.setWidth 64+32768#64:=by rw [vw,hl];rfl
      rw [e]
      repeat (first | refine JL.q (by first|(apply OQ.AT (b:=32768#64);rfl;rfl)|(apply OQ.move;rfl)|(apply OQ.assign;rfl)) rfl ?_ | refine JC.region ?_ | refine JL.nil ?_)
      exact JE.mid () trivial (by repeat (first | exact ah.nil | refine ah.cons _ _ _ rfl ?_)) (ak.refl _)
    · have e : (vg m).setWidth 64=m.2.2.1.setWidth 64:=by rw [vw,hl];rfl
      rw [e]
      repeat (refine JC.skip ?_)
      exact JE.mid () trivial (by repeat (first | exact ah.nil | refine ah.cons _ _ _ rfl ?_)) (ak.refl _)
  repeat (first | refine JL.q (by first|(apply OQ.load;exact gO;rfl;exact .here;exact (Row.cell (v:=dF m.1) rfl))|(apply OQ.mQ;exact Tryz.underlying117;exact Tryz.underlying82;rfl)|(apply OQ.bA;rfl;rfl;rfl;exact (by decide);rfl)) rfl ?_ | refine JC.seq ?_ | refine JC.region ?_)
  refine JL.iN (q:=none) (xs:=[]) (m:=m.1) (size:=4) (M:=[⟨b1,Row 174 (bN m),true⟩]) (by decide) (by decide) (fun _=>rfl) (by decide) rfl rfl rfl rfl fun r1=>?_
  repeat (first | refine JL.q (by first|(apply OQ.load;exact gO;rfl;exact (.there .here);exact (Row.cell (v:=dF m.2.1) rfl))|(apply OQ.mQ;exact Tryz.underlying117;exact Tryz.underlying82;rfl)|(apply OQ.move;rfl)|(apply OQ.assign;rfl)|(apply OQ.bA;rfl;rfl;rfl;exact (by decide);rfl)) rfl ?_ | refine JC.seq ?_ | refine JC.region ?_ | refine JL.nil ?_ | refine JE.next ?_)
  refine JL.iN (q:=some r1) (xs:=be m.1 4) (m:=m.2.1) (size:=4) (by decide) (by decide) nofun (by rw [bn];decide) rfl rfl rfl rfl fun r2=>?_
  repeat (first | refine JL.q (by first|(apply OQ.move;rfl)|(apply OQ.assign;rfl)) rfl ?_ | refine JC.seq ?_ | refine JC.region ?_ | refine JL.nil ?_ | refine JE.next ?_)
  refine JL.iN (q:=some r2) (xs:=be m.1 4++be m.2.1 4) (m:=vg m) (size:=2) (by decide) (by decide) nofun (by rw [List.length_append,bn,bn];decide) rfl rfl rfl rfl fun r3=>?_
  repeat (first | refine JL.q (by (apply OQ.assign;rfl)) rfl ?_ | refine JL.nil ?_ | refine JE.next ?_)
  exact JC.ret (JE.aP rfl (RV.tmp rfl) fun w' hw=>⟨r3,rfl,hw.weak (an _ _)⟩)
theorem bp : aI Tryz.prog 97:=⟨_,Tryz.func97,rfl,by kernel_rfl⟩
set_option maxHeartbeats 8000000 in
theorem dQ (s : az) (w : World) (hs : s.ok w) (h10 : 10≤s.l.length) (hl : s.l.length≤64) : Calls Tryz.prog 97 [s.v].toArray w fun e w'=>e=.returned (.agg (bN (ag s.l)).toArray)∧Ext w w':=by
  have hc:=hs.len
  have c8:=fun w' (ok : s.ok w')=>cQ (s.sub 8 10) w' (ok.sub (by decide) h10) (by show ((s.l.take 10).drop 8).length≤_;rw [List.length_drop,List.length_take];omega)
  have c4:=fun w' (ok : s.ok w')=>cQ (s.sub 4 8) w' (ok.sub (by decide) (by omega)) (by show ((s.l.take 8).drop 4).length≤_;rw [List.length_drop,List.length_take];omega)
  have c0:=fun w' (ok : s.ok w')=>cQ (s.fst 4) w' (ok.fst 4) (by show (s.l.take 4).length≤_;rw [List.length_take];omega)
  have e8 : (s.sub 8 10).l=(s.l.drop 8).take 2:=by show (s.l.take 10).drop 8=_;rw [List.drop_take]
  have e4 : (s.sub 4 8).l=(s.l.drop 4).take 4:=by show (s.l.take 8).drop 4=_;rw [List.drop_take]
  rw [e8] at c8
  rw [e4] at c4
  have hp : (cL ((s.l.drop 8).take 2)).setWidth 16=dm s.l:=rfl
  have hm : ag s.l=(cL (s.l.take 4),cL ((s.l.drop 4).take 4),dm s.l % 32768#16,decide ((32768 : Int)≤((dm s.l).toNat : Int))):=by
    unfold ag
    congr 3
    exact decide_eq_decide.2 (by omega)
  rw [hm]
  refine enter (n:=21) Tryz.func97 rfl rfl rfl (Holds.start w []) ?_
  repeat (first | refine JC.seq ?_ | refine JC.region ?_)
  refine JL.alloc AM rfl fun b2 _=>?_
  repeat (first | refine JL.q (by first|(apply OQ.zS (s:=s) (lo:=8) (hi:=10);exact Tryz.underlying24;exact gN;rfl;rfl;rfl;exact (by decide);exact h10;exact hc)|(apply OQ.aB (vs:=[(s.sub 8 10).v]);exact bM;rfl;exact (fun w' hw'=>c8 w' (hs.holds hw' rfl)))|(apply OQ.xO;exact Tryz.underlying82;exact Tryz.underlying172;rfl)|(apply OQ.move;rfl)|(apply OQ.assign;rfl)) rfl ?_ | refine JC.seq ?_ | refine JC.region ?_ | refine JL.nil ?_ | refine JE.next ?_)
  refine JC.tail 13 cC (by kernel_rfl) ?_
  simp only [List.take_succ_cons,List.take_zero,List.drop_succ_cons,List.drop_zero]
  rw [hp]
  generalize dm s.l=pl
  generalize hg3 : (decide ((32768 : Int)≤(pl.toNat : Int)))=g3
  repeat (first | refine JQ.q (by first|(apply OQ.fst (s:=s) (m:=4);exact Tryz.underlying24;exact gN;rfl;rfl;exact (by omega);exact hc)|(apply OQ.zS (s:=s) (lo:=4) (hi:=8);exact Tryz.underlying24;exact gN;rfl;rfl;rfl;exact (by decide);exact (by omega);exact hc)|(apply OQ.aB (vs:=[(s.fst 4).v]);exact bM;rfl;exact (fun w' hw'=>c0 w' (hs.holds hw' rfl)))|(apply OQ.aB (vs:=[(s.sub 4 8).v]);exact bM;rfl;exact (fun w' hw'=>c4 w' (hs.holds hw' rfl)))|(apply OQ.xN;exact Tryz.underlying82;exact Tryz.underlying117;rfl)|(apply OQ.A7 (b:=32768#16);rfl;rfl;exact (by decide))|(apply OQ.fT (b:=32768);rfl;rfl;exact hg3)|(apply OQ.nQ (m:=(cL (s.l.take 4),cL ((s.l.drop 4).take 4),pl % 32768#16,g3));rfl;rfl;rfl;rfl)|(apply OQ.move;rfl)) rfl ?_ | refine JQ.cq ?_)
  refine JL.ai (cs:=bN (cL (s.l.take 4),cL ((s.l.drop 4).take 4),pl % 32768#16,g3)) ji rfl rfl rfl rfl .here rfl ?_
  repeat (first | refine JL.nil ?_ | refine JE.next ?_)
  exact JC.ret (JE.aP rfl (RV.aL fL ji rfl .here rfl Row.all) fun w' hw=>⟨rfl,hw.aS⟩)
section
variable {P : Program} {n : Nat} {E : Env} {C : World→Prop} {dst : Option Tmp} {t ty e : TypeId} {pos : String} {aft : Array Edge} {g : Option (Nat × Bool)} {x y z : Operand} {b1 m : Nat} {b : Bk}
theorem OQ.sB (hb : b.length=m) (hu : P.underlying t=some (.array m e)) (hz : dH P e=some 1) (hx : ev E x=some (Pt b1 0)) : OQ P n E C ⟨dst,.slice t x none none none,ty,pos,aft,g⟩ (⟨some ⟨b1,0,none⟩,m,b⟩ : az).v:=
  OQ.to (OQ.CC hu hz hx) (by simp [az.v,hb])
theorem OQ.Ba {lo hi : Nat} (hb : b.length=m) (hu : P.underlying t=some (.array m e)) (hz : dH P e=some 1) (hx : ev E x=some (Pt b1 0)) (hl : ev E y=some (N lo)) (hh : ev E z=some (N hi)) (h1 : lo<m) (h2 : lo≤hi) (h3 : hi≤m) : OQ P n E C ⟨dst,.slice t x (some y) (some z) none,ty,pos,aft,g⟩ (⟨some ⟨b1,0+lo,none⟩,m - lo,(b.drop lo).take (hi - lo)⟩ : az).v:=
  OQ.to (OQ.kR hu hz hx hl hh h1 h2 h3) (by
    have : ((b.drop lo).take (hi - lo)).length=hi - lo:=by rw [List.length_take,List.length_drop];omega
    simp only [az.v,this])
theorem OQ.lB {lo : Nat} (hb : b.length=m) (hu : P.underlying t=some (.array m e)) (hz : dH P e=some 1) (hx : ev E x=some (Pt b1 0)) (hl : ev E y=some (N lo)) (h1 : lo<m) : OQ P n E C ⟨dst,.slice t x (some y) none none,ty,pos,aft,g⟩ (⟨some ⟨b1,0+lo,none⟩,m - lo,b.drop lo⟩ : az).v:=
  OQ.to (OQ.zC hu hz hx hl h1) (by
    have : (b.drop lo).length=m - lo:=by rw [List.length_drop];omega
    simp only [az.v,this])
theorem vz {w0 w : World} {S : List Nat} {M : List aj} {e : TypeId} {wr : Bool} {lo k : Nat} (hw : Holds w0 S M w) (hM : Has M b1 (Row e (bc b)) wr) (hb : b.length=m) (h1 : lo≤m) (h2 : k≤m - lo) : az.ok w ⟨some ⟨b1,0+lo,none⟩,m - lo,(b.drop lo).take k⟩:=by
  obtain ⟨o,ho,hA⟩:=hw.get hM
  refine ⟨by show ((b.drop lo).take k).length≤m - lo;rw [List.length_take,List.length_drop];omega,?_⟩
  rw [Nat.zero_add]
  refine Reads.block ho (Row.cells ?_ o hA)
  show ((bc b).drop lo).take _=_
  simp only [bc,List.length_map,List.map_take,List.map_drop]
  rw [List.length_take,List.length_drop,List.take_eq_take_iff,List.length_drop,List.length_map]
  omega
theorem vC {w0 w : World} {S : List Nat} {M : List aj} {e : TypeId} {wr : Bool} {lo : Nat} (hw : Holds w0 S M w) (hM : Has M b1 (Row e (bc b)) wr) (hb : b.length=m) (h1 : lo≤m) : az.ok w ⟨some ⟨b1,0+lo,none⟩,m - lo,b.drop lo⟩:=by
  have:=vz (k:=m - lo) hw hM hb h1 (Nat.le_refl _)
  rwa [List.take_of_length_le (by rw [List.length_drop];omega)] at this
end
theorem jV : aI Tryz.prog 124:=⟨_,Tryz.func124,rfl,by kernel_rfl⟩
theorem OQ.nR {n : Nat} {E : Env} {C : World→Prop} {dst : Option Tmp} {ty : TypeId} {pos : String} {aft : Array Edge} {g : Option (Nat × Bool)} : OQ Tryz.prog n E C ⟨dst,.build 174 #[],ty,pos,aft,g⟩ (.agg (bN (0,0,0,false)).toArray):=OQ.pure rfl rfl (by kernel_rfl)
set_option maxHeartbeats 32000000 in
theorem lC (b : Bk) (hb : b.length=64) (w : World) : Calls Tryz.prog 124 [.agg (bc b).toArray].toArray w fun e w'=>(bC b=false∧e=.returned (.tuple #[.agg (bN (0,0,0,false)).toArray,.slice none 0 0,.bool false])∧Ext w w')∨(bC b=true∧∃ b1 : Nat,e=.returned (.tuple #[.agg (bN (ag b)).toArray,.slice (some ⟨b1,12,none⟩) (cnt b) 52,.bool true])∧Holds w [] [⟨b1,Row 138 (bc b),true⟩] w'):=by
  refine enter (n:=34) Tryz.func124 rfl rfl rfl (Holds.start w []) ?_
  repeat (first | refine JC.seq ?_ | refine JC.region ?_)
  refine JL.box (r:=bc b) rfl rfl rfl fun b1 _=>?_
  refine JL.alloc AM rfl fun b2 _=>?_
  repeat (first | refine JL.q (by (apply OQ.assign;rfl)) rfl ?_ | refine JC.seq ?_ | refine JL.nil ?_ | refine JE.next ?_)
  let vs : Nat→Nat→Value:=fun j y=>match j with
    | 0=>(⟨some ⟨b1,0,none⟩,64,b⟩ : az).v
    | 1=>.agg (bN (ag b)).toArray
    | 2=>(⟨some ⟨b1,0+10,none⟩,64 - 10,(b.drop 10).take 2⟩ : az).v
    | 3=>fN (dG ((b.drop 10).take 2))
    | 4=>N (cnt b)
    | 5=>Pt y 0
    | 7=>N (cnt b)
    | _=>N 0
  let Ms : Nat→Nat→List aj:=fun j y=>match j with
    | 5=>[⟨y,Row 174 (bN (0,0,0,false)),true⟩]
    | 6=>[⟨y,Row 174 (bN (ag b)),true⟩]
    | 8=>[⟨b2,Row 174 (bN (0,0,0,false)),true⟩]
    | 9=>[⟨b1,Row 138 (bc b),true⟩]
    | _=>[]
  refine JC.grow (g:=⟨[(1,Pt b1 0),(2,Pt b2 0),(3,.slice none 0 0),(4,.bool false)],10,vs,Ms,(fun j=>match j with | 1=>[(0,7)] | 3=>[(2,9)] | 4=>[(3,10)] | 6=>[(5,5),(1,8)] | 7=>[(4,11)] | _=>[]),(fun j=>match j with | 1=>[9] | 3=>[9] | 6=>[5] | _=>[]),(fun j=>match j with | 6=>[5] | _=>[]),(fun j=>match j with | 6=>some 5 | _=>none)⟩) [(5,5),(7,6)] [6,8,9] cC (by repeat (first | exact ah.nil | refine ah.cons _ _ _ rfl ?_)) ?_ (by kernel_rfl) (by kernel_rfl) (by kernel_rfl) ?_ ?_
  · exact ak.refl _
  · refine ⟨?_,?_,?_,?_,?_,?_,?_,?_,trivial⟩
    · (intro xx EF MF Q kk;(try refine JL.aD rfl rfl ?_);exact JL.q (OQ.sB hb Tryz.underlying138 gN rfl) rfl (JL.nil (kk default nofun)))
    · (intro xx EF MF Q kk;(try refine JL.aD rfl rfl ?_);exact JL.q (OQ.aB (vs:=[(⟨some ⟨b1,0,none⟩,64,b⟩ : az).v]) bp rfl (fun w' hw'=>dQ _ w' (qq hw' .here rfl (by omega)) (by show 10≤b.length;omega) (by show b.length≤64;omega))) rfl (JL.nil (kk default nofun)))
    · (intro xx EF MF Q kk;(try refine JL.aD rfl rfl ?_);exact JL.q (OQ.Ba hb Tryz.underlying138 gN rfl rfl rfl (lo:=10) (hi:=12) (by decide) (by decide) (by decide)) rfl (JL.nil (kk default nofun)))
    · (intro xx EF MF Q kk;(try refine JL.aD rfl rfl ?_);exact JL.q (OQ.aB (vs:=[(⟨some ⟨b1,0+10,none⟩,64 - 10,(b.drop 10).take 2⟩ : az).v]) bM rfl (fun w' hw'=>cQ _ w' (vz hw' .here hb (by decide) (by decide)) (by show ((b.drop 10).take 2).length≤_;rw [List.length_take];omega))) rfl (JL.nil (kk default nofun)))
    · (intro xx EF MF Q kk;(try refine JL.aD rfl rfl ?_);exact JL.q (OQ.zR Tryz.underlying82 Tryz.underlying3 rfl (by rw [List.length_take];omega)) rfl (JL.nil (kk default nofun)))
    · (intro xx EF MF Q kk;exact JL.alloc AM rfl fun b _=>JL.nil (kk b nofun))
    · (intro xx EF MF Q kk;exact JL.ai (cs:=bN (ag b)) ji rfl rfl rfl rfl .here rfl (JL.nil (kk (xx 5) (fun k h=>by cases h;rfl))))
    · (intro xx EF MF Q kk;(try refine JL.aD rfl rfl ?_);exact JL.q (OQ.assign rfl) rfl (JL.nil (kk default nofun)))
  · intro xx hx
    have e6:=hx 6 5 (by decide) rfl
    show JE _ _ _ _ _ [(5,Pt (xx 5) 0),(6,N (cnt b)),(1,Pt b1 0),(2,Pt b2 0),(3,.slice none 0 0),(4,.bool false)] [⟨xx 6,Row 174 (bN (ag b)),true⟩,⟨b2,Row 174 (bN (0,0,0,false)),true⟩,⟨b1,Row 138 (bc b),true⟩]
    rw [e6]
    generalize xx 5=b5
    clear hx e6 xx vs Ms
    (repeat (first | refine JC.seq ?_ | refine JE.next ?_))
    refine JC.quiet cC (by kernel_rfl) ?_
    have cE:=fun {u w' : World} {S : List Nat} {M : List aj} (hw' : Holds u S M w') (hM : Has M b1 (Row 138 (bc b)) true)=>dQ ⟨some ⟨b1,0+54,none⟩,64 - 54,b.drop 54⟩ w' (vC hw' hM hb (by decide)) (by show 10≤(b.drop 54).length;rw [List.length_drop];omega) (by show (b.drop 54).length≤64;rw [List.length_drop];omega)
    cases c1 : decide (ag b=ag (b.drop 54))
    case false=>
      have hw0 : bC b=false:=by unfold bC;rw [c1];rfl
      repeat (first | refine JQ.q (by first|(apply OQ.aq (cs:=bN (ag b));exact fL;exact ji;rfl;exact .here;rfl;exact Row.all)|(apply OQ.lB (lo:=54);exact hb;exact Tryz.underlying138;exact gN;rfl;rfl;exact (by decide))|(apply OQ.aB (vs:=[(⟨some ⟨b1,0+54,none⟩,64 - 54,b.drop 54⟩ : az).v]);exact bp;rfl;exact (fun w' hw'=>cE hw' (.there (.there .here))))|(apply OQ.zT;rfl;rfl;exact c1)|(apply OQ.bg;rfl;rfl)|(apply OQ.move;rfl)) rfl ?_ | refine JQ.nil ?_ | refine JE.next ?_ | refine JQ.bO rfl rfl rfl rfl ?_ | refine JQ.kT rfl rfl rfl rfl ?_)
      refine JC.cond_true rfl rfl ?_
      repeat (first | refine JL.q (by (apply OQ.nR)) rfl ?_ | refine JC.seq ?_ | refine JC.region ?_)
      refine JL.ai (cs:=bN (0,0,0,false)) ji rfl rfl rfl rfl (.there .here) rfl ?_
      repeat (first | refine JL.q (by (apply OQ.assign;rfl)) rfl ?_ | refine JL.nil ?_ | refine JE.next ?_)
      refine JC.ret ?_
      repeat (refine JE.ax ?_)
      exact JE.j9 rfl (RV.aL fL ji rfl (.there .here) rfl Row.all) (RV.tmp rfl) (RV.tmp rfl) fun w' hw=>.inl ⟨hw0,rfl,hw.aS⟩
    cases c2 : decide ((42 : Int)<((cnt b : Nat) : Int))
    case true=>
      have hw0 : bC b=false:=by unfold bC;rw [c1,decide_eq_false (by have:=of_decide_eq_true c2;omega : ¬ cnt b≤42)];rfl
      repeat (first | refine JQ.q (by first|(apply OQ.aq (cs:=bN (ag b));exact fL;exact ji;rfl;exact .here;rfl;exact Row.all)|(apply OQ.lB (lo:=54);exact hb;exact Tryz.underlying138;exact gN;rfl;rfl;exact (by decide))|(apply OQ.aB (vs:=[(⟨some ⟨b1,0+54,none⟩,64 - 54,b.drop 54⟩ : az).v]);exact bp;rfl;exact (fun w' hw'=>cE hw' (.there (.there .here))))|(apply OQ.zT;rfl;rfl;exact c1)|(apply OQ.cz (b:=42);rfl;rfl;exact c2)|(apply OQ.aW;rfl;rfl)|(apply OQ.bg;rfl;rfl)|(apply OQ.move;rfl)) rfl ?_ | refine JQ.nil ?_ | refine JE.next ?_ | refine JQ.aD rfl rfl ?_ | refine JQ.bO rfl rfl rfl rfl ?_ | refine JQ.kT rfl rfl rfl rfl ?_)
      refine JC.cond_true rfl rfl ?_
      repeat (first | refine JL.q (by (apply OQ.nR)) rfl ?_ | refine JC.seq ?_ | refine JC.region ?_)
      refine JL.ai (cs:=bN (0,0,0,false)) ji rfl rfl rfl rfl (.there .here) rfl ?_
      repeat (first | refine JL.q (by (apply OQ.assign;rfl)) rfl ?_ | refine JL.nil ?_ | refine JE.next ?_)
      refine JC.ret ?_
      repeat (refine JE.ax ?_)
      exact JE.j9 rfl (RV.aL fL ji rfl (.there .here) rfl Row.all) (RV.tmp rfl) (RV.tmp rfl) fun w' hw=>.inl ⟨hw0,rfl,hw.aS⟩
    have hc42 : cnt b≤42:=by have:=of_decide_eq_false c2;omega
    cases c3 : decide (((cnt b : Nat) : Int)<(42 : Int))
    case false=>
      have hw1 : bC b=true:=by unfold bC;rw [c1,decide_eq_true hc42,decide_eq_true (by have:=of_decide_eq_false c3;omega : cnt b=42)];rfl
      repeat (first | refine JQ.q (by first|(apply OQ.aq (cs:=bN (ag b));exact fL;exact ji;rfl;exact .here;rfl;exact Row.all)|(apply OQ.lB (lo:=54);exact hb;exact Tryz.underlying138;exact gN;rfl;rfl;exact (by decide))|(apply OQ.aB (vs:=[(⟨some ⟨b1,0+54,none⟩,64 - 54,b.drop 54⟩ : az).v]);exact bp;rfl;exact (fun w' hw'=>cE hw' (.there (.there .here))))|(apply OQ.zT;rfl;rfl;exact c1)|(apply OQ.cz (b:=42);rfl;rfl;exact c2)|(apply OQ.kU (b:=42);rfl;rfl;exact c3)|(apply OQ.aW;rfl;rfl)|(apply OQ.move;rfl)) rfl ?_ | refine JQ.nil ?_ | refine JE.next ?_ | refine JQ.aD rfl rfl ?_ | refine JQ.bO rfl rfl rfl rfl ?_)
      refine JC.cond_false rfl rfl ?_
      (repeat (first | refine JC.seq ?_ | refine JC.skip ?_ | refine JE.next ?_))
      let vs : Nat→Nat→Value:=fun j y=>match j with
        | 0=>.agg (bN (ag b)).toArray
        | 1=>N (cnt b)
        | 2=>N (12+cnt b)
        | 3=>.slice (some ⟨b1,12,none⟩) (cnt b) 52
        | 5=>.slice (some ⟨b1,12,none⟩) (cnt b) 52
        | 6=>.bool true
        | _=>N 0
      let Ms : Nat→Nat→List aj:=fun j y=>match j with
        | 4=>[⟨b2,Row 174 (bN (ag b)),true⟩]
        | 7=>[⟨b5,Row 174 (bN (ag b)),true⟩]
        | 8=>[⟨b2,Row 174 (bN (0,0,0,false)),true⟩]
        | 9=>[⟨b1,Row 138 (bc b),true⟩]
        | _=>[]
      refine JC.grow (g:=⟨[(1,Pt b1 0),(2,Pt b2 0),(5,Pt b5 0),(6,N (cnt b))],10,vs,Ms,(fun j=>match j with | 2=>[(1,31)] | 3=>[(2,32)] | 4=>[(0,30)] | 5=>[(3,33)] | _=>[]),(fun j=>match j with | 0=>[7] | 4=>[8] | _=>[]),(fun j=>match j with | 4=>[8] | _=>[]),(fun j=>match j with | _=>none)⟩) [(5,3),(6,4)] [4,9] cC (by repeat (first | exact ah.nil | refine ah.cons _ _ _ rfl ?_)) ?_ (by kernel_rfl) (by kernel_rfl) (by kernel_rfl) ?_ ?_
      · exact ak.refl _
      · refine ⟨?_,?_,?_,?_,?_,?_,?_,trivial⟩
        · (intro xx EF MF Q kk;(try refine JL.aD rfl rfl ?_);exact JL.q (OQ.aq (cs:=bN (ag b)) fL ji rfl .here rfl Row.all) rfl (JL.nil (kk default nofun)))
        · (intro xx EF MF Q kk;(try refine JL.aD rfl rfl ?_);exact JL.q (OQ.move rfl) rfl (JL.nil (kk default nofun)))
        · (intro xx EF MF Q kk;(try refine JL.aD rfl rfl ?_);exact JL.q (OQ.addN (a:=12) rfl rfl (by omega)) rfl (JL.nil (kk default nofun)))
        · (intro xx EF MF Q kk;(try refine JL.aD rfl rfl ?_);exact JL.q (OQ.to (OQ.kR (lo:=12) (hi:=12+cnt b) Tryz.underlying138 gN rfl rfl rfl (by decide) (by omega) (by omega)) (by rw [Nat.add_sub_cancel_left];rfl)) rfl (JL.nil (kk default nofun)))
        · (intro xx EF MF Q kk;exact JL.ai (cs:=bN (ag b)) ji rfl rfl rfl rfl .here rfl (JL.nil (kk default nofun)))
        · (intro xx EF MF Q kk;(try refine JL.aD rfl rfl ?_);exact JL.q (OQ.assign rfl) rfl (JL.nil (kk default nofun)))
        · (intro xx EF MF Q kk;(try refine JL.aD rfl rfl ?_);exact JL.q (OQ.assign rfl) rfl (JL.nil (kk default nofun)))
      · intro xx hx
        show JE _ _ _ _ _ [(3,.slice (some ⟨b1,12,none⟩) (cnt b) 52),(4,.bool true),(1,Pt b1 0),(2,Pt b2 0),(5,Pt b5 0),(6,N (cnt b))] [⟨b2,Row 174 (bN (ag b)),true⟩,⟨b1,Row 138 (bc b),true⟩]
        clear hx xx vs Ms
        (repeat (refine JE.next ?_))
        refine JC.ret ?_
        (skip)
        exact JE.j9 rfl (RV.aL fL ji rfl .here rfl Row.all) (RV.tmp rfl) (RV.tmp rfl) fun w' hw=>.inr ⟨hw1,b1,rfl,zf hw⟩
    case true=>
    cases hl : (ag b).2.2.2
    case false=>
      have hw0 : bC b=false:=by unfold bC;rw [c1,decide_eq_true hc42,decide_eq_false (by have:=of_decide_eq_true c3;omega : ¬ cnt b=42),hl];rfl
      have hlc : (bN (ag b))[3]?=some (.bool false):=by rw [bN,hl];rfl
      repeat (first | refine JQ.q (by first|(apply OQ.aq (cs:=bN (ag b));exact fL;exact ji;rfl;exact .here;rfl;exact Row.all)|(apply OQ.lB (lo:=54);exact hb;exact Tryz.underlying138;exact gN;rfl;rfl;exact (by decide))|(apply OQ.aB (vs:=[(⟨some ⟨b1,0+54,none⟩,64 - 54,b.drop 54⟩ : az).v]);exact bp;rfl;exact (fun w' hw'=>cE hw' (.there (.there .here))))|(apply OQ.zT;rfl;rfl;exact c1)|(apply OQ.cz (b:=42);rfl;rfl;exact c2)|(apply OQ.kU (b:=42);rfl;rfl;exact c3)|(apply OQ.load;exact fY;rfl;exact .here;exact (Row.cell hlc))|(apply OQ.not;rfl)|(apply OQ.aW;rfl;rfl)|(apply OQ.bg;rfl;rfl)|(apply OQ.move;rfl)|(apply OQ.bA;rfl;rfl;rfl;exact (by decide);rfl)) rfl ?_ | refine JQ.nil ?_ | refine JE.next ?_ | refine JQ.aD rfl rfl ?_)
      refine JC.cond_true rfl rfl ?_
      repeat (first | refine JL.q (by (apply OQ.nR)) rfl ?_ | refine JC.seq ?_ | refine JC.region ?_)
      refine JL.ai (cs:=bN (0,0,0,false)) ji rfl rfl rfl rfl (.there .here) rfl ?_
      repeat (first | refine JL.q (by (apply OQ.assign;rfl)) rfl ?_ | refine JL.nil ?_ | refine JE.next ?_)
      refine JC.ret ?_
      repeat (refine JE.ax ?_)
      exact JE.j9 rfl (RV.aL fL ji rfl (.there .here) rfl Row.all) (RV.tmp rfl) (RV.tmp rfl) fun w' hw=>.inl ⟨hw0,rfl,hw.aS⟩
    case true=>
      have hw1 : bC b=true:=by unfold bC;rw [c1,decide_eq_true hc42,hl];simp
      have hlc : (bN (ag b))[3]?=some (.bool true):=by rw [bN,hl];rfl
      repeat (first | refine JQ.q (by first|(apply OQ.aq (cs:=bN (ag b));exact fL;exact ji;rfl;exact .here;rfl;exact Row.all)|(apply OQ.lB (lo:=54);exact hb;exact Tryz.underlying138;exact gN;rfl;rfl;exact (by decide))|(apply OQ.aB (vs:=[(⟨some ⟨b1,0+54,none⟩,64 - 54,b.drop 54⟩ : az).v]);exact bp;rfl;exact (fun w' hw'=>cE hw' (.there (.there .here))))|(apply OQ.zT;rfl;rfl;exact c1)|(apply OQ.cz (b:=42);rfl;rfl;exact c2)|(apply OQ.kU (b:=42);rfl;rfl;exact c3)|(apply OQ.load;exact fY;rfl;exact .here;exact (Row.cell hlc))|(apply OQ.not;rfl)|(apply OQ.aW;rfl;rfl)|(apply OQ.bg;rfl;rfl)|(apply OQ.move;rfl)|(apply OQ.bA;rfl;rfl;rfl;exact (by decide);rfl)) rfl ?_ | refine JQ.nil ?_ | refine JE.next ?_ | refine JQ.aD rfl rfl ?_)
      refine JC.cond_false rfl rfl ?_
      (repeat (first | refine JC.seq ?_ | refine JC.skip ?_ | refine JE.next ?_))
      let vs : Nat→Nat→Value:=fun j y=>match j with
        | 0=>.agg (bN (ag b)).toArray
        | 1=>N (cnt b)
        | 2=>N (12+cnt b)
        | 3=>.slice (some ⟨b1,12,none⟩) (cnt b) 52
        | 5=>.slice (some ⟨b1,12,none⟩) (cnt b) 52
        | 6=>.bool true
        | _=>N 0
      let Ms : Nat→Nat→List aj:=fun j y=>match j with
        | 4=>[⟨b2,Row 174 (bN (ag b)),true⟩]
        | 7=>[⟨b5,Row 174 (bN (ag b)),true⟩]
        | 8=>[⟨b2,Row 174 (bN (0,0,0,false)),true⟩]
        | 9=>[⟨b1,Row 138 (bc b),true⟩]
        | _=>[]
      refine JC.grow (g:=⟨[(1,Pt b1 0),(2,Pt b2 0),(5,Pt b5 0),(6,N (cnt b))],10,vs,Ms,(fun j=>match j with | 2=>[(1,31)] | 3=>[(2,32)] | 4=>[(0,30)] | 5=>[(3,33)] | _=>[]),(fun j=>match j with | 0=>[7] | 4=>[8] | _=>[]),(fun j=>match j with | 4=>[8] | _=>[]),(fun j=>match j with | _=>none)⟩) [(5,3),(6,4)] [4,9] cC (by repeat (first | exact ah.nil | refine ah.cons _ _ _ rfl ?_)) ?_ (by kernel_rfl) (by kernel_rfl) (by kernel_rfl) ?_ ?_
      · exact ak.refl _
      · refine ⟨?_,?_,?_,?_,?_,?_,?_,trivial⟩
        · (intro xx EF MF Q kk;(try refine JL.aD rfl rfl ?_);exact JL.q (OQ.aq (cs:=bN (ag b)) fL ji rfl .here rfl Row.all) rfl (JL.nil (kk default nofun)))
        · (intro xx EF MF Q kk;(try refine JL.aD rfl rfl ?_);exact JL.q (OQ.move rfl) rfl (JL.nil (kk default nofun)))
        · (intro xx EF MF Q kk;(try refine JL.aD rfl rfl ?_);exact JL.q (OQ.addN (a:=12) rfl rfl (by omega)) rfl (JL.nil (kk default nofun)))
        · (intro xx EF MF Q kk;(try refine JL.aD rfl rfl ?_);exact JL.q (OQ.to (OQ.kR (lo:=12) (hi:=12+cnt b) Tryz.underlying138 gN rfl rfl rfl (by decide) (by omega) (by omega)) (by rw [Nat.add_sub_cancel_left];rfl)) rfl (JL.nil (kk default nofun)))
        · (intro xx EF MF Q kk;exact JL.ai (cs:=bN (ag b)) ji rfl rfl rfl rfl .here rfl (JL.nil (kk default nofun)))
        · (intro xx EF MF Q kk;(try refine JL.aD rfl rfl ?_);exact JL.q (OQ.assign rfl) rfl (JL.nil (kk default nofun)))
        · (intro xx EF MF Q kk;(try refine JL.aD rfl rfl ?_);exact JL.q (OQ.assign rfl) rfl (JL.nil (kk default nofun)))
      · intro xx hx
        show JE _ _ _ _ _ [(3,.slice (some ⟨b1,12,none⟩) (cnt b) 52),(4,.bool true),(1,Pt b1 0),(2,Pt b2 0),(5,Pt b5 0),(6,N (cnt b))] [⟨b2,Row 174 (bN (ag b)),true⟩,⟨b1,Row 138 (bc b),true⟩]
        clear hx xx vs Ms
        (repeat (refine JE.next ?_))
        refine JC.ret ?_
        (skip)
        exact JE.j9 rfl (RV.aL fL ji rfl .here rfl Row.all) (RV.tmp rfl) (RV.tmp rfl) fun w' hw=>.inr ⟨hw1,b1,rfl,zf hw⟩
end
section
open Sl
theorem JL.less {P : Program} {n : Nat} {w0 : World} {S : List Nat} {ops : Array Oper} {Q : Exit→Act→World→Prop} {l : List Oper} {E : Env} {M M' : List aj} (hM : ak M' M) (h : JL P n w0 S ops Q l E M') : JL P n w0 S ops Q l E M:=
  ⟨fun a w ha hw=>h.go a w ha (hw.weak hM)⟩
def xP (q : Acc) (rs : List az) : r9:=match q with
  | none=>⟨none,0,[]⟩
  | some p=>⟨some ⟨p.1,0,none⟩,p.2,rs⟩
theorem zU (q : Acc) (rs : List az) : (xP q rs).v=av q (rs.map az.v).length:=by
  cases q with
  | none=>rfl
  | some p=>show Value.slice _ rs.length _=Value.slice _ (rs.map az.v).length _;rw [List.length_map];rfl
theorem sC {q : Acc} {rs : List az} (h : q=none→rs=[]) : (xP q rs).rs=rs:=by
  cases q with
  | none=>exact (h rfl).symm
  | some p=>rfl
theorem xQ {w0 w : World} {S : List Nat} {e : TypeId} {q : Acc} {rs : List az} (hw : Holds w0 S (af e q (rs.map az.v)++aC rs) w) (h0 : ∀ x ∈ rs,x.ad=none→x.l=[]) : (xP q rs).ok w:=by
  cases q with
  | none=>exact ⟨Nat.le_refl _,Reads.nil _ _,fun y hy=>by cases hy⟩
  | some p=>
    refine xE (e:=e) (A:=af e (some p) (rs.map az.v)) (wr:=true) hw ?_ h0
    show Has (⟨p.1,Sl.Own e 1 (rs.map az.v).length p.2 (rs.map az.v),true⟩::aC rs) _ _ _
    rw [List.length_map]
    exact .here
theorem mS {e : TypeId} (rs : List az) (q : Acc) (l : List Bt) : ak (aC (rs++[aK q l])) (aC rs++af e q (l.map U8)):=by
  unfold aC
  rw [List.flatMap_append]
  refine bQ ?_ _
  show ak ((aK q l).fk++[]) _
  rw [List.append_nil]
  exact tc q l
theorem qH (q : Acc) (k : Nat) : (av q k).cells=#[av q k]:=by cases q <;> rfl
theorem vD (q : Acc) (k : Nat) : (av q k).oneCell'=true:=by cases q <;> rfl
end
section
set_option maxRecDepth 10000
open Sl dc dz
theorem nS : aI Tryz.prog 95:=⟨_,Tryz.func95,rfl,by kernel_rfl⟩
set_option maxHeartbeats 16000000 in
theorem o6 (m : Mk) (s : az) (w : World) (hs : s.ok w) (hl : s.l.length≤42) : Calls Tryz.prog 95 [.agg (bN m).toArray,s.v].toArray w fun e w'=>e=.returned (.agg (bc (aY m s.l)).toArray)∧Ext w w':=by
  have hbl:=jz (m:=m) hl
  refine enter (n:=26) Tryz.func95 rfl rfl rfl (Holds.start w []) ?_
  repeat (first | refine JC.seq ?_ | refine JC.region ?_)
  refine JL.box (r:=bN m) rfl rfl rfl fun b2 _=>?_
  refine JL.alloc A4 rfl fun b4 _=>?_
  repeat (first | refine JL.q (by (apply OQ.aq (cs:=bN m);exact fL;exact ji;rfl;exact (.there .here);rfl;exact Row.all)) rfl ?_ | refine JC.seq ?_ | refine JC.region ?_ | refine JL.nil ?_ | refine JE.next ?_)
  refine JL.bq (ι:=Nat × Nat) (vs:=[.agg (bN m).toArray]) (fun r=>av (some r) (mb m).length) (fun r=>af 5 (some r) ((mb m).map U8)) lz rfl rfl (fun _=>aM _ _ _) (fun w' _=>mR m w') fun r1=>?_
  repeat (refine JL.q (by first|(apply OQ.len (k:=s.l.length) (ad:=s.ad) (cap:=s.cap);exact Tryz.underlying24;rfl)|(apply OQ.eD;exact Tryz.underlying3;exact Tryz.underlying82;rfl)|(apply OQ.move;rfl)) rfl ?_)
  rw [show BitVec.ofNat 64 s.l.length=(BitVec.ofNat 32 s.l.length).setWidth 64 from BitVec.eq_of_toNat_eq (by simp only [BitVec.toNat_setWidth,BitVec.toNat_ofNat];omega)]
  refine JL.iN (q:=some r1) (xs:=mb m) (m:=BitVec.ofNat 32 s.l.length) (size:=2) (by decide) (by decide) nofun (by rw [dP];decide) rfl rfl rfl rfl fun r2=>?_
  repeat (first | refine JL.q (by first|(apply OQ.move;rfl)|(apply OQ.assign;rfl)) rfl ?_ | refine JC.seq ?_ | refine JC.region ?_ | refine JL.nil ?_ | refine JE.next ?_)
  obtain ⟨y2,hy2⟩ : ∃ y2,mb m++be (BitVec.ofNat 32 s.l.length) 2=y2:=⟨_,rfl⟩
  have ly2 : y2.length=12:=by rw [← hy2,List.length_append,dP,bn]
  rw [hy2]
  refine JL.cZ (xs:=y2.map U8) (cs:=s.l.map U8) (m:=s.l.length) (ad:=s.ad) (sc:=s.cap) (some r2) Tryz.underlying24 qw nofun (by rw [List.length_map];rfl) rfl (by simp) (fun w' hw'=>(hs.holds hw' rfl).reads) (oO _) rfl (by rw [List.length_map];omega) (by rw [List.length_map];omega) rfl fun q3 hq3=>?_
  cases q3 with
  | none=>have:=congrArg List.length (hq3 rfl);simp [ly2] at this
  | some r3=>
  rw [← List.map_append]
  obtain ⟨y3,hy3⟩ : ∃ y3,y2++s.l=y3:=⟨_,rfl⟩
  have ly3 : y3.length=12+s.l.length:=by rw [← hy3,List.length_append,ly2]
  rw [hy3,List.length_map]
  repeat (first | refine JL.q (by first|(apply OQ.len (k:=s.l.length) (ad:=s.ad) (cap:=s.cap);exact Tryz.underlying24;rfl)|(apply OQ.qj (a:=42);rfl;rfl;exact hl;exact (by decide))|(apply OQ.move;rfl)|(apply OQ.assign;rfl)) rfl ?_ | refine JC.seq ?_ | refine JC.region ?_ | refine JL.nil ?_ | refine JE.next ?_)
  refine JL.xy (b:=r3.1) (cap:=r3.2) (k:=y3.length) (m:=42 - s.l.length) (xs:=y3.map U8) (fun b' cap'=>⟨b',Sl.Own 5 1 (y3.length+(42 - s.l.length)) cap' (y3.map U8++List.replicate (42 - s.l.length) (Value.int .u8 0)),true⟩::[⟨b4,Row 138 (List.replicate 64 (.int .u8 0)),true⟩,⟨b2,Row 174 (bN m),true⟩]) Tryz.underlying24 Tryz.underlying3 qw rfl rfl (fun b' cap'=>by
    show dy (⟨r3.1,Sl.Own 5 1 (y3.map U8).length r3.2 (y3.map U8),true⟩::_) _ _ _ _ _
    rw [List.length_map]
    exact .here) (by omega) rfl fun b5 c5=>?_
  have e4 : y3.map U8++List.replicate (42 - s.l.length) (Value.int .u8 0)=(y3++List.replicate (42 - s.l.length) 0).map U8:=by rw [List.map_append,List.map_replicate];rfl
  obtain ⟨y4,hy4⟩ : ∃ y4,y3++List.replicate (42 - s.l.length) (0 : Bt)=y4:=⟨_,rfl⟩
  have ly4 : y4.length=54:=by rw [← hy4,List.length_append,List.length_replicate,ly3];omega
  have ly5 : y3.length+(42 - s.l.length)=(y4.map U8).length:=by rw [List.length_map,← hy4,List.length_append,List.length_replicate]
  rw [e4,hy4,ly5]
  repeat (first | refine JL.q (by first|(apply OQ.aq (cs:=bN m);exact fL;exact ji;rfl;exact (.there (.there .here));rfl;exact Row.all)|(apply OQ.move;rfl)|(apply OQ.assign;rfl)) rfl ?_ | refine JC.seq ?_ | refine JC.region ?_ | refine JL.nil ?_ | refine JE.next ?_)
  refine JL.bq (ι:=Nat × Nat) (vs:=[.agg (bN m).toArray]) (fun r=>av (some r) (mb m).length) (fun r=>af 5 (some r) ((mb m).map U8)) lz rfl rfl (fun _=>aM _ _ _) (fun w' _=>mR m w') fun r6=>?_
  refine JL.perm ?_ (List.Perm.swap _ _ _)
  refine JL.cZ (xs:=y4.map U8) (cs:=(mb m).map U8) (m:=(mb m).length) (ad:=some ⟨r6.1,0,none⟩) (sc:=r6.2) (M:=⟨r6.1,Sl.Own 5 1 ((mb m).map U8).length r6.2 ((mb m).map U8),true⟩::[⟨b4,Row 138 (List.replicate 64 (.int .u8 0)),true⟩,⟨b2,Row 174 (bN m),true⟩]) (some (b5,c5)) Tryz.underlying24 qw nofun rfl rfl (by simp) (fun w' hw'=>?_) (oO _) rfl (by rw [List.length_map,ly4,dP];decide) (by rw [List.length_map,ly4,dP];decide) rfl fun q7 hq7=>?_
  · obtain ⟨o,ho,hA⟩:=hw'.get (b:=r6.1) (wr:=true) (.there .here)
    exact Reads.block ho (Sl.Own.cells o hA)
  cases q7 with
  | none=>have:=congrArg List.length (hq7 rfl);simp [ly4] at this
  | some r7=>
  rw [← List.map_append]
  have e5 : y4++mb m=aY m s.l:=by rw [← hy4,← hy3,← hy2];rfl
  rw [e5]
  have l64 : ((aY m s.l).map U8).length=64:=by rw [List.length_map,hbl]
  repeat (refine JL.q (by first|(apply OQ.arr (len:=((aY m s.l).map U8).length) (cap:=r7.2) (ad:=some ⟨r7.1,0,none⟩);exact Tryz.underlying138;rfl;exact (by rw [l64];exact Nat.le_refl _))|(apply OQ.aq (cs:=bc (aY m s.l));exact oS;exact oA;rfl;exact .here;exact (cG hbl);exact Sl.Own.cells)) rfl ?_)
  refine JL.ai (cs:=bc (aY m s.l)) oA rfl rfl (cG hbl) (ej _) (.there (.there .here)) rfl ?_
  repeat (first | refine JL.nil ?_ | refine JE.next ?_)
  exact JC.ret (JE.aP rfl (RV.aL oS oA rfl (.there (.there .here)) (cG hbl) Row.all) fun w' hw=>⟨rfl,hw.aS⟩)
def gX (x : Dp) (bl : List Bk) (pd : List (Nat × Bk)) : List aj:=
  [⟨x.p,Row 87 (gV x bl pd),false⟩,⟨x.q,Sl.Own 138 64 bl.length x.cap (ke bl).flatten,false⟩]
theorem qI {x : Dp} {bl : List Bk} {pd : List (Nat × Bk)} {u w : World} {S : List Nat} {M : List aj} (h : Holds u S (bT x bl pd++M) w) : Holds w [] (gX x bl pd) w:=
  (fU h).weak (.keep _ _ _ _ _ _ (fun _ h=>h) (.keep _ _ _ _ _ _ (fun _ h=>h) (.nil _)))
theorem bJ {x : Dp} {bl : List Bk} {pd : List (Nat × Bk)} {u w : World} {S : List Nat} {A M : List aj} (h : Holds u S (A++(gX x bl pd++M)) w) : Holds w [] (gX x bl pd) w:=
  (fU (h.weak (bE A _))).weak (.keep _ _ _ _ _ _ (fun _ h=>h) (.keep _ _ _ _ _ _ (fun _ h=>h) (.nil _)))
theorem o7 {x : Dp} {bl : List Bk} {pd : List (Nat × Bk)} {w0 w : World} {S : List Nat} {M : List aj} (hw : Holds w0 S (gX x bl pd++M) w) : w.cell? ⟨x.p,0,none⟩=some (.slice (some ⟨x.q,0,none⟩) bl.length x.cap):=by
  obtain ⟨o,ho,hA⟩:=hw.get (b:=x.p) (A:=Row 87 (gV x bl pd)) (wr:=false) .here
  exact cell_of ho (Row.cell rfl _ hA)
set_option maxHeartbeats 4000000 in
theorem qJ (x : Dp) (bl : List Bk) (pd : List (Nat × Bk)) (n : Nat) (hn : n<bl.length) (ok : Ok bl pd) (w : World) (h : Holds w [] (gX x bl pd) w) :
    Calls Tryz.prog 150 [Pt x.p 0,N n].toArray w fun e w'=>e=.returned (.tuple #[.agg (bc (old bl n)).toArray,N 0])∧Ext w w':=by
  have hcl:=o7 (M:=[]) (by rw [List.append_nil];exact h)
  have c:=fun w' (hx : Ext w w')=>sr x.p (some ⟨x.q,0,none⟩) bl.length x.cap n w' (by
    rw [World.cell?,hx.block x.p (block_lt_of_cell hcl) (by simp)]
    exact hcl)
  rw [decide_eq_true (show (0 : Int)≤n∧(n : Int)<bl.length by omega)] at c
  refine enter (n:=18) Tryz.func150 rfl rfl rfl h ?_
  repeat (first | refine JC.seq ?_ | refine JC.region ?_)
  refine JL.alloc A4 rfl fun b4 _=>?_
  repeat (first | refine JL.q (by first|(apply OQ.aB (vs:=[Pt x.p 0,.int .i64 n]);exact oT;rfl;exact (fun w' hw=>c w' hw.aS))|(apply OQ.not;rfl)|(apply OQ.move;rfl)|(apply OQ.assign;rfl)) rfl ?_ | refine JC.seq ?_ | refine JC.region ?_ | refine JL.nil ?_ | refine JE.next ?_)
  refine JC.cond_false rfl rfl ?_
  repeat (first | refine JL.q (by first|(apply OQ.load;exact y8;rfl;exact (.there .here);exact (Row.cell (v:=.slice (some ⟨x.q,0,none⟩) bl.length x.cap) rfl))|(apply OQ.mz;exact Tryz.underlying84;exact oA;rfl;rfl;exact hn)|(apply OQ.move;rfl)|(apply OQ.bx;rfl)|(apply OQ.bA;rfl;rfl;rfl;exact (by decide);rfl)) rfl ?_ | refine JC.seq ?_ | refine JC.region ?_ | refine JC.skip ?_ | refine JE.next ?_)
  refine JL.q (v:=.agg (bc (old bl n)).toArray) (OQ.to (OQ.u6 (L:=ke bl) (i:=n) oS oA rfl (Nat.zero_add _) (.there (.there .here)) (ku ok) (by rw [sk];exact hn)) (by rw [u9 hn])) rfl ?_
  refine JL.ai (cs:=bc (old bl n)) oA rfl rfl (cG (ok.old hn)) (ej _) .here rfl ?_
  repeat (first | refine JL.q (by (apply OQ.assign;rfl)) rfl ?_ | refine JL.nil ?_ | refine JE.next ?_)
  refine JC.ret ?_
  skip
  exact JE.cg rfl (RV.aL oS oA rfl .here (cG (ok.old hn)) Row.all) (RV.tmp rfl) fun w' hw=>⟨rfl,hw.aS⟩
end
section
set_option maxRecDepth 10000
open Sl dc dz
structure Hf where
  x : Dp
  first : Nat
  size : Nat
  g : BitVec 32
  count : Nat
  used : Nat
def gB (x : Dp) : Value:=.iface 27 (Pt x.p 0)
def bf (h : Hf) : List Value:=[gB h.x,N h.first,N h.size,dF h.g,N h.count,N h.used]
theorem fZ : dH Tryz.prog 119=some 6:=by kernel_rfl
theorem dZ : jm Tryz.prog 119=true:=by kernel_rfl
theorem zV : zc Tryz.prog 119=some [.nilIface,N 0,N 0,dF 0,N 0,N 0]:=by kernel_rfl
theorem zg : dY Tryz.prog 116=true:=by kernel_rfl
theorem qK (x : Dp) : dO Tryz.prog 27 (Pt x.p 0) "Read" 150:=by unfold dO;kernel_rfl
theorem nT (x : Dp) : dO Tryz.prog 27 (Pt x.p 0) "Size" 151:=by unfold dO;kernel_rfl
def dR (bl : List Bk) (first size at' : Nat) : List Bk:=((bl.drop first).take size).drop at'
theorem ga {bl : List Bk} {first size at' : Nat} (h : first+size≤bl.length) : (dR bl first size at').length=size - at':=by
  simp only [dR,List.length_drop,List.length_take]
  omega
theorem xR {bl : List Bk} {first size at' p : Nat} (h : first+size≤bl.length) (hp : p<size - at') : (dR bl first size at').drop p=old bl (first+at'+p)::(dR bl first size at').drop (p+1):=by
  have hl:=ga (at':=at') h
  rw [List.drop_eq_getElem_cons (by rw [hl];exact hp)]
  congr 1
  simp only [dR,List.getElem_drop,List.getElem_take,old,List.getD_eq_getElem?_getD]
  rw [List.getElem?_eq_getElem (by omega : first+at'+p<bl.length)]
  simp only [Option.getD_some]
  congr 1
  omega
theorem iL {b : Bk} (hb : b.length=64) (hw : bC b=true) : (partOf b).length=cnt b∧cnt b≤42:=by
  unfold bC at hw
  simp only [Bool.and_eq_true,decide_eq_true_eq] at hw
  refine ⟨?_,hw.2.1⟩
  unfold partOf
  rw [List.length_take,List.length_drop,hb]
  have:=hw.2.1
  omega
def xS (r : Option (Bk × Nat)) : Bk × Nat:=r.getD ([],0)
theorem qL {w0 w : World} {S : List Nat} {M : List aj} {b1 : Nat} {b : Bk} {wr : Bool} (hw : Holds w0 S M w) (hM : Has M b1 (Row 138 (bc b)) wr) (hc : (partOf b).length=cnt b) : Reads w (some ⟨b1,12,none⟩) ((partOf b).map U8):=by
  obtain ⟨o,ho,hA⟩:=hw.get hM
  refine Reads.block ho (Row.cells ?_ o hA)
  rw [List.length_map,hc]
  simp only [bc,partOf,List.map_take,List.map_drop]
theorem tK {b : Bk} (hb : b.length=64) (hwb : bC b=false) (w : World) : Calls Tryz.prog 124 [.agg (bc b).toArray].toArray w fun e w'=>e=.returned (.tuple #[.agg (bN (0,0,0,false)).toArray,.slice none 0 0,.bool false])∧Ext w w':=
  (lC b hb w).mono fun e w2 hh=>by
    rcases hh with ⟨_,h1,h2⟩ | ⟨h1,_⟩
    · exact ⟨h1,h2⟩
    · rw [hwb] at h1;cases h1
theorem qM {b : Bk} (hb : b.length=64) (hwb : bC b=true) (w : World) : Calls Tryz.prog 124 [.agg (bc b).toArray].toArray w fun e w'=>∃ b1 : Nat,e=.returned (.tuple #[.agg (bN (ag b)).toArray,.slice (some ⟨b1,12,none⟩) (cnt b) 52,.bool true])∧Holds w [] [⟨b1,Row 138 (bc b),true⟩] w':=
  (lC b hb w).mono fun e w2 hh=>by
    rcases hh with ⟨h1,_⟩ | ⟨_,b1,h1,h2⟩
    · rw [hwb] at h1;cases h1
    · exact ⟨b1,h1,h2⟩
theorem tL : aI Tryz.prog 104:=⟨_,Tryz.func104,rfl,by kernel_rfl⟩
set_option maxHeartbeats 32000000 in
theorem vE (h : Hf) (bl : List Bk) (pd : List (Nat × Bk)) (at' num : Nat) (ok : Ok bl pd) (hn : bl.length≤65536) (hs : h.first+h.size≤bl.length) (ha : at'≤h.size) (w : World) (h0 : Holds w [] (gX h.x bl pd) w) :
    Calls Tryz.prog 104 [.agg (bf h).toArray,N at',N num].toArray w fun e w'=>∃ q : {q : Acc // q=none→(xS (rd h.g num (dR bl h.first h.size at') 0 [])).1=[]},e=.returned (.tuple #[av q.1 (xS (rd h.g num (dR bl h.first h.size at') 0 [])).1.length,N (xS (rd h.g num (dR bl h.first h.size at') 0 [])).2])∧Holds w [] (af 5 q.1 ((xS (rd h.g num (dR bl h.first h.size at') 0 [])).1.map U8)) w':=by
  obtain ⟨x,first,size,g,count,used⟩:=h
  dsimp only at hs ha h0 ⊢
  generalize hbs : dR bl first size at'=bs
  have hbl : bs.length=size - at':=by rw [← hbs];exact ga hs
  have hat:=fun p (hp : p<size - at')=>xR (bl:=bl) (first:=first) (size:=size) (at':=at') (p:=p) hs hp
  rw [hbs] at hat
  refine enter (n:=64) Tryz.func104 rfl rfl rfl h0 ?_
  repeat (first | refine JC.seq ?_ | refine JC.region ?_)
  refine JL.box (r:=bf ⟨x,first,size,g,count,used⟩) rfl rfl rfl fun b3 _=>?_
  repeat (first | refine JL.q (by first|(apply OQ.load;exact cr;rfl;exact .here;exact (Row.cell (v:=N size) rfl))|(apply OQ.qj (a:=size);rfl;rfl;exact ha;exact (by omega))|(apply OQ.move;rfl)|(apply OQ.assign;rfl)|(apply OQ.bA;rfl;rfl;rfl;exact (by decide);rfl)) rfl ?_ | refine JC.seq ?_ | refine JC.region ?_ | refine JC.block ?_ | refine JL.nil ?_ | refine JE.next ?_)
  refine JC.loop (fun z : Nat × Acc × Bk=>[(1,N at'),(2,N num),(3,Pt b3 0),(8,av z.2.1 z.2.2.length),(18,N (size - at')),(19,N z.1)]) (fun z=>af 5 z.2.1 (z.2.2.map U8)++(⟨b3,Row 119 (bf ⟨x,first,size,g,count,used⟩),true⟩::gX x bl pd)) (fun z=>size - at' - z.1) (fun z=>z.1≤size - at'∧(z.2.1=none→z.2.2=[])∧z.2.2.length≤z.1 * 42∧rd g num bs 0 []=rd g num (bs.drop z.1) z.1 z.2.2) (0,none,[]) ⟨Nat.zero_le _,fun _=>rfl,Nat.le_refl _,rfl⟩ (by repeat (first | exact ah.nil | refine ah.cons _ _ _ rfl ?_)) (ak.refl _) ?_
  rintro ⟨p,q,acc⟩ ⟨hp,hq,hal,hr⟩
  dsimp only at hp hq hal hr ⊢
  repeat (first | refine JL.q (by (apply OQ.fc;rfl;rfl)) rfl ?_ | refine JC.seq ?_ | refine JC.region ?_ | refine JL.nil ?_ | refine JE.next ?_)
  refine JC.cond rfl (fun hc=>?_) (fun hc=>?_)
  · have hp' : p<size - at':=by have:=of_decide_eq_true hc;omega
    clear hc
    rw [hat p hp'] at hr
    have hix : first+at'+p<bl.length:=by omega
    have hb64 : (old bl (first+at'+p)).length=64:=ok.old hix
    have cR:=fun {u w' : World} {S : List Nat} {A : List aj} (hw' : Holds u S (A++(gX x bl pd++[])) w')=>qJ x bl pd (first+at'+p) hix ok w' (bJ hw')
    generalize old bl (first+at'+p)=b at hr hb64 cR
    repeat (first | refine JL.q (by first|(apply OQ.load;exact zg;rfl;exact (aZ (N:=af 5 q (acc.map U8)) .here);exact (Row.cell (v:=gB x) rfl))|(apply OQ.load;exact cr;rfl;exact (aZ (N:=af 5 q (acc.map U8)) .here);exact (Row.cell (v:=N first) rfl))|(apply OQ.inv (xs:=[_]);exact (qK x);rfl;exact (OQ.aB (vs:=[Pt x.p 0,N (first+at'+p)]) hU rfl (fun w' hw'=>cR (A:=af 5 q (acc.map U8)++[⟨b3,Row 119 (bf ⟨x,first,size,g,count,used⟩),true⟩]) (by rw [List.append_assoc];exact hw'))))|(apply OQ.extract;rfl;rfl)|(apply OQ.move;rfl)|(apply OQ.assign;rfl)|(apply OQ.addN;rfl;rfl;exact (by (try simp only []);omega))|(apply OQ.bA;rfl;rfl;rfl;exact (by decide);rfl)) rfl ?_ | refine JC.seq ?_ | refine JC.region ?_ | refine JC.block ?_ | refine JC.skip ?_ | refine JL.nil ?_ | refine JE.next ?_)
    refine JL.alloc A4 rfl fun b10 _=>?_
    refine JL.ai (cs:=bc b) oA rfl rfl (cG hb64) (ej _) .here rfl ?_
    repeat (first | refine JL.q (by first|(apply OQ.aq (cs:=bc b);exact oS;exact oA;rfl;exact .here;exact (cG hb64);exact Row.all)|(apply OQ.assign;rfl)) rfl ?_ | refine JC.seq ?_ | refine JC.region ?_ | refine JL.nil ?_ | refine JE.next ?_)
    cases hwb : bC b
    case false=>
      rw [rd,if_neg (by rw [hwb];simp)] at hr
      rw [hr]
      repeat (refine JL.q (by first|(apply OQ.aB (vs:=[.agg (bc b).toArray]);exact jV;rfl;exact (fun w' _=>tK hb64 hwb w'))|(apply OQ.extract;rfl;rfl)|(apply OQ.move;rfl)) rfl ?_)
      refine JL.alloc AM rfl fun b12 _=>?_
      refine JL.ai (cs:=bN (0,0,0,false)) ji rfl rfl rfl rfl .here rfl ?_
      repeat (first | refine JL.q (by first|(apply OQ.not;rfl)|(apply OQ.bg;rfl;rfl)|(apply OQ.move;rfl)|(apply OQ.assign;rfl)) rfl ?_ | refine JC.seq ?_ | refine JC.region ?_ | refine JL.nil ?_ | refine JE.next ?_ | refine JL.bO rfl rfl rfl rfl ?_)
      refine JC.cond_true rfl rfl ?_
      repeat (first | refine JL.q (by (apply OQ.assign;rfl)) rfl ?_ | refine JC.seq ?_ | refine JC.region ?_ | refine JL.nil ?_ | refine JE.next ?_)
      refine JC.ret ?_
      repeat (first | refine JE.ax ?_ | refine JE.cy ?_)
      exact JE.cg rfl (RV.tmp rfl) (RV.tmp rfl) fun w' hw=>⟨⟨none,fun _=>rfl⟩,rfl,(⟨hw.aS,by simp,by simp⟩ : Holds w [] [] w')⟩
    case true=>
      have ⟨hpl,hc42⟩:=iL hb64 hwb
      refine JL.bq (ι:=Nat) (vs:=[.agg (bc b).toArray]) (fun b1=>.tuple #[.agg (bN (ag b)).toArray,.slice (some ⟨b1,12,none⟩) (cnt b) 52,.bool true]) (fun b1=>[⟨b1,Row 138 (bc b),true⟩]) jV rfl rfl (fun _=>by simp) (fun w' _=>qM hb64 hwb w') fun b1=>?_
      repeat (refine JL.q (by first|(apply OQ.extract;rfl;rfl)|(apply OQ.move;rfl)) rfl ?_)
      refine JL.alloc AM rfl fun b12 _=>?_
      refine JL.ai (cs:=bN (ag b)) ji rfl rfl rfl rfl .here rfl ?_
      have hlc : (bN (ag b))[3]?=some (.bool (ag b).2.2.2):=rfl
      cases c1 : decide (ag b=(g,BitVec.ofNat 32 num,BitVec.ofNat 16 p,(ag b).2.2.2))
      case false=>
        rw [rd,if_neg (by rw [hwb];simpa using c1)] at hr
        rw [hr]
        repeat (first | refine JL.q (by first|(apply OQ.aq (cs:=bN (ag b));exact fL;exact ji;rfl;exact .here;rfl;exact Row.all)|(apply OQ.load;exact gO;rfl;exact (aZ (N:=[_,_,_]) (aZ (N:=af 5 q (acc.map U8)) .here));exact (Row.cell (v:=dF g) rfl))|(apply OQ.kS;exact Tryz.underlying3;exact Tryz.underlying117;rfl)|(apply OQ.lu;exact Tryz.underlying3;exact Tryz.underlying172;rfl)|(apply OQ.load;exact fY;rfl;exact .here;exact (Row.cell hlc))|(apply OQ.nQ (m:=(g,BitVec.ofNat 32 num,BitVec.ofNat 16 p,(ag b).2.2.2));rfl;rfl;rfl;rfl)|(apply OQ.zT;rfl;rfl;exact c1)|(apply OQ.not;rfl)|(apply OQ.aW;rfl;rfl)|(apply OQ.move;rfl)|(apply OQ.assign;rfl)|(apply OQ.bA;rfl;rfl;rfl;exact (by decide);rfl)) rfl ?_ | refine JC.seq ?_ | refine JC.region ?_ | refine JL.nil ?_ | refine JE.next ?_ | refine JL.aD rfl rfl ?_)
        refine JC.cond_true rfl rfl ?_
        repeat (first | refine JL.q (by (apply OQ.assign;rfl)) rfl ?_ | refine JC.seq ?_ | refine JC.region ?_ | refine JL.nil ?_ | refine JE.next ?_)
        refine JC.ret ?_
        repeat (first | refine JE.ax ?_ | refine JE.cy ?_)
        exact JE.cg rfl (RV.tmp rfl) (RV.tmp rfl) fun w' hw=>⟨⟨none,fun _=>rfl⟩,rfl,(⟨hw.aS,by simp,by simp⟩ : Holds w [] [] w')⟩
      case true=>
        rw [rd,if_pos ⟨hwb,of_decide_eq_true c1⟩] at hr
        repeat (first | refine JL.q (by first|(apply OQ.aq (cs:=bN (ag b));exact fL;exact ji;rfl;exact .here;rfl;exact Row.all)|(apply OQ.load;exact gO;rfl;exact (aZ (N:=[_,_,_]) (aZ (N:=af 5 q (acc.map U8)) .here));exact (Row.cell (v:=dF g) rfl))|(apply OQ.kS;exact Tryz.underlying3;exact Tryz.underlying117;rfl)|(apply OQ.lu;exact Tryz.underlying3;exact Tryz.underlying172;rfl)|(apply OQ.load;exact fY;rfl;exact .here;exact (Row.cell hlc))|(apply OQ.nQ (m:=(g,BitVec.ofNat 32 num,BitVec.ofNat 16 p,(ag b).2.2.2));rfl;rfl;rfl;rfl)|(apply OQ.zT;rfl;rfl;exact c1)|(apply OQ.not;rfl)|(apply OQ.aW;rfl;rfl)|(apply OQ.move;rfl)|(apply OQ.assign;rfl)|(apply OQ.bA;rfl;rfl;rfl;exact (by decide);rfl)) rfl ?_ | refine JC.seq ?_ | refine JC.region ?_ | refine JL.nil ?_ | refine JE.next ?_ | refine JL.aD rfl rfl ?_)
        refine JC.cond_false rfl rfl ?_
        repeat (first | refine JL.q (by (apply OQ.move;rfl)) rfl ?_ | refine JC.seq ?_ | refine JC.region ?_ | refine JC.skip ?_ | refine JE.next ?_)
        refine JL.perm (M':=af 5 q (acc.map U8)++([⟨b12,Row 174 (bN (ag b)),true⟩,⟨b1,Row 138 (bc b),true⟩,⟨b10,Row 138 (bc b),true⟩]++(⟨b3,Row 119 (bf ⟨x,first,size,g,count,used⟩),true⟩::gX x bl pd))) ?_ (by exact List.perm_append_comm_assoc [_,_,_] _ _)
        refine JL.cZ (xs:=acc.map U8) (cs:=(partOf b).map U8) (m:=cnt b) (ad:=some ⟨b1,12,none⟩) (sc:=52) q Tryz.underlying24 qw (fun e=>by rw [hq e];rfl) (by rw [List.length_map];rfl) rfl (by rw [List.length_map,hpl]) (fun w' hw'=>qL hw' (aZ (N:=af 5 q (acc.map U8)) (.there .here)) hpl) (oO _) rfl (by rw [List.length_map];omega) (by rw [List.length_map];omega) rfl fun q' hq'=>?_
        rw [← List.map_append] at hq' ⊢
        have hq2 : q'=none→acc++partOf b=[]:=fun e=>List.map_eq_nil_iff.1 (hq' e)
        have hal2 : (acc++partOf b).length≤(p+1) * 42:=by rw [List.length_append,hpl];omega
        clear hq' hq hal
        generalize acc++partOf b=acc2 at hq2 hal2 hr ⊢
        rw [List.length_map]
        repeat (first | refine JL.q (by first|(apply OQ.load;exact fY;rfl;exact (aZ (N:=af 5 q' (acc2.map U8)) .here);exact (Row.cell hlc))|(apply OQ.assign;rfl)|(apply OQ.bA;rfl;rfl;rfl;exact (by decide);rfl)) rfl ?_ | refine JC.seq ?_ | refine JC.region ?_ | refine JL.nil ?_ | refine JE.next ?_)
        refine JC.cond rfl (fun hl=>?_) (fun hl=>?_)
        · rw [if_pos hl] at hr
          rw [hr]
          repeat (first | refine JL.q (by first|(apply OQ.move;rfl)|(apply OQ.assign;rfl)|(apply OQ.addN;rfl;rfl;exact (by (try simp only []);omega))) rfl ?_ | refine JC.seq ?_ | refine JC.region ?_ | refine JL.nil ?_ | refine JE.next ?_)
          refine JC.ret ?_
          repeat (first | refine JE.ax ?_ | refine JE.cy ?_)
          exact JE.cg rfl (RV.tmp rfl) (RV.tmp rfl) fun w' hw=>⟨⟨q',hq2⟩,rfl,hw.weak (mM _ _)⟩
        · rw [if_neg (by rw [hl];decide)] at hr
          repeat (first | refine JL.q (by first|(apply OQ.move;rfl)|(apply OQ.addN;rfl;rfl;exact (by (try simp only []);omega))) rfl ?_ | refine JC.region ?_ | refine JC.skip ?_ | refine JL.nil ?_ | refine JE.next ?_ | refine JE.au ?_)
          exact JE.again (i:=(p,q,acc)) (p+1,q',acc2) ⟨hp',hq2,hal2,hr⟩ (by dsimp only;omega) (by repeat (first | exact ah.nil | refine ah.cons _ _ _ rfl ?_)) (dM (ak.refl _) (.drop _ _ _ (.drop _ _ _ (.drop _ _ _ (ak.refl _)))))
  · have hp' : p=size - at':=by have:=of_decide_eq_false hc;omega
    rw [List.drop_of_length_le (by omega : bs.length≤p),rd] at hr
    rw [hr]
    repeat (first | refine JL.q (by (apply OQ.assign;rfl)) rfl ?_ | refine JC.seq ?_ | refine JC.region ?_ | refine JC.exit ?_ | refine JL.nil ?_ | refine JE.next ?_ | refine JE.aH ?_ | refine JE.aX ?_)
    exact JC.ret (JE.cg rfl (RV.tmp rfl) (RV.tmp rfl) fun w' hw=>⟨⟨none,fun _=>rfl⟩,rfl,(⟨hw.aS,by simp,by simp⟩ : Holds w [] [] w')⟩)
end
section
set_option maxRecDepth 10000
open Sl dc dz
structure Gr where
  q : Acc
  rs : List az
  hq : q=none→rs=[]
  h0 : ∀ x ∈ rs,x.ad=none→x.l=[]
def Gr.v (z : Gr) : Value:=av z.q z.rs.length
def Gr.l (z : Gr) : List Bk:=z.rs.map az.l
def Gr.E (z : Gr) : List aj:=af 24 z.q (z.rs.map az.v)++aC z.rs
theorem iO (rs : List az) : ∀ e ∈ aC rs,e.wr=true:=by
  intro e he
  unfold aC at he
  obtain ⟨x,_,h2⟩:=List.mem_flatMap.1 he
  unfold az.fk at h2
  split at h2
  · rw [List.mem_singleton.1 h2]
  · cases h2
theorem Gr.wr (z : Gr) : ∀ e ∈ z.E,e.wr=true:=by
  intro e he
  rcases List.mem_append.1 he with h | h
  · exact aM _ _ _ e h
  · exact iO _ e h
def Gr.s (z : Gr) : r9:=xP z.q z.rs
theorem Gr.qN (z : Gr) : z.s.v=z.v:=by unfold Gr.s;rw [zU,List.length_map];rfl
theorem Gr.Bb (z : Gr) : z.s.rs=z.rs:=sC z.hq
theorem Gr.ok {z : Gr} {w0 w : World} {S : List Nat} (h : Holds w0 S z.E w) : z.s.ok w:=xQ h z.h0
theorem vF : EI Tryz.prog 24 (.slice none 0 0) 1 24:=by unfold EI;kernel_rfl
theorem mT : aI Tryz.prog 88:=⟨_,Tryz.func88,rfl,by kernel_rfl⟩
def fJ (bl : List Bk) (first size : Nat) (g : BitVec 32) : List Bk:=told g (dR bl first size 0)
theorem xU {bl : List Bk} {first size : Nat} {g : BitVec 32} (h : first+size≤bl.length) : ∃ f,size - 0<f∧fJ bl first size g=[]++gW g f (dR bl first size 0) 0:=
  ⟨(dR bl first size 0).length+1,by rw [ga h];exact Nat.lt_succ_self _,rfl⟩
theorem tM (bl : List Bk) (first size at' k : Nat) : (dR bl first size at').drop k=dR bl first size (at'+k):=by
  unfold dR
  rw [List.drop_drop]
set_option maxHeartbeats 16000000 in
theorem o8 (h : Hf) (bl : List Bk) (pd : List (Nat × Bk)) (ok : Ok bl pd) (hn : bl.length≤65536) (hs : h.first+h.size≤bl.length) (w : World) (h0 : Holds w [] (gX h.x bl pd) w) :
    Calls Tryz.prog 88 [.agg (bf h).toArray].toArray w fun e w'=>∃ z : {z : Gr // z.l=fJ bl h.first h.size h.g∧z.rs.length≤h.size},e=.returned z.1.v∧Holds w [] z.1.E w':=by
  refine enter (n:=25) Tryz.func88 rfl rfl rfl h0 ?_
  repeat (first | refine JC.seq ?_ | refine JC.region ?_)
  refine JL.box (r:=bf h) rfl rfl rfl fun b1 _=>?_
  repeat (first | refine JL.q (by (apply OQ.assign;rfl)) rfl ?_ | refine JC.seq ?_ | refine JC.region ?_ | refine JC.block ?_ | refine JL.nil ?_ | refine JE.next ?_)
  refine JC.loop (fun z : Nat × Gr=>[(1,Pt b1 0),(3,z.2.v),(4,N z.1)]) (fun z=>af 24 z.2.q (z.2.rs.map az.v)++(aC z.2.rs++(⟨b1,Row 119 (bf h),true⟩::gX h.x bl pd))) (fun z=>h.size - z.1) (fun z=>z.1≤h.size∧z.2.rs.length≤z.1∧∃ f,h.size - z.1<f∧fJ bl h.first h.size h.g=z.2.l++gW h.g f (dR bl h.first h.size z.1) z.2.rs.length) (0,⟨none,[],fun _=>rfl,nofun⟩) ⟨Nat.zero_le _,Nat.le_refl _,xU hs⟩ (by repeat (first | exact ah.nil | refine ah.cons _ _ _ rfl ?_)) (ak.refl _) ?_
  rintro ⟨at',q,rs,hq,hr0⟩ ⟨hat,hrl,f,hf,ht⟩
  dsimp only [Gr.v,Gr.l] at hat hrl hf ht ⊢
  obtain ⟨f,rfl⟩ : ∃ f',f=f'+1:=⟨f - 1,by omega⟩
  rw [gW] at ht
  have hq0 : q=none→rs.length=0:=fun e=>by rw [hq e];rfl
  repeat (first | refine JL.q (by first|(apply OQ.aq (cs:=bf h);exact dZ;exact fZ;rfl;exact (aZ (N:=af 24 q (rs.map az.v)) (aZ (N:=aC rs) .here));rfl;exact Row.all)|(apply OQ.kf (q:=q) (k:=rs.length);exact Tryz.underlying134;exact hq0;rfl)|(apply OQ.move;rfl)) rfl ?_ | refine JC.seq ?_ | refine JC.region ?_ | refine JC.block ?_)
  have cR:=fun {u w' : World} {S : List Nat} {A : List aj} (hw' : Holds u S (A++(gX h.x bl pd++[])) w')=>vE h bl pd at' rs.length ok hn hs hat w' (bJ hw')
  have hle:=fun rec k=>vi (g:=h.g) (r:=rs.length) (bs:=dR bl h.first h.size at') (p:=0) (acc:=[]) (rec:=rec) (k:=k)
  rw [ga hs] at hle
  generalize rd h.g rs.length (dR bl h.first h.size at') 0 []=r at ht cR hle
  refine JL.bq (ι:={q : Acc // q=none→(xS r).1=[]}) (vs:=[.agg (bf h).toArray,N at',N rs.length]) (fun q=>.tuple #[av q.1 (xS r).1.length,N (xS r).2]) (fun q=>af 5 q.1 ((xS r).1.map U8)) tL rfl rfl (fun _=>aM _ _ _) (fun w' hw'=>cR (A:=af 24 q (rs.map az.v)++(aC rs++[⟨b1,Row 119 (bf h),true⟩])) (by rw [List.append_assoc,List.append_assoc];exact hw')) fun q1=>?_
  obtain ⟨q1,hq1⟩:=q1
  dsimp only
  cases r with
  | none=>
    dsimp only at ht
    rw [List.append_nil] at ht
    repeat (first | refine JL.q (by first|(apply OQ.extract;rfl;rfl)|(apply OQ.BQ;rfl;rfl)|(apply OQ.move;rfl)|(apply OQ.assign;rfl)) rfl ?_ | refine JC.seq ?_ | refine JC.region ?_ | refine JL.nil ?_ | refine JE.next ?_)
    refine JC.cond_true rfl rfl ?_
    repeat (first | refine JL.q (by first|(apply OQ.move;rfl)|(apply OQ.assign;rfl)) rfl ?_ | refine JC.seq ?_ | refine JC.region ?_ | refine JL.nil ?_ | refine JE.next ?_)
    refine JC.ret ?_
    repeat (first | refine JE.ax ?_ | refine JE.cy ?_)
    exact JE.aP rfl (RV.tmp rfl) fun w' hw=>⟨⟨⟨q,rs,hq,hr0⟩,ht.symm,by show rs.length≤h.size;omega⟩,rfl,hw.weak (ay _ (dM (ak.refl _) (an _ _)))⟩
  | some rk=>
    obtain ⟨rec,k⟩:=rk
    have hk:=hle rec k rfl
    dsimp only [xS,Option.getD_some] at ht hq1 ⊢
    rw [tM] at ht
    have hk0 : decide (((k : Nat) : Int)=0)=false:=decide_eq_false (by omega)
    repeat (first | refine JL.q (by first|(apply OQ.extract;rfl;rfl)|(apply OQ.kV (b:=0);rfl;rfl;exact hk0)|(apply OQ.move;rfl)|(apply OQ.assign;rfl)) rfl ?_ | refine JC.seq ?_ | refine JC.region ?_ | refine JL.nil ?_ | refine JE.next ?_)
    refine JC.cond_false rfl rfl ?_
    repeat (first | refine JL.q (by (apply OQ.move;rfl)) rfl ?_ | refine JC.seq ?_ | refine JC.region ?_ | refine JC.skip ?_ | refine JE.next ?_)
    refine JL.perm (M':=af 24 q (rs.map az.v)++(aC rs++(af 5 q1 (rec.map U8)++(⟨b1,Row 119 (bf h),true⟩::gX h.x bl pd)))) ?_ (by exact (List.perm_append_comm_assoc (af 5 q1 (rec.map U8)) _ _).trans (List.Perm.append_left _ (List.perm_append_comm_assoc (af 5 q1 (rec.map U8)) _ _)))
    refine JL.j7 (v:=av q1 rec.length) Tryz.underlying134 vF rfl rfl (qH _ _) rfl fun bl2 _=>?_
    refine JL.perm (M':=af 24 q (rs.map az.v)++(⟨bl2,Row 24 [av q1 rec.length],true⟩::(aC rs++(af 5 q1 (rec.map U8)++(⟨b1,Row 119 (bf h),true⟩::gX h.x bl pd))))) ?_ (by exact List.perm_append_comm_assoc [_] _ _)
    refine JL.cZ (xs:=rs.map az.v) (cs:=[av q1 rec.length]) (m:=1) (ad:=some ⟨bl2,0,none⟩) (sc:=1) q Tryz.underlying134 vF (fun h=>by rw [hq h];rfl) (by rw [List.length_map];rfl) rfl rfl (fun w' hw'=>?_) (fun v hv=>by rw [List.mem_singleton.1 hv];exact vD _ _) rfl (by rw [List.length_map];omega) (by rw [List.length_map];omega) rfl fun q3 hq3=>?_
    · obtain ⟨o,ho,hA⟩:=(hw'.weak (ay _ (ak.refl _))).get (b:=bl2) (A:=Row 24 [av q1 rec.length]) (wr:=true) .here
      exact Reads.block ho (Row.all _ hA)
    have eM : rs.map az.v++[av q1 rec.length]=(rs++[aK q1 rec]).map az.v:=by
      rw [List.map_append,List.map_singleton,kW]
    rw [eM] at hq3 ⊢
    have hq4 : q3=none→rs++[aK q1 rec]=[]:=fun e=>List.map_eq_nil_iff.1 (hq3 e)
    have hr4 : ∀ x ∈ rs++[aK q1 rec],x.ad=none→x.l=[]:=by
      intro x hx hn
      rcases List.mem_append.1 hx with hx | hx
      · exact hr0 x hx hn
      · rw [List.mem_singleton.1 hx] at hn ⊢
        cases q1 with
        | none=>rfl
        | some p=>cases hn
    have hl4 : (rs++[aK q1 rec]).map az.l=rs.map az.l++[rec]:=by
      rw [List.map_append,List.map_singleton,jx (fun e=>(hq1 e))]
    rw [List.length_map]
    repeat (first | refine JL.q (by first|(apply OQ.addN (a:=at');rfl;rfl;exact (by omega))|(apply OQ.move;rfl)|(apply OQ.assign;rfl)) rfl ?_ | refine JC.region ?_ | refine JL.nil ?_ | refine JE.next ?_ | refine JE.au ?_)
    refine JE.again (i:=(at',⟨q,rs,hq,hr0⟩)) (at'+k,⟨q3,rs++[aK q1 rec],hq4,hr4⟩) ⟨by dsimp only;omega,by dsimp only;rw [List.length_append,List.length_singleton];omega,f,by dsimp only;omega,?_⟩ (by dsimp only;omega) (by repeat (first | exact ah.nil | refine ah.cons _ _ _ rfl ?_)) ?_
    · dsimp only [Gr.l]
      rw [hl4,ht,List.append_assoc,List.length_append]
      rfl
    · dsimp only
      exact dM (ak.refl _) (.drop _ _ _ (by rw [← List.append_assoc];exact dM (mS rs q1 rec) (ak.refl _)))
end
section
set_option maxRecDepth 10000
open Sl dc dz
section
variable {n : Nat} {E : Env} {C : World→Prop} {dst : Option Tmp} {ty t t' t'' : TypeId} {pos : String} {aft : Array Edge} {g : Option (Nat × Bool)} {x1 x2 x3 x4 : Operand}
theorem OQ.nU {m : Mk} (hx : ev E x1=some (.agg (bN m).toArray)) : OQ Tryz.prog n E C ⟨dst,.field 174 x1 0,ty,pos,aft,g⟩ (dF m.1):=
  OQ.run fun a ha w _=>by
    have h1:=ha.eval hx
    have h2 : (Instr.field 174 (.agg (bN m).toArray) 0).run Tryz.prog w=.ok (dF m.1) w:=eY (by kernel_rfl)
    simp [execOp,h1,h2]
theorem OQ.zW {x : Dp} (hx : ev E x1=some (Pt x.p 0)) : OQ Tryz.prog n E C ⟨dst,.makeInterface 27 x1,ty,pos,aft,g⟩ (gB x):=
  OQ.run fun a ha w _=>by
    have h1:=ha.eval hx
    have h2 : (Instr.makeInterface 27 (Pt x.p 0)).run Tryz.prog w=.ok (gB x) w:=eY (by kernel_rfl)
    simp [execOp,h1,h2]
def jA : List Value:=[.nilIface,N 0,N 0,dF 0,N 0,N 0]
theorem OQ.xV {h : Hf} (h1 : ev E x1=some (gB h.x)) (h2 : ev E x2=some (N h.first)) (h3 : ev E x3=some (N h.size)) (h4 : ev E x4=some (dF h.g)) :
    OQ Tryz.prog n E C ⟨dst,.build 119 #[(0,x1),(1,x2),(2,x3),(3,x4)],ty,pos,aft,g⟩ (.agg (bf ⟨h.x,h.first,h.size,h.g,0,0⟩).toArray):=
  OQ.run fun a ha w _=>by
    have e1:=ha.eval h1
    have e2:=ha.eval h2
    have e3:=ha.eval h3
    have e4:=ha.eval h4
    have r:=run_build (P:=Tryz.prog) w 119 #[(0,gB h.x),(1,N h.first),(2,N h.size),(3,dF h.g)] (bf ⟨h.x,h.first,h.size,h.g,0,0⟩).toArray (by kernel_rfl)
    simp [execOp,e1,e2,e3,e4,r]
theorem OQ.xW {h : Hf} (h1 : ev E x1=some (gB h.x)) (h2 : ev E x2=some (N h.first)) (h3 : ev E x3=some (N h.size)) :
    OQ Tryz.prog n E C ⟨dst,.build 119 #[(0,x1),(1,x2),(2,x3)],ty,pos,aft,g⟩ (.agg (bf ⟨h.x,h.first,h.size,0,0,0⟩).toArray):=
  OQ.run fun a ha w _=>by
    have e1:=ha.eval h1
    have e2:=ha.eval h2
    have e3:=ha.eval h3
    have r:=run_build (P:=Tryz.prog) w 119 #[(0,gB h.x),(1,N h.first),(2,N h.size)] (bf ⟨h.x,h.first,h.size,0,0,0⟩).toArray (by kernel_rfl)
    simp [execOp,e1,e2,e3,r]
theorem OQ.zX {h : Hf} (h1 : ev E x1=some (.agg (bf h).toArray)) : OQ Tryz.prog n E C ⟨dst,.build 121 #[(0,x1)],ty,pos,aft,g⟩ (.agg (bf h).toArray):=
  OQ.run fun a ha w _=>by
    have e1:=ha.eval h1
    have r:=run_build (P:=Tryz.prog) w 121 #[(0,.agg (bf h).toArray)] (bf h).toArray (by kernel_rfl)
    simp [execOp,e1,r]
def mx (a b : BitVec 32) : BitVec 32:=if a.toNat<b.toNat then b else a
theorem OQ.zh {a b c : BitVec 32} (h1 : ev E x1=some (dF a)) (h2 : ev E x2=some (dF b)) (h3 : ev E x3=some (dF c)) : OQ Tryz.prog n E C ⟨dst,.call ⟨.builtin .max,#[x1,x2,x3],#[t,t',t'']⟩,ty,pos,aft,g⟩ (dF (mx (mx a b) c)):=
  OQ.run fun ac ha w _=>by
    have e1:=ha.eval h1
    have e2:=ha.eval h2
    have e3:=ha.eval h3
    unfold mx
    by_cases h : a.toNat<b.toNat <;> by_cases h' : (if a.toNat<b.toNat then b else a).toNat<c.toNat <;> simp [h] at h' <;> simp [execOp,e1,e2,e3,resolve,invoke,builtin,Builtin.max_,Builtin.max2,Sem.run_bind,h,h'] <;> (try split <;> rfl)
end
theorem ep : aI Tryz.prog 151:=⟨_,Tryz.func151,rfl,by kernel_rfl⟩
theorem nW (x : Dp) (bl : List Bk) (pd : List (Nat × Bk)) (w : World) (h : Holds w [] (gX x bl pd) w) : Calls Tryz.prog 151 [Pt x.p 0].toArray w fun e w'=>e=.returned (N bl.length)∧Ext w w':=
  th x.p _ _ _ w (o7 (M:=[]) (by rw [List.append_nil];exact h))
theorem o9 : aI Tryz.prog 105:=⟨_,Tryz.func105,rfl,by kernel_rfl⟩
set_option maxHeartbeats 16000000 in
theorem qO (x : Dp) (bl : List Bk) (pd : List (Nat × Bk)) (first : Nat) (ok : Ok bl pd) (hn : bl.length≤65536) (hf : first<bl.length) (hs : first+bl.length / 2≤bl.length) (w : World) (h0 : Holds w [] (gX x bl pd) w) :
    Calls Tryz.prog 105 [gB x,N first].toArray w fun e w'=>∃ z : {z : Gr // z.l=fJ bl first (bl.length / 2) (ag (old bl first)).1∧z.rs.length≤bl.length / 2},e=.returned (.tuple #[.agg (bf ⟨x,first,bl.length / 2,if z.1.rs.length=0 then 0 else (ag (old bl first)).1,0,0⟩).toArray,z.1.v])∧Holds w [] z.1.E w':=by
  have hb : (old bl first).length=64:=ok.old hf
  have cR:=fun {u w' : World} {S : List Nat} {A : List aj} (hw' : Holds u S (A++(gX x bl pd++[])) w')=>qJ x bl pd first hf ok w' (bJ hw')
  have cT:=fun g {u w' : World} {S : List Nat} {M : List aj} (hw' : Holds u S (gX x bl pd++M) w')=>o8 ⟨x,first,bl.length / 2,g,0,0⟩ bl pd ok hn hs w' (bJ (A:=[]) hw')
  generalize old bl first=b at hb cR ⊢
  refine enter (n:=33) Tryz.func105 rfl rfl rfl h0 ?_
  repeat (first | refine JC.seq ?_ | refine JC.region ?_)
  refine JL.alloc (r:=jA) zV rfl fun b4 _=>?_
  repeat (first | refine JL.q (by first|(apply OQ.inv (xs:=[_]);exact (qK x);rfl;exact (OQ.aB (vs:=[Pt x.p 0,N first]) hU rfl (fun w' hw'=>cR (A:=[_]) hw')))|(apply OQ.extract;rfl;rfl)|(apply OQ.move;rfl)|(apply OQ.assign;rfl)) rfl ?_ | refine JC.seq ?_ | refine JC.region ?_ | refine JL.nil ?_ | refine JE.next ?_)
  refine JL.alloc A4 rfl fun b6 _=>?_
  refine JL.ai (cs:=bc b) oA rfl rfl (cG hb) (ej _) .here rfl ?_
  repeat (first | refine JL.q (by (apply OQ.assign;rfl)) rfl ?_ | refine JC.seq ?_ | refine JL.nil ?_ | refine JE.next ?_)
  let vs : Nat→Nat→Value:=fun j y=>match j with
    | 0=>gB x
    | 1=>N first
    | 2=>gB x
    | 3=>N bl.length
    | 4=>N (bl.length / 2)
    | 5=>(⟨some ⟨b6,0,none⟩,64,b⟩ : az).v
    | 6=>.agg (bN (ag b)).toArray
    | 7=>dF (ag b).1
    | 8=>.agg (bf ⟨x,first,bl.length / 2,(ag b).1,0,0⟩).toArray
    | 9=>Pt y 0
    | _=>N 0
  let Ms : Nat→Nat→List aj:=fun j y=>match j with
    | 9=>[⟨y,Row 119 jA,true⟩]
    | 10=>[⟨y,Row 119 (bf ⟨x,first,bl.length / 2,(ag b).1,0,0⟩),true⟩]
    | 11=>[⟨b6,Row 138 (bc b),true⟩]
    | 12=>[⟨b4,Row 119 jA,true⟩]
    | 13=>gX x bl pd
    | _=>[]
  refine JC.grow (g:=⟨[(0,gB x),(1,N first),(4,Pt b4 0),(6,Pt b6 0),(5,.slice none 0 0)],14,vs,Ms,(fun j=>match j with | 3=>[(2,18)] | 4=>[(3,19)] | 6=>[(5,21)] | 7=>[(6,22)] | 8=>[(0,16),(1,17),(4,20),(7,23)] | 10=>[(9,8),(8,24)] | _=>[]),(fun j=>match j with | 3=>[13] | 6=>[11] | 10=>[9] | _=>[]),(fun j=>match j with | 10=>[9] | _=>[]),(fun j=>match j with | 10=>some 9 | _=>none)⟩) [(9,8)] [10,11,12,13] cC (by repeat (first | exact ah.nil | refine ah.cons _ _ _ rfl ?_)) ?_ (by kernel_rfl) (by kernel_rfl) (by kernel_rfl) ?_ ?_
  · exact ak.refl _
  · refine ⟨?_,?_,?_,?_,?_,?_,?_,?_,?_,?_,?_,trivial⟩
    · (intro xx EF MF Q kk;(try refine JL.aD rfl rfl ?_);exact JL.q (OQ.move rfl) rfl (JL.nil (kk default nofun)))
    · (intro xx EF MF Q kk;(try refine JL.aD rfl rfl ?_);exact JL.q (OQ.move rfl) rfl (JL.nil (kk default nofun)))
    · (intro xx EF MF Q kk;(try refine JL.aD rfl rfl ?_);exact JL.q (OQ.move rfl) rfl (JL.nil (kk default nofun)))
    · (intro xx EF MF Q kk;(try refine JL.aD rfl rfl ?_);exact JL.q (OQ.inv (xs:=[]) (nT x) rfl (OQ.aB (vs:=[Pt x.p 0]) ep rfl (fun w' hw'=>nW x bl pd w' (bJ (A:=[]) hw')))) rfl (JL.nil (kk default nofun)))
    · (intro xx EF MF Q kk;(try refine JL.aD rfl rfl ?_);exact JL.q (OQ.zB (b:=2) rfl rfl (by decide) (by omega)) rfl (JL.nil (kk default nofun)))
    · (intro xx EF MF Q kk;(try refine JL.aD rfl rfl ?_);exact JL.q (OQ.sB hb Tryz.underlying138 gN rfl) rfl (JL.nil (kk default nofun)))
    · (intro xx EF MF Q kk;(try refine JL.aD rfl rfl ?_);exact JL.q (OQ.aB (vs:=[(⟨some ⟨b6,0,none⟩,64,b⟩ : az).v]) bp rfl (fun w' hw'=>dQ _ w' (qq hw' .here rfl (by omega)) (by show 10≤b.length;omega) (by show b.length≤64;omega))) rfl (JL.nil (kk default nofun)))
    · (intro xx EF MF Q kk;(try refine JL.aD rfl rfl ?_);exact JL.q (OQ.nU rfl) rfl (JL.nil (kk default nofun)))
    · (intro xx EF MF Q kk;(try refine JL.aD rfl rfl ?_);exact JL.q (OQ.xV (h:=⟨x,first,bl.length / 2,(ag b).1,0,0⟩) rfl rfl rfl rfl) rfl (JL.nil (kk default nofun)))
    · (intro xx EF MF Q kk;exact JL.alloc zV rfl fun b _=>JL.nil (kk b nofun))
    · (intro xx EF MF Q kk;exact JL.ai (cs:=bf ⟨x,first,bl.length / 2,(ag b).1,0,0⟩) fZ rfl rfl rfl rfl .here rfl (JL.nil (kk (xx 9) (fun k h=>by cases h;rfl))))
  · intro xx hx
    have e10:=hx 10 9 (by decide) rfl
    show JE _ _ _ _ _ [(8,Pt (xx 9) 0),(0,gB x),(1,N first),(4,Pt b4 0),(6,Pt b6 0),(5,.slice none 0 0)] (⟨xx 10,Row 119 (bf ⟨x,first,bl.length / 2,(ag b).1,0,0⟩),true⟩::⟨b6,Row 138 (bc b),true⟩::⟨b4,Row 119 jA,true⟩::gX x bl pd)
    rw [e10]
    generalize xx 9=b8
    clear hx e10 xx vs Ms
    generalize hhh : (⟨x,first,bl.length / 2,(ag b).1,0,0⟩ : Hf)=hh
    have eg : hh.g=(ag b).1:=by rw [← hhh]
    repeat (first | refine JL.q (by (apply OQ.aq (cs:=bf hh);exact dZ;exact fZ;rfl;exact .here;rfl;exact Row.all)) rfl ?_ | refine JC.seq ?_ | refine JC.region ?_ | refine JE.next ?_)
    refine JL.bq (ι:={z : Gr // z.l=fJ bl first (bl.length / 2) (ag b).1∧z.rs.length≤bl.length / 2}) (vs:=[.agg (bf hh).toArray]) (fun z=>z.1.v) (fun z=>z.1.E) mT rfl rfl (fun z=>z.1.wr) (fun w' hw'=>by rw [← hhh] at hw' ⊢;exact cT (ag b).1 (M:=[]) (hw'.weak (.drop _ _ _ (.drop _ _ _ (.drop _ _ _ (ak.refl _)))))) fun z=>?_
    refine JL.perm (M':=[⟨b8,Row 119 (bf hh),true⟩,⟨b6,Row 138 (bc b),true⟩,⟨b4,Row 119 jA,true⟩]++(z.1.E++gX x bl pd)) ?_ (by exact List.perm_append_comm_assoc _ [_,_,_] _)
    obtain ⟨⟨q,rs,hq,hr0⟩,hz⟩:=z
    have hq0 : q=none→rs.length=0:=fun e=>by rw [hq e];rfl
    dsimp only [Gr.v]
    repeat (first | refine JL.q (by first|(apply OQ.kf (q:=q) (k:=rs.length);exact Tryz.underlying134;exact hq0;rfl)|(apply OQ.BQ;rfl;rfl)|(apply OQ.move;rfl)|(apply OQ.assign;rfl)) rfl ?_ | refine JC.seq ?_ | refine JC.region ?_ | refine JL.nil ?_ | refine JE.next ?_)
    refine JC.cond rfl (fun hc=>?_) (fun hc=>?_)
    · have hc0:=of_decide_eq_true hc
      repeat (first | refine JL.q (by (apply OQ.bA;rfl;rfl;rfl;exact (by decide);rfl)) rfl ?_ | refine JC.region ?_)
      refine JL.cY (b:=b8) (r:=bf hh) (r':=bf ⟨x,first,bl.length / 2,0,0,0⟩) A8 rfl rfl rfl rfl .here (show 3<6 by decide) (by rw [← hhh];rfl) ?_
      repeat (first | refine JL.q (by first|(apply OQ.aq (cs:=bf ⟨x,first,bl.length / 2,0,0,0⟩);exact dZ;exact fZ;rfl;exact .here;rfl;exact Row.all)|(apply OQ.move;rfl)) rfl ?_ | refine JC.seq ?_ | refine JC.region ?_ | refine JL.nil ?_ | refine JE.next ?_)
      refine JL.ai (cs:=bf ⟨x,first,bl.length / 2,0,0,0⟩) fZ rfl rfl rfl rfl (.there (.there .here)) rfl ?_
      repeat (first | refine JL.q (by (apply OQ.assign;rfl)) rfl ?_ | refine JL.nil ?_ | refine JE.next ?_)
      refine JC.ret ?_
      exact JE.cg rfl (RV.aL dZ fZ rfl (.there (.there .here)) rfl Row.all) (RV.tmp rfl) fun w' hw=>⟨⟨⟨q,rs,hq,hr0⟩,hz⟩,by dsimp only;rw [if_pos hc0],hw.weak (.drop _ _ _ (.drop _ _ _ (.drop _ _ _ (an _ _))))⟩
    · have hc0:=of_decide_eq_false hc
      repeat (first | refine JL.q (by first|(apply OQ.aq (cs:=bf hh);exact dZ;exact fZ;rfl;exact .here;rfl;exact Row.all)|(apply OQ.move;rfl)) rfl ?_ | refine JC.seq ?_ | refine JC.region ?_ | refine JC.skip ?_ | refine JE.next ?_)
      refine JL.ai (cs:=bf hh) fZ rfl rfl rfl rfl (.there (.there .here)) rfl ?_
      repeat (first | refine JL.q (by (apply OQ.assign;rfl)) rfl ?_ | refine JL.nil ?_ | refine JE.next ?_)
      refine JC.ret ?_
      exact JE.cg rfl (RV.aL dZ fZ rfl (.there (.there .here)) rfl Row.all) (RV.tmp rfl) fun w' hw=>⟨⟨⟨q,rs,hq,hr0⟩,hz⟩,by dsimp only;rw [if_neg hc0,hhh],hw.weak (.drop _ _ _ (.drop _ _ _ (.drop _ _ _ (an _ _))))⟩
def gm (bl : List Bk) : BitVec 32:=bl.foldl (fun m b=>mx (mx m (ag b).1) (ag (b.drop 54)).1) 0
theorem Bc {bl : List Bk} {p : Nat} (h : p<bl.length) : gm (bl.take (p+1))=mx (mx (gm (bl.take p)) (ag (old bl p)).1) (ag ((old bl p).drop 54)).1:=by
  have : bl.take (p+1)=bl.take p++[old bl p]:=by
    rw [List.take_add_one]
    simp [old,List.getD_eq_getElem?_getD,h]
  rw [this,gm,List.foldl_append]
  rfl
theorem gb : aI Tryz.prog 79:=⟨_,Tryz.func79,rfl,by kernel_rfl⟩
def pe (bl : List Bk) : Value:=if gm bl=4294967295#32 then .tuple #[dF 0,N 6] else .tuple #[dF (gm bl+1#32),N 0]
set_option maxHeartbeats 16000000 in
theorem ic (x : Dp) (bl : List Bk) (pd : List (Nat × Bk)) (ok : Ok bl pd) (hn : bl.length≤65536) (w : World) (h0 : Holds w [] (gX x bl pd) w) :
    Calls Tryz.prog 79 [gB x].toArray w fun e w'=>e=.returned (pe bl)∧Ext w w':=by
  refine enter (n:=32) Tryz.func79 rfl rfl rfl h0 ?_
  repeat (first | refine JL.q (by first|(apply OQ.inv (xs:=[]);exact (nT x);rfl;exact (OQ.aB (vs:=[Pt x.p 0]) ep rfl (fun w' hw'=>nW x bl pd w' (bJ (A:=[]) (M:=[]) hw'))))|(apply OQ.move;rfl)|(apply OQ.assign;rfl)) rfl ?_ | refine JC.seq ?_ | refine JC.region ?_ | refine JC.block ?_ | refine JL.nil ?_ | refine JE.next ?_)
  refine JC.loop (fun z : Nat=>[(0,gB x),(4,dF (gm (bl.take z))),(9,N bl.length),(10,N z)]) (fun _=>gX x bl pd) (fun z=>bl.length - z) (fun z=>z≤bl.length) 0 (Nat.zero_le _) (by repeat (first | exact ah.nil | refine ah.cons _ _ _ rfl ?_)) (ak.refl _) ?_
  intro p hp
  repeat (first | refine JL.q (by (apply OQ.fc;rfl;rfl)) rfl ?_ | refine JC.seq ?_ | refine JC.region ?_ | refine JL.nil ?_ | refine JE.next ?_)
  refine JC.cond rfl (fun hc=>?_) (fun hc=>?_)
  · have hp' : p<bl.length:=by have:=of_decide_eq_true hc;omega
    clear hc
    have hg:=Bc hp'
    have hb : (old bl p).length=64:=ok.old hp'
    have cR:=fun {u w' : World} {S : List Nat} {A : List aj} (hw' : Holds u S (A++(gX x bl pd++[])) w')=>qJ x bl pd p hp' ok w' (bJ hw')
    generalize old bl p=b at hb cR hg
    repeat (first | refine JL.q (by first|(apply OQ.inv (xs:=[_]);exact (qK x);rfl;exact (OQ.aB (vs:=[Pt x.p 0,N p]) hU rfl (fun w' hw'=>cR (A:=[]) hw')))|(apply OQ.extract;rfl;rfl)|(apply OQ.move;rfl)|(apply OQ.assign;rfl)) rfl ?_ | refine JC.seq ?_ | refine JC.region ?_ | refine JC.block ?_ | refine JC.skip ?_ | refine JL.nil ?_ | refine JE.next ?_)
    refine JL.alloc A4 rfl fun b6 _=>?_
    refine JL.ai (cs:=bc b) oA rfl rfl (cG hb) (ej _) .here rfl ?_
    repeat (first | refine JL.q (by (apply OQ.assign;rfl)) rfl ?_ | refine JL.nil ?_ | refine JE.next ?_)
    have cA:=fun {u w' : World} {S : List Nat} {M : List aj} (hw' : Holds u S M w') (hM : Has M b6 (Row 138 (bc b)) true)=>dQ ⟨some ⟨b6,0,none⟩,64,b⟩ w' (qq hw' hM rfl (by omega)) (by show 10≤b.length;omega) (by show b.length≤64;omega)
    have cE:=fun {u w' : World} {S : List Nat} {M : List aj} (hw' : Holds u S M w') (hM : Has M b6 (Row 138 (bc b)) true)=>dQ ⟨some ⟨b6,0+54,none⟩,64 - 54,b.drop 54⟩ w' (vC hw' hM hb (by decide)) (by show 10≤(b.drop 54).length;rw [List.length_drop];omega) (by show (b.drop 54).length≤64;rw [List.length_drop];omega)
    refine JC.tail 8 cC (by kernel_rfl) ?_
    simp only [List.take_succ_cons,List.take_zero,List.drop_succ_cons,List.drop_zero]
    repeat (first | refine JL.q (by first|(apply OQ.sB;exact hb;exact Tryz.underlying138;exact gN;rfl)|(apply OQ.lB (lo:=54);exact hb;exact Tryz.underlying138;exact gN;rfl;rfl;exact (by decide))|(apply OQ.aB (vs:=[(⟨some ⟨b6,0,none⟩,64,b⟩ : az).v]);exact bp;rfl;exact (fun w' hw'=>cA hw' .here))|(apply OQ.aB (vs:=[(⟨some ⟨b6,0+54,none⟩,64 - 54,b.drop 54⟩ : az).v]);exact bp;rfl;exact (fun w' hw'=>cE hw' .here))|(apply OQ.nU;rfl)|(apply OQ.zh;rfl;rfl;rfl)|(apply OQ.move;rfl)|(apply OQ.assign;rfl)|(apply OQ.addN;rfl;rfl;exact (by (try simp only []);omega))) rfl ?_ | refine JQ.q (by first|(apply OQ.sB;exact hb;exact Tryz.underlying138;exact gN;rfl)|(apply OQ.lB (lo:=54);exact hb;exact Tryz.underlying138;exact gN;rfl;rfl;exact (by decide))|(apply OQ.aB (vs:=[(⟨some ⟨b6,0,none⟩,64,b⟩ : az).v]);exact bp;rfl;exact (fun w' hw'=>cA hw' .here))|(apply OQ.aB (vs:=[(⟨some ⟨b6,0+54,none⟩,64 - 54,b.drop 54⟩ : az).v]);exact bp;rfl;exact (fun w' hw'=>cE hw' .here))|(apply OQ.nU;rfl)|(apply OQ.zh;rfl;rfl;rfl)|(apply OQ.move;rfl)|(apply OQ.assign;rfl)|(apply OQ.addN;rfl;rfl;exact (by (try simp only []);omega))) rfl ?_ | refine JC.region ?_ | refine JL.nil ?_ | refine JQ.cq ?_ | refine JE.next ?_ | refine JE.au ?_)
    rw [← hg]
    exact JE.again (i:=p) (p+1) hp' (by omega) (by repeat (first | exact ah.nil | refine ah.cons _ _ _ rfl ?_)) (.drop _ _ _ (ak.refl _))
  · have hp' : p=bl.length:=by have:=of_decide_eq_false hc;omega
    rw [List.take_of_length_le (by omega : bl.length≤p)]
    unfold pe
    cases hm : decide (((gm bl).toNat : Int)=4294967295)
    · have hne : ¬ gm bl=4294967295#32:=fun e=>by rw [e] at hm;cases hm
      rw [if_neg hne]
      repeat (first | refine JL.q (by first|(apply OQ.kV (b:=4294967295);rfl;rfl;exact hm)|(apply OQ.move;rfl)) rfl ?_ | refine JC.seq ?_ | refine JC.region ?_ | refine JC.exit ?_ | refine JL.nil ?_ | refine JE.next ?_ | refine JE.aH ?_ | refine JE.aX ?_)
      refine JC.cond_false rfl rfl ?_
      repeat (first | refine JL.q (by first|(apply OQ.AS (b:=1#32);rfl;rfl)|(apply OQ.move;rfl)|(apply OQ.assign;rfl)) rfl ?_ | refine JC.seq ?_ | refine JC.region ?_ | refine JC.skip ?_ | refine JL.nil ?_ | refine JE.next ?_)
      refine JC.ret ?_
      skip
      exact JE.cg rfl (RV.tmp rfl) (RV.tmp rfl) fun w' hw=>⟨rfl,hw.aS⟩
    · have he : gm bl=4294967295#32:=BitVec.eq_of_toNat_eq (by have:=of_decide_eq_true hm;show (gm bl).toNat=4294967295;omega)
      rw [if_pos he]
      repeat (first | refine JL.q (by first|(apply OQ.kV (b:=4294967295);rfl;rfl;exact hm)|(apply OQ.move;rfl)) rfl ?_ | refine JC.seq ?_ | refine JC.region ?_ | refine JC.exit ?_ | refine JL.nil ?_ | refine JE.next ?_ | refine JE.aH ?_ | refine JE.aX ?_)
      refine JC.cond_true rfl rfl ?_
      repeat (first | refine JL.q (by (apply OQ.assign;rfl)) rfl ?_ | refine JC.seq ?_ | refine JC.region ?_ | refine JL.nil ?_ | refine JE.next ?_)
      refine JC.ret ?_
      repeat (refine JE.ax ?_)
      exact JE.cg rfl (RV.tmp rfl) (RV.tmp rfl) fun w' hw=>⟨rfl,hw.aS⟩
end
section
set_option maxRecDepth 10000
open Sl dc dz
def fM (bl : List Bk) (first : Nat) : List Bk:=fJ bl first (bl.length / 2) (ag (old bl first)).1
def ew (bl : List Bk) (first : Nat) : BitVec 32:=if (fM bl first).length=0 then 0 else (ag (old bl first)).1
def bu (bl : List Bk) : Nat × BitVec 32 × List Bk:=
  if (0 : Int)<((ew bl 0).toNat : Int)∧((ew bl (bl.length / 2)).toNat : Int)≤((ew bl 0).toNat : Int) then (0,ew bl 0,fM bl 0)
  else if (0 : Int)<((ew bl (bl.length / 2)).toNat : Int) then (bl.length / 2,ew bl (bl.length / 2),fM bl (bl.length / 2)) else (bl.length / 2,ew bl (bl.length / 2),[[]])
theorem vG (x : Dp) (bl : List Bk) (pd : List (Nat × Bk)) (first : Nat) (ok : Ok bl pd) (hn : bl.length≤65536) (hf : first<bl.length) (hs : first+bl.length / 2≤bl.length) (w : World) (h0 : Holds w [] (gX x bl pd) w) :
    Calls Tryz.prog 105 [gB x,N first].toArray w fun e w'=>∃ z : {z : Gr // z.l=fM bl first∧z.rs.length≤bl.length / 2},e=.returned (.tuple #[.agg (bf ⟨x,first,bl.length / 2,ew bl first,0,0⟩).toArray,z.1.v])∧Holds w [] z.1.E w':=
  (qO x bl pd first ok hn hf hs w h0).mono fun e w' ⟨⟨z,hz⟩,h1,h2⟩=>⟨⟨z,hz⟩,by
    rw [h1]
    have : z.rs.length=(fM bl first).length:=by
      have:=congrArg List.length hz.1
      rw [Gr.l,List.length_map] at this
      exact this
    unfold ew
    rw [← this],h2⟩
theorem vH : aI Tryz.prog 89:=⟨_,Tryz.func89,rfl,by kernel_rfl⟩
abbrev pg (A : List Bk) (m : Nat):={z : Gr // z.l=A∧z.rs.length≤m}
theorem JL.vI {n : Nat} {w0 : World} {S : List Nat} {ops : Array Oper} {Q : Exit→Act→World→Prop} {l : List Oper} {E : Env} {M A : List aj} {d : Nat} {ty : TypeId} {pos : String} {aft : Array Edge} {x1 x2 : Operand} {ats : Array TypeId} {x : Dp} {bl : List Bk} {pd : List (Nat × Bk)} {first : Nat}
    (ok : Ok bl pd) (hn : bl.length≤65536) (hf : first<bl.length) (hs : first+bl.length / 2≤bl.length) (e1 : ev E x1=some (gB x)) (e2 : ev E x2=some (N first)) (hd : Nat.blt d n=true) (hM : M=A++(gX x bl pd++[]))
    (kk : ∀ z : pg (fM bl first) (bl.length / 2),JL Tryz.prog n w0 S ops Q l ((d,.tuple #[.agg (bf ⟨x,first,bl.length / 2,ew bl first,0,0⟩).toArray,z.1.v])::E) (z.1.E++M)) : JL Tryz.prog n w0 S ops Q (⟨some d,.call ⟨.value (.func 105),#[x1,x2],ats⟩,ty,pos,aft,none⟩::l) E M:=
  JL.bq (xs:=[x1,x2]) (ι:=pg (fM bl first) (bl.length / 2)) (vs:=[gB x,N first]) (fun z=>.tuple #[.agg (bf ⟨x,first,bl.length / 2,ew bl first,0,0⟩).toArray,z.1.v]) (fun z=>z.1.E) o9 (by simp [gS,e1,e2]) hd (fun z=>z.1.wr) (fun w' hw'=>vG x bl pd first ok hn hf hs w' (bJ (A:=A) (by rw [← hM];exact hw'))) kk
def Cq (b : Nat) : Gr:=⟨some (b,1),[bB],nofun,fun x hx _=>by rw [List.mem_singleton.1 hx];rfl⟩
set_option maxHeartbeats 16000000 in
theorem xX (x : Dp) (bl : List Bk) (pd : List (Nat × Bk)) (ok : Ok bl pd) (hn : bl.length≤65536) (h4 : 4≤bl.length) (w : World) (h0 : Holds w [] (gX x bl pd) w) :
    Calls Tryz.prog 89 [gB x].toArray w fun e w'=>∃ z : pg (bu bl).2.2 (bl.length / 2),e=.returned (.tuple #[.agg (bf ⟨x,(bu bl).1,bl.length / 2,(bu bl).2.1,0,0⟩).toArray,z.1.v])∧Holds w [] z.1.E w':=by
  refine enter (n:=40) Tryz.func89 rfl rfl rfl h0 ?_
  repeat (first | refine JC.seq ?_ | refine JC.region ?_)
  refine JL.alloc (r:=jA) zV rfl fun b2 _=>?_
  repeat (first | refine JL.q (by first|(apply OQ.move;rfl)|(apply OQ.assign;rfl)) rfl ?_ | refine JC.seq ?_ | refine JC.region ?_ | refine JL.nil ?_ | refine JE.next ?_)
  refine JL.vI (A:=[_]) (first:=0) ok hn (by omega) (by omega) rfl rfl rfl rfl fun z1=>?_
  repeat (refine JL.q (by first|(apply OQ.extract;rfl;rfl)|(apply OQ.move;rfl)) rfl ?_)
  generalize hh1 : (⟨x,0,bl.length / 2,ew bl 0,0,0⟩ : Hf)=h1
  refine JL.alloc (r:=jA) zV rfl fun b4 _=>?_
  refine JL.ai (cs:=bf h1) fZ rfl rfl rfl rfl .here rfl ?_
  refine JL.perm (M':=([⟨b4,Row 119 (bf h1),true⟩,⟨b2,Row 119 jA,true⟩]++z1.1.E)++(gX x bl pd++[])) ?_ (by
    rw [List.append_nil,List.append_assoc]
    exact List.Perm.cons _ (List.perm_append_comm_assoc z1.1.E [_] _))
  repeat (first | refine JL.q (by first|(apply OQ.inv (xs:=[]);exact (nT x);rfl;exact (OQ.aB (vs:=[Pt x.p 0]) ep rfl (fun w' hw'=>nW x bl pd w' (bJ (A:=[⟨b4,Row 119 (bf h1),true⟩,⟨b2,Row 119 jA,true⟩]++z1.1.E) (M:=[]) hw'))))|(apply OQ.zB (b:=2);rfl;rfl;exact (by decide);exact (by omega))|(apply OQ.move;rfl)|(apply OQ.assign;rfl)) rfl ?_ | refine JC.seq ?_ | refine JC.region ?_ | refine JL.nil ?_ | refine JE.next ?_)
  refine JL.vI (A:=[_,_]++z1.1.E) (first:=bl.length / 2) ok hn (by omega) (by omega) rfl rfl rfl rfl fun z2=>?_
  repeat (refine JL.q (by first|(apply OQ.extract;rfl;rfl)|(apply OQ.move;rfl)) rfl ?_)
  generalize hh2 : (⟨x,bl.length / 2,bl.length / 2,ew bl (bl.length / 2),0,0⟩ : Hf)=h2
  refine JL.alloc (r:=jA) zV rfl fun b6 _=>?_
  refine JL.ai (cs:=bf h2) fZ rfl rfl rfl rfl .here rfl ?_
  refine JL.perm (M':=[⟨b6,Row 119 (bf h2),true⟩,⟨b4,Row 119 (bf h1),true⟩,⟨b2,Row 119 jA,true⟩]++(z1.1.E++(z2.1.E++gX x bl pd))) ?_ (by
    rw [List.append_nil]
    refine List.Perm.cons _ ((List.perm_append_comm_assoc z2.1.E ([_,_]++z1.1.E) _).trans ?_)
    rw [List.append_assoc]
    exact List.Perm.refl _)
  have hcur : bu bl=if (0 : Int)<(h1.g.toNat : Int)∧(h2.g.toNat : Int)≤(h1.g.toNat : Int) then (0,h1.g,fM bl 0) else if (0 : Int)<(h2.g.toNat : Int) then (bl.length / 2,h2.g,fM bl (bl.length / 2)) else (bl.length / 2,h2.g,[[]]):=by rw [← hh1,← hh2];rfl
  rw [hcur]
  cases c0 : decide ((0 : Int)<(h1.g.toNat : Int)∧(h2.g.toNat : Int)≤(h1.g.toNat : Int))
  case true=>
    have hc0:=of_decide_eq_true c0
    rw [if_pos hc0]
    repeat (first | refine JL.q (by first|(apply OQ.load;exact gO;rfl;exact (.there .here);exact (Row.cell (v:=dF h1.g) rfl))|(apply OQ.load;exact gO;rfl;exact .here;exact (Row.cell (v:=dF h2.g) rfl))|(apply OQ.cz (b:=0);rfl;rfl;exact (decide_eq_true hc0.1))|(apply OQ.fT;rfl;rfl;exact (decide_eq_true hc0.2))|(apply OQ.bg;rfl;rfl)|(apply OQ.move;rfl)|(apply OQ.assign;rfl)|(apply OQ.bA;rfl;rfl;rfl;exact (by decide);rfl)) rfl ?_ | refine JC.seq ?_ | refine JC.region ?_ | refine JL.nil ?_ | refine JE.next ?_ | refine JL.aD rfl rfl ?_)
    refine JC.cond_true rfl rfl ?_
    repeat (first | refine JL.q (by first|(apply OQ.aq (cs:=bf h1);exact dZ;exact fZ;rfl;exact (.there .here);rfl;exact Row.all)|(apply OQ.move;rfl)) rfl ?_ | refine JC.seq ?_ | refine JC.region ?_)
    refine JL.ai (cs:=bf h1) fZ rfl rfl rfl rfl (.there (.there .here)) rfl ?_
    repeat (first | refine JL.q (by (apply OQ.assign;rfl)) rfl ?_ | refine JL.nil ?_ | refine JE.next ?_)
    refine JC.ret ?_
    repeat (refine JE.ax ?_)
    exact JE.cg rfl (RV.aL dZ fZ rfl (.there (.there .here)) rfl Row.all) (RV.tmp rfl) fun w' hw=>⟨z1,by rw [← hh1];rfl,hw.weak (.drop _ _ _ (.drop _ _ _ (.drop _ _ _ (an _ _))))⟩
  case false=>
    have hc0:=of_decide_eq_false c0
    rw [if_neg hc0]
    cases c1 : decide ((0 : Int)<(h1.g.toNat : Int))
    case false=>
      repeat (first | refine JL.q (by first|(apply OQ.load;exact gO;rfl;exact (.there .here);exact (Row.cell (v:=dF h1.g) rfl))|(apply OQ.cz (b:=0);rfl;rfl;exact c1)|(apply OQ.aW;rfl;rfl)|(apply OQ.move;rfl)|(apply OQ.assign;rfl)|(apply OQ.bA;rfl;rfl;rfl;exact (by decide);rfl)) rfl ?_ | refine JC.seq ?_ | refine JC.region ?_ | refine JL.nil ?_ | refine JE.next ?_ | refine JL.bO rfl rfl rfl rfl ?_)
      refine JC.cond_false rfl rfl ?_
      cases c3 : decide ((0 : Int)<(h2.g.toNat : Int))
      case true=>
        have hc3:=of_decide_eq_true c3
        rw [if_pos hc3]
        repeat (first | refine JL.q (by first|(apply OQ.load;exact gO;rfl;exact .here;exact (Row.cell (v:=dF h2.g) rfl))|(apply OQ.cz (b:=0);rfl;rfl;exact c3)|(apply OQ.bA;rfl;rfl;rfl;exact (by decide);rfl)) rfl ?_ | refine JC.seq ?_ | refine JC.region ?_ | refine JC.skip ?_ | refine JL.nil ?_ | refine JE.next ?_)
        refine JC.cond_true rfl rfl ?_
        repeat (first | refine JL.q (by first|(apply OQ.aq (cs:=bf h2);exact dZ;exact fZ;rfl;exact .here;rfl;exact Row.all)|(apply OQ.move;rfl)) rfl ?_ | refine JC.seq ?_ | refine JC.region ?_)
        refine JL.ai (cs:=bf h2) fZ rfl rfl rfl rfl (.there (.there .here)) rfl ?_
        repeat (first | refine JL.q (by (apply OQ.assign;rfl)) rfl ?_ | refine JL.nil ?_ | refine JE.next ?_)
        refine JC.ret ?_
        repeat (refine JE.ax ?_)
        exact JE.cg rfl (RV.aL dZ fZ rfl (.there (.there .here)) rfl Row.all) (RV.tmp rfl) fun w' hw=>⟨z2,by rw [← hh2];rfl,hw.weak (.drop _ _ _ (.drop _ _ _ (.drop _ _ _ (ay z1.1.E (an z2.1.E _)))))⟩
      case false=>
        have hc3:=of_decide_eq_false c3
        rw [if_neg hc3]
        repeat (first | refine JL.q (by first|(apply OQ.load;exact gO;rfl;exact .here;exact (Row.cell (v:=dF h2.g) rfl))|(apply OQ.cz (b:=0);rfl;rfl;exact c3)|(apply OQ.bA;rfl;rfl;rfl;exact (by decide);rfl)) rfl ?_ | refine JC.seq ?_ | refine JC.region ?_ | refine JC.skip ?_ | refine JL.nil ?_ | refine JE.next ?_)
        refine JC.cond_false rfl rfl ?_
        repeat (first | refine JL.q (by (apply OQ.aq (cs:=bf h2);exact dZ;exact fZ;rfl;exact .here;rfl;exact Row.all)) rfl ?_ | refine JC.seq ?_ | refine JC.region ?_ | refine JC.skip ?_ | refine JE.next ?_)
        refine JL.j7 (v:=.slice none 0 0) Tryz.underlying134 vF rfl rfl rfl rfl fun bl2 _=>?_
        refine JL.ai (cs:=bf h2) fZ rfl rfl rfl rfl (.there (.there (.there .here))) rfl ?_
        repeat (first | refine JL.q (by (apply OQ.assign;rfl)) rfl ?_ | refine JL.nil ?_ | refine JE.next ?_)
        refine JC.ret ?_
        skip
        exact JE.cg rfl (RV.aL dZ fZ rfl (.there (.there (.there .here))) rfl Row.all) (RV.tmp rfl) fun w' hw=>⟨⟨Cq bl2,rfl,by show 1≤_;omega⟩,by rw [← hh2];rfl,hw.weak (.keep _ _ _ _ _ _ (iG rfl) (.nil _))⟩
    case true=>
      have c2 : decide ((h2.g.toNat : Int)≤(h1.g.toNat : Int))=false:=decide_eq_false fun h=>hc0 ⟨of_decide_eq_true c1,h⟩
      repeat (first | refine JL.q (by first|(apply OQ.load;exact gO;rfl;exact (.there .here);exact (Row.cell (v:=dF h1.g) rfl))|(apply OQ.load;exact gO;rfl;exact .here;exact (Row.cell (v:=dF h2.g) rfl))|(apply OQ.cz (b:=0);rfl;rfl;exact c1)|(apply OQ.fT;rfl;rfl;exact c2)|(apply OQ.bg;rfl;rfl)|(apply OQ.move;rfl)|(apply OQ.assign;rfl)|(apply OQ.bA;rfl;rfl;rfl;exact (by decide);rfl)) rfl ?_ | refine JC.seq ?_ | refine JC.region ?_ | refine JL.nil ?_ | refine JE.next ?_ | refine JL.aD rfl rfl ?_)
      refine JC.cond_false rfl rfl ?_
      cases c3 : decide ((0 : Int)<(h2.g.toNat : Int))
      case true=>
        have hc3:=of_decide_eq_true c3
        rw [if_pos hc3]
        repeat (first | refine JL.q (by first|(apply OQ.load;exact gO;rfl;exact .here;exact (Row.cell (v:=dF h2.g) rfl))|(apply OQ.cz (b:=0);rfl;rfl;exact c3)|(apply OQ.bA;rfl;rfl;rfl;exact (by decide);rfl)) rfl ?_ | refine JC.seq ?_ | refine JC.region ?_ | refine JC.skip ?_ | refine JL.nil ?_ | refine JE.next ?_)
        refine JC.cond_true rfl rfl ?_
        repeat (first | refine JL.q (by first|(apply OQ.aq (cs:=bf h2);exact dZ;exact fZ;rfl;exact .here;rfl;exact Row.all)|(apply OQ.move;rfl)) rfl ?_ | refine JC.seq ?_ | refine JC.region ?_)
        refine JL.ai (cs:=bf h2) fZ rfl rfl rfl rfl (.there (.there .here)) rfl ?_
        repeat (first | refine JL.q (by (apply OQ.assign;rfl)) rfl ?_ | refine JL.nil ?_ | refine JE.next ?_)
        refine JC.ret ?_
        repeat (refine JE.ax ?_)
        exact JE.cg rfl (RV.aL dZ fZ rfl (.there (.there .here)) rfl Row.all) (RV.tmp rfl) fun w' hw=>⟨z2,by rw [← hh2];rfl,hw.weak (.drop _ _ _ (.drop _ _ _ (.drop _ _ _ (ay z1.1.E (an z2.1.E _)))))⟩
      case false=>
        have hc3:=of_decide_eq_false c3
        rw [if_neg hc3]
        repeat (first | refine JL.q (by first|(apply OQ.load;exact gO;rfl;exact .here;exact (Row.cell (v:=dF h2.g) rfl))|(apply OQ.cz (b:=0);rfl;rfl;exact c3)|(apply OQ.bA;rfl;rfl;rfl;exact (by decide);rfl)) rfl ?_ | refine JC.seq ?_ | refine JC.region ?_ | refine JC.skip ?_ | refine JL.nil ?_ | refine JE.next ?_)
        refine JC.cond_false rfl rfl ?_
        repeat (first | refine JL.q (by (apply OQ.aq (cs:=bf h2);exact dZ;exact fZ;rfl;exact .here;rfl;exact Row.all)) rfl ?_ | refine JC.seq ?_ | refine JC.region ?_ | refine JC.skip ?_ | refine JE.next ?_)
        refine JL.j7 (v:=.slice none 0 0) Tryz.underlying134 vF rfl rfl rfl rfl fun bl2 _=>?_
        refine JL.ai (cs:=bf h2) fZ rfl rfl rfl rfl (.there (.there (.there .here))) rfl ?_
        repeat (first | refine JL.q (by (apply OQ.assign;rfl)) rfl ?_ | refine JL.nil ?_ | refine JE.next ?_)
        refine JC.ret ?_
        skip
        exact JE.cg rfl (RV.aL dZ fZ rfl (.there (.there (.there .here))) rfl Row.all) (RV.tmp rfl) fun w' hw=>⟨⟨Cq bl2,rfl,by show 1≤_;omega⟩,by rw [← hh2];rfl,hw.weak (.keep _ _ _ _ _ _ (iG rfl) (.nil _))⟩
theorem lD : aI Tryz.prog 80:=⟨_,Tryz.func80,rfl,by kernel_rfl⟩
set_option maxHeartbeats 4000000 in
theorem mU (h : Hf) (hf : h.first≤h.size) (hb : h.size<4611686018427387904) (w : World) : Calls Tryz.prog 80 [.agg (bf h).toArray].toArray w fun e w'=>e=.returned (.agg (bf ⟨h.x,h.size - h.first,h.size,0,0,0⟩).toArray)∧Ext w w':=by
  refine enter (n:=13) Tryz.func80 rfl rfl rfl (Holds.start w []) ?_
  repeat (first | refine JC.seq ?_ | refine JC.region ?_)
  refine JL.box (r:=bf h) rfl rfl rfl fun b1 _=>?_
  refine JL.alloc (r:=jA) zV rfl fun b2 _=>?_
  repeat (first | refine JL.q (by first|(apply OQ.load;exact zg;rfl;exact (.there .here);exact (Row.cell (v:=gB h.x) rfl))|(apply OQ.load;exact cr;rfl;exact (.there .here);exact (Row.cell (v:=N h.first) rfl))|(apply OQ.load;exact cr;rfl;exact (.there .here);exact (Row.cell (v:=N h.size) rfl))|(apply OQ.qj (a:=h.size);rfl;rfl;exact hf;exact (by omega))|(apply OQ.xW (h:=⟨h.x,h.size - h.first,h.size,0,0,0⟩);rfl;rfl;rfl)|(apply OQ.bA;rfl;rfl;rfl;exact (by decide);rfl)) rfl ?_ | refine JC.seq ?_ | refine JC.region ?_ | refine JL.nil ?_ | refine JE.next ?_)
  refine JL.ai (cs:=bf ⟨h.x,h.size - h.first,h.size,0,0,0⟩) fZ rfl rfl rfl rfl .here rfl ?_
  repeat (first | refine JL.nil ?_ | refine JE.next ?_)
  exact JC.ret (JE.aP rfl (RV.aL dZ fZ rfl .here rfl Row.all) fun w' hw=>⟨rfl,hw.aS⟩)
theorem tN : aI Tryz.prog 67:=⟨_,Tryz.func67,rfl,by kernel_rfl⟩
def Bd (j : Nat) (h : Hf) (bl : List Bk) (pd : List (Nat × Bk)) : List aj:=⟨j,Row 121 (bf h),false⟩::gX h.x bl pd
set_option maxHeartbeats 4000000 in
theorem vJ (j : Nat) (h : Hf) (bl : List Bk) (pd : List (Nat × Bk)) (ok : Ok bl pd) (hn : bl.length≤65536) (hs : h.first+h.size≤bl.length) (w : World) (h0 : Holds w [] (Bd j h bl pd) w) :
    Calls Tryz.prog 67 [Pt j 0].toArray w fun e w'=>∃ z : pg (fJ bl h.first h.size h.g) h.size,e=.returned z.1.v∧Holds w [] z.1.E w':=by
  refine enter (n:=8) Tryz.func67 rfl rfl rfl h0 ?_
  repeat (first | refine JL.q (by first|(apply OQ.aq (cs:=bf h);exact dZ;exact fZ;rfl;exact .here;rfl;exact Row.all)|(apply OQ.move;rfl)|(apply OQ.assign;rfl)|(apply OQ.bx;rfl)|(apply OQ.bA;rfl;rfl;rfl;exact (by decide);rfl)) rfl ?_ | refine JC.seq ?_ | refine JC.region ?_ | refine JL.nil ?_ | refine JE.next ?_)
  refine JL.bq (ι:=pg (fJ bl h.first h.size h.g) h.size) (vs:=[.agg (bf h).toArray]) (fun z=>z.1.v) (fun z=>z.1.E) mT rfl rfl (fun z=>z.1.wr) (fun w' hw'=>o8 h bl pd ok hn hs w' (bJ (A:=[_]) (M:=[]) (by rw [List.append_nil];exact hw'))) fun z=>?_
  repeat (first | refine JL.q (by (apply OQ.assign;rfl)) rfl ?_ | refine JL.nil ?_ | refine JE.next ?_)
  exact JC.ret (JE.aP rfl (RV.tmp rfl) fun w' hw=>⟨z,rfl,hw.weak (an _ _)⟩)
theorem mV : aI Tryz.prog 38:=⟨_,Tryz.func38,rfl,by kernel_rfl⟩
set_option maxHeartbeats 4000000 in
theorem vK (j : Nat) (h : Hf) (n : Int) (hu : h.used≤h.size) (hb : h.size<4611686018427387904) (hn : n<4611686018427387904) (w : World) (h0 : Holds w [] [⟨j,Row 121 (bf h),false⟩] w) :
    Calls Tryz.prog 38 [Pt j 0,.int .i64 n].toArray w fun e w'=>e=.returned (.bool (decide (0≤n∧nb n.toNat≤h.size - h.used)))∧Ext w w':=by
  refine enter (n:=23) Tryz.func38 rfl rfl rfl h0 ?_
  repeat (first | refine JL.q (by (apply OQ.assign;rfl)) rfl ?_ | refine JC.seq ?_ | refine JC.region ?_ | refine JL.nil ?_ | refine JE.next ?_)
  refine JC.tail 18 cC (by kernel_rfl) ?_
  simp only [List.take_succ_cons,List.take_zero,List.drop_succ_cons,List.drop_zero]
  cases h1 : decide ((0 : Int)≤n)
  · repeat (first | refine JL.q (by first|(apply OQ.fT (b:=0);rfl;rfl;exact h1)|(apply OQ.aW;rfl;rfl)|(apply OQ.move;rfl)|(apply OQ.assign;rfl)) rfl ?_ | refine JQ.q (by first|(apply OQ.fT (b:=0);rfl;rfl;exact h1)|(apply OQ.aW;rfl;rfl)|(apply OQ.move;rfl)|(apply OQ.assign;rfl)) rfl ?_ | refine JL.nil ?_ | refine JQ.cq ?_ | refine JE.next ?_ | refine JQ.bO rfl rfl rfl rfl ?_)
    refine JC.ret (JE.aP rfl (RV.tmp rfl) fun w' hw=>⟨?_,hw.aS⟩)
    rw [decide_eq_false fun hh=>of_decide_eq_false h1 hh.1]
  · obtain ⟨m,rfl⟩:=Int.eq_ofNat_of_zero_le (of_decide_eq_true h1)
    have hm : m<4611686018427387904:=by omega
    have e2 : decide ((0 : Int)≤(m : Int)∧nb (m : Int).toNat≤h.size - h.used)=decide (nb m≤h.size - h.used):=decide_eq_decide.2 (by simp)
    rw [e2]
    repeat (first | refine JL.q (by first|(apply OQ.fT (b:=0);rfl;rfl;exact h1)|(apply OQ.aB (vs:=[N m]);exact cS;rfl;exact (fun w' _=>dD m hm w'))|(apply OQ.load;exact cr;rfl;exact .here;exact (Row.cell (v:=N h.size) rfl))|(apply OQ.load;exact cr;rfl;exact .here;exact (Row.cell (v:=N h.used) rfl))|(apply OQ.qj (a:=h.size);rfl;rfl;exact hu;exact (by omega))|(apply OQ.AQ;rfl;rfl)|(apply OQ.bg;rfl;rfl)|(apply OQ.move;rfl)|(apply OQ.assign;rfl)|(apply OQ.bx;rfl)|(apply OQ.bA;rfl;rfl;rfl;exact (by decide);rfl)) rfl ?_ | refine JQ.q (by first|(apply OQ.fT (b:=0);rfl;rfl;exact h1)|(apply OQ.aB (vs:=[N m]);exact cS;rfl;exact (fun w' _=>dD m hm w'))|(apply OQ.load;exact cr;rfl;exact .here;exact (Row.cell (v:=N h.size) rfl))|(apply OQ.load;exact cr;rfl;exact .here;exact (Row.cell (v:=N h.used) rfl))|(apply OQ.qj (a:=h.size);rfl;rfl;exact hu;exact (by omega))|(apply OQ.AQ;rfl;rfl)|(apply OQ.bg;rfl;rfl)|(apply OQ.move;rfl)|(apply OQ.assign;rfl)|(apply OQ.bx;rfl)|(apply OQ.bA;rfl;rfl;rfl;exact (by decide);rfl)) rfl ?_ | refine JL.nil ?_ | refine JQ.cq ?_ | refine JE.next ?_ | refine JQ.aD rfl rfl ?_)
    exact JC.ret (JE.aP rfl (RV.tmp rfl) fun w' hw=>⟨rfl,hw.aS⟩)
end
end Go.Proofs.YtdinfhchkcmncaaGreatDoor
