/-
  Of no statement by itself: the texts RwR, Slf, Slfi, Slgr, Slfr, Slrw, Slgn, Slgp, MimS, MibP, RwA, RwB, RwC, Slhn, Prs, Prz, Slap, Slwi, RwK, RwN, RwO in one.
  Conditions: each theorem's own.
-/
import Derived.Test.YtbmagnpmfpfckaaDoorTa
import Derived.Shelf.Bytes.SlCountWhole
import Derived.Shelf.Bytes.SlCountOne
import Derived.Lib.CountLaws
import Derived.Lib.SplitLaws
import Derived.RangeFuncWrites
import Derived.RangeFuncLeaves
import Derived.TacticsIn
import Derived.Shelf.Abstract
import Derived.OrdersIn
import Derived.Laws.StructEq
import Derived.Lib.Overlaps
set_option linter.unusedSimpArgs false
set_option linter.unusedVariables false
namespace Go.Proofs.YtbmagnpmfpfckaaDoor
section
set_option maxRecDepth 10000
open Sl mO Go.Shelf
namespace Rw
def vH : Ren:=⟨fun | 13=>46 | 24=>67 | 25=>68 | 12=>47 | 31=>81 | 19=>38 | 20=>69 | 21=>70 | 22=>71 | 23=>72 | 29=>59 | 30=>82 | n=>n,
  fun | 22=>22 | 3=>3 | 4=>4 | 0=>0 | 5=>5 | 9=>9 | 33=>89 | 40=>94 | 39=>93 | n=>n,
  fun | 0=>2 | n=>n⟩
theorem gG : SlLaysC.n13 Tryd.prog vH:={
  mixed:=by kernel_rfl
  f12:=Tryd.func47.trans (congrArg some (by kernel_rfl))
  f13:=Tryd.func46.trans (congrArg some (by kernel_rfl))
  f19:=Tryd.func38.trans (congrArg some (by kernel_rfl))
  f20:=Tryd.func69.trans (congrArg some (by kernel_rfl))
  f21:=Tryd.func70.trans (congrArg some (by kernel_rfl))
  f22:=Tryd.func71.trans (congrArg some (by kernel_rfl))
  f23:=Tryd.func72.trans (congrArg some (by kernel_rfl))
  f25:=Tryd.func68.trans (congrArg some (by kernel_rfl))
  f29:=Tryd.func59.trans (congrArg some (by kernel_rfl))
  f30:=Tryd.func82.trans (congrArg some (by kernel_rfl))
  t0:=Tryd.underlying0
  a0:=Tryd.isAgg0
  z0:=Tryd.sizeOf0
  v0:=Tryd.zeroValue0
  t3:=Tryd.underlying3
  a3:=Tryd.isAgg3
  z3:=Tryd.sizeOf3
  v3:=Tryd.zeroValue3
  t4:=Tryd.underlying4
  a4:=Tryd.isAgg4
  z4:=Tryd.sizeOf4
  v4:=Tryd.zeroValue4
  t5:=Tryd.underlying5
  a5:=Tryd.isAgg5
  z5:=Tryd.sizeOf5
  v5:=Tryd.zeroValue5
  t9:=Tryd.underlying9
  a9:=Tryd.isAgg9
  z9:=Tryd.sizeOf9
  v9:=Tryd.zeroValue9
  t22:=Tryd.underlying22
  a22:=Tryd.isAgg22
  z22:=Tryd.sizeOf22
  v22:=Tryd.zeroValue22
  t33:=Tryd.underlying89
  a33:=Tryd.isAgg89
  z33:=Tryd.sizeOf89
  v33:=Tryd.zeroValue89
  t39:=Tryd.underlying93
  a39:=Tryd.isAgg93
  z39:=Tryd.sizeOf93
  v39:=Tryd.zeroValue93
  t40:=Tryd.underlying94
  a40:=Tryd.isAgg94
  z40:=Tryd.sizeOf94
  v40:=Tryd.zeroValue94
  g0:=by kernel_rfl }
def jo (d l : List Bt) : Int:=Go.Lib.index (dP l) (dP d)
def gu (d l : List Bt) : Nat:=Go.Lib.count (dP l) (dP d)
def fW (d nw : List Bt) : Nat→List Bt→List Bt
  | 0,l=>l
  | k+1,l=>l.take (jo d l).toNat++(nw++fW d nw k (l.drop ((jo d l).toNat+d.length)))
theorem iw (l : List Bt) : (dP l).length=l.length:=by unfold dP;rw [List.length_map]
theorem uz (l : List Bt) (i : Nat) : dP (l.drop i)=(dP l).drop i:=by unfold dP;rw [List.map_drop]
theorem vj {l : List Bt} (h : l≠[]) : dP l≠[]:=fun e=>h (List.length_eq_zero_iff.1 (by rw [← iw,e];rfl))
theorem ff {d l : List Bt} (hd : d≠[]) (h : 0<gu d l) : ∃ i : Nat,jo d l=i∧i+d.length≤l.length∧gu d l=1+gu d (l.drop (i+d.length)):=by
  have hge:=Go.Lib.index_ge (dP l) (dP d)
  by_cases hm : Go.Lib.index (dP l) (dP d)=-1
  · rw [gu,Go.Lib.count_miss hm] at h;omega
  · have hi : Go.Lib.index (dP l) (dP d)=((Go.Lib.index (dP l) (dP d)).toNat : Nat):=by omega
    have hr:=Go.Lib.index_room (dP l) (dP d) (by omega)
    rw [iw,iw] at hr
    refine ⟨(Go.Lib.index (dP l) (dP d)).toNat,hi,by omega,?_⟩
    have:=Go.Lib.count_hit (vj hd) hi
    rw [iw] at this
    unfold gu
    rw [uz]
    exact this
theorem uA {d l : List Bt} (h : jo d l=-1) : gu d l=0:=Go.Lib.count_miss h
theorem lR {d l : List Bt} {i : Nat} (hd : d≠[]) (h : jo d l=i) : 0<gu d l:=by
  have:=Go.Lib.count_hit (vj hd) h
  unfold gu
  omega
theorem si {d : List Bt} (hd : d≠[]) : ∀ (k : Nat) (l : List Bt),l.length≤k→gu d l≤l.length:=by
  intro k
  induction k with
  | zero=>
    intro l hl
    rcases Nat.eq_zero_or_pos (gu d l) with h | h
    · omega
    · obtain ⟨i,_,h2,_⟩:=ff hd h
      have:=List.length_pos_iff.2 hd
      omega
  | succ k ih=>
    intro l hl
    rcases Nat.eq_zero_or_pos (gu d l) with h | h
    · omega
    · obtain ⟨i,_,h2,h3⟩:=ff hd h
      have:=List.length_pos_iff.2 hd
      have h4:=ih (l.drop (i+d.length)) (by rw [List.length_drop];omega)
      rw [List.length_drop] at h4
      omega
theorem sj {d : List Bt} (nw : List Bt) (hd : d≠[]) : ∀ (k : Nat) (l : List Bt),gu d l=k→(fW d nw k l).length+k * d.length=l.length+k * nw.length:=by
  intro k
  induction k with
  | zero=>intro l _;simp [fW]
  | succ k ih=>
    intro l hk
    obtain ⟨i,h1,h2,h3⟩:=ff hd (l:=l) (by omega)
    have h4:=ih (l.drop (i+d.length)) (by omega)
    rw [List.length_drop] at h4
    rw [fW,h1,Int.toNat_natCast,List.length_append,List.length_append,List.length_take,Nat.min_eq_left (by omega),Nat.succ_mul,Nat.succ_mul]
    omega
theorem fX : aR Tryd.prog 47:=⟨_,Tryd.func47,rfl,by kernel_rfl⟩
theorem jN : aR Tryd.prog 46:=⟨_,Tryd.func46,rfl,by kernel_rfl⟩
theorem gH (w : World) : Ext w w:=⟨rfl,rfl,rfl,Nat.le_refl _,fun _ _ _=>rfl⟩
theorem sk {s : aq} {w : World} (hs : s.ok w) (h : s.l≠[]) : ∃ a : Addr,s.ad=some a∧∀ i,i<s.l.length→w.cell? (a.add i)=some (.int .u8 ((rU s.l).getD i 0)):=by
  obtain ⟨b,j,h1,h2⟩:=vF hs (List.length_pos_iff.2 h)
  exact ⟨⟨b,j,none⟩,h1,fun i hi=>by rw [bh];exact h2 i hi⟩
theorem lS (l : List Bt) : (rU l).length=l.length:=by unfold rU;rw [List.length_map]
theorem sn (s d : aq) (w : World) (hs : s.ok w) (hd : d.ok w) (h0 : s.l≠[]) (hd0 : d.l≠[]) (hl : s.l.length<4294967281) (hdl : d.l.length≤2) (hm : dm w) :
    Calls Tryd.prog 47 [s.v,d.v].toArray w fun e w'=>e=.returned (I (jo d.l s.l))∧Ext w w':=by
  obtain ⟨m,hm⟩:=hm
  obtain ⟨a,ha,hc⟩:=sk hs h0
  obtain ⟨a2,ha2,hc2⟩:=sk hd hd0
  have h:=Any.bytes_Index_at gG.index a a2 s.l.length s.cap d.l.length d.cap (rU s.l) (rU d.l) m w (lS _) (lS _) (rV _) (rV _) hc hc2 hs.len hl (by omega) hm
  rw [oA,oA] at h
  have e1 : s.v=.slice (some a) s.l.length s.cap:=by unfold aq.v;rw [ha]
  have e2 : d.v=.slice (some a2) d.l.length d.cap:=by unfold aq.v;rw [ha2]
  rw [e1,e2]
  exact h.mono fun e w' ⟨h1,q,h2⟩=>⟨h1,h2 ▸ qp w q⟩
theorem vI {d : List Bt} (h : 2≤d.length) {l : List Bt} (hl : l.length<d.length) : jo d l=-1:=by
  have hge:=Go.Lib.index_ge (dP l) (dP d)
  by_cases hm : Go.Lib.index (dP l) (dP d)=-1
  · exact hm
  · have hr:=Go.Lib.index_room (dP l) (dP d) (by omega)
    rw [iw,iw] at hr
    omega
theorem so (s d : aq) (w : World) (hs : s.ok w) (hd : d.ok w) (hl : s.l.length<4294967281) (hdl : d.l.length=2) (hm : dm w) :
    Calls Tryd.prog 47 [s.v,d.v].toArray w fun e w'=>e=.returned (I (jo d.l s.l))∧Ext w w':=by
  by_cases h0 : s.l.length<2
  · rw [vI (by omega) (by omega)]
    have e2 : d.v=.slice d.ad 2 d.cap:=by unfold aq.v;rw [hdl]
    rw [e2]
    exact (Any.bytes_Index_longer gG.index s.ad d.ad s.l.length s.cap 2 d.cap w (Nat.le_refl _) h0 (by decide)).mono fun e w' ⟨h1,h2⟩=>⟨h1,h2 ▸ gH w⟩
  · exact sn s d w hs hd (fun h=>h0 (by rw [h];decide)) (fun h=>by rw [h] at hdl;cases hdl) hl (by omega) hm
set_option maxHeartbeats 4000000 in
theorem sr (s d : aq) (w : World) (hs : s.ok w) (hd : d.ok w) (hl : s.l.length<4294967281) (hdl : d.l.length=2) (hm : dm w) :
    Calls Tryd.prog 46 [s.v,d.v].toArray w fun e w'=>e=.returned (N (gu d.l s.l))∧Ext w w':=by
  have hd0 : d.l≠[]:=fun h=>by rw [h] at hdl;cases hdl
  have hdv : d.v=.slice d.ad 2 d.cap:=by unfold aq.v;rw [hdl]
  refine enter (n:=35) Tryd.func46 rfl rfl rfl (aa.start w []) ?_
  rw [hdv]
  have hg0 : decide (((2 : Nat) : Int)=0)=false:=rfl
  have hg1 : decide (((2 : Nat) : Int)=1)=false:=rfl
  repeat (first | refine JL.q (by first|(apply OQ.len (k:=2) (ad:=d.ad) (cap:=d.cap);exact Tryd.underlying22;rfl)|(apply OQ.aU (b:=0);rfl;rfl;exact hg0)|(apply OQ.move;rfl)|(apply OQ.assign;rfl)) rfl ?_ | refine JC.seq ?_ | refine JC.region ?_ | refine JL.nil ?_ | refine JE.next ?_)
  refine JC.cond_false rfl rfl ?_
  repeat (first | refine JL.q (by first|(apply OQ.len (k:=2) (ad:=d.ad) (cap:=d.cap);exact Tryd.underlying22;rfl)|(apply OQ.aU (b:=1);rfl;rfl;exact hg1)|(apply OQ.move;rfl)) rfl ?_ | refine JC.seq ?_ | refine JC.region ?_ | refine JC.skip ?_ | refine JL.nil ?_ | refine JE.next ?_)
  refine JC.cond_false rfl rfl ?_
  repeat (first | refine JL.q (by (apply OQ.assign;rfl)) rfl ?_ | refine JC.seq ?_ | refine JC.region ?_ | refine JC.block ?_ | refine JC.skip ?_ | refine JL.nil ?_ | refine JE.next ?_)
  refine JC.loop (fun z : Nat × aq=>[(0,z.2.v),(1,.slice d.ad 2 d.cap),(5,N z.1)]) (fun _=>[]) (fun z=>z.2.l.length) (fun z=>z.2.ok w∧z.2.l.length≤s.l.length∧z.1+gu d.l z.2.l=gu d.l s.l) (0,s) ⟨hs,Nat.le_refl _,Nat.zero_add _⟩ (by repeat (first | exact ax.nil | refine ax.cons _ _ _ rfl ?_)) (aA.refl _) ?_
  rintro ⟨c,t⟩ ⟨ht,htl,hc⟩
  dsimp only at ht htl hc ⊢
  have hcl:=si hd0 s.l.length s.l (Nat.le_refl _)
  have hq : ∀ w',aa w [] [] w'→Calls Tryd.prog 47 [t.v,.slice d.ad 2 d.cap].toArray w' fun e w2=>e=.returned (I (jo d.l t.l))∧Ext w' w2:=fun w' hw'=>by
    have:=so t d w' (ht.holds hw' rfl) (hd.holds hw' rfl) (by omega) hdl (hm.ext hw'.aC)
    rw [hdv] at this
    exact this
  rcases Nat.eq_zero_or_pos (gu d.l t.l) with h0 | h0
  · have hi : jo d.l t.l=-1:=by
      have hge : -1≤jo d.l t.l:=Go.Lib.index_ge (dP t.l) (dP d.l)
      by_cases hh : jo d.l t.l=-1
      · exact hh
      · have:=lR hd0 (l:=t.l) (i:=(jo d.l t.l).toNat) (by omega)
        omega
    rw [hi] at hq
    have hg : decide ((-1 : Int)=-1)=true:=rfl
    repeat (first | refine JL.q (by first|(apply OQ.aB (vs:=[t.v,.slice d.ad 2 d.cap]);exact fX;rfl;exact hq)|(apply OQ.aU (a:=-1) (b:=-1);rfl;rfl;exact hg)|(apply OQ.move;rfl)|(apply OQ.assign;rfl)) rfl ?_ | refine JC.seq ?_ | refine JC.region ?_ | refine JC.block ?_ | refine JL.nil ?_ | refine JE.next ?_)
    refine JC.cond_true rfl rfl ?_
    rw [show c=gu d.l s.l by omega]
    repeat (first | refine JL.q (by first|(apply OQ.move;rfl)|(apply OQ.assign;rfl)) rfl ?_ | refine JC.seq ?_ | refine JC.region ?_ | refine JL.nil ?_ | refine JE.next ?_)
    refine JC.ret ?_
    repeat (first | refine JE.av ?_ | refine JE.aI ?_)
    exact JE.aJ rfl (RV.tmp rfl) fun w' hw=>⟨rfl,hw.aC⟩
  · obtain ⟨i,h1,h2,h3⟩:=ff hd0 h0
    rw [h1] at hq
    rw [hdl] at h2 h3
    have hq : ∀ w',aa w [] [] w'→Calls Tryd.prog 47 [t.v,.slice d.ad 2 d.cap].toArray w' fun e w2=>e=.returned (N i)∧Ext w' w2:=hq
    have hg : decide ((i : Int)=-1)=false:=decide_eq_false (by omega)
    repeat (first | refine JL.q (by first|(apply OQ.aB (vs:=[t.v,.slice d.ad 2 d.cap]);exact fX;rfl;exact hq)|(apply OQ.aU (a:=i) (b:=-1);rfl;rfl;exact hg)|(apply OQ.move;rfl)|(apply OQ.assign;rfl)) rfl ?_ | refine JC.seq ?_ | refine JC.region ?_ | refine JC.block ?_ | refine JL.nil ?_ | refine JE.next ?_)
    refine JC.cond_false rfl rfl ?_
    repeat (first | refine JL.q (by first|(apply OQ.bH (a:=c) (b:=1);rfl;rfl;exact (by omega))|(apply OQ.len (k:=2) (ad:=d.ad) (cap:=d.cap);exact Tryd.underlying22;rfl)|(apply OQ.bH (a:=i) (b:=2);rfl;rfl;exact (by omega))|(apply OQ.snd (s:=t) (m:=i+2);exact Tryd.underlying22;exact cn;rfl;rfl;exact h2)|(apply OQ.move;rfl)|(apply OQ.assign;rfl)) rfl ?_ | refine JC.seq ?_ | refine JC.region ?_ | refine JC.skip ?_ | refine JL.nil ?_ | refine JE.next ?_ | refine JE.aj ?_)
    refine JE.again (i:=(c,t)) (c+1,t.snd (i+2)) ?_ ?_ (by repeat (first | exact ax.nil | refine ax.cons _ _ _ rfl ?_)) (aA.refl _)
    · refine ⟨ht.snd _ h2,?_,?_⟩
      · show (t.l.drop _).length≤_
        rw [List.length_drop]
        omega
      · show c+1+gu d.l (t.l.drop (i+2))=_
        omega
    · show (t.l.drop _).length<t.l.length
      rw [List.length_drop]
      omega
theorem su (s : aq) (b cap : Nat) (c : Bt) (w : World) (hs : s.ok w) (hz : s.ad=none→s.cap=0) (hd : (⟨some ⟨b,0,none⟩,cap,[c]⟩ : aq).ok w) :
    Calls Tryd.prog 46 [s.v,.slice (some ⟨b,0,none⟩) 1 cap].toArray w fun e w'=>e=.returned (N (gu [c] s.l))∧Ext w w':=by
  obtain ⟨b',j',h1,h2⟩:=hd.reads.at (by simp)
  cases h1
  have hc : w.cell? ⟨b,0,none⟩=some (.int .u8 (c.toNat : Int)):=h2 0 _ rfl
  have hcb : gu [c] s.l=Go.Lib.countByte (dP s.l) ((c.toNat : Int)).toNat.toUInt8:=by
    show Go.Lib.count (dP s.l) [UInt8.ofBitVec c]=_
    rw [Go.Lib.count_one]
    unfold Go.Lib.countByte
    congr 1
    rw [Int.toNat_natCast]
    apply UInt8.toBitVec_inj.1
    exact BitVec.eq_of_toNat_eq (by simp)
  by_cases h0 : s.l=[]
  · cases ha : s.ad with
    | none=>
      have e1 : s.v=.slice none 0 0:=by unfold aq.v;rw [ha,h0,hz ha];rfl
      rw [e1,h0]
      exact (Any.bytes_Count_one_nil gG.small b 0 cap (c.toNat : Int) w hc).mono fun e w' ⟨h1,h2⟩=>⟨h1,h2 ▸ gH w⟩
    | some a=>
      have e1 : s.v=.slice (some a) 0 s.cap:=by unfold aq.v;rw [ha,h0];rfl
      rw [e1,hcb,h0]
      exact (Any.bytes_Count_one_at gG.small a 0 s.cap b 0 cap [] (c.toNat : Int) w rfl (fun i hi=>absurd hi (Nat.not_lt_zero _)) hc).mono fun e w' ⟨h1,h2⟩=>⟨h1,h2 ▸ gH w⟩
  · obtain ⟨a,ha,hca⟩:=sk hs h0
    have e1 : s.v=.slice (some a) s.l.length s.cap:=by unfold aq.v;rw [ha]
    rw [e1,hcb,← oA]
    exact (Any.bytes_Count_one_at gG.small a s.l.length s.cap b 0 cap (rU s.l) (c.toNat : Int) w (lS _) hca hc).mono fun e w' ⟨h1,h2⟩=>⟨h1,h2 ▸ gH w⟩
end Rw
end
section
namespace Sl
inductive gI : List az→List az→Prop where
  | nil (N : List az) : gI [] N
  | keep (b : Nat) (A A' : Obj→Prop) (wr wr' : Bool) (N N' : List az) : (∀ o,A o→A' o)→(wr'=true→wr=true)→gI N' N→gI (⟨b,A',wr'⟩::N') (⟨b,A,wr⟩::N)
  | drop (e : az) (N N' : List az) : gI N' N→gI N' (e::N)
theorem gI.keys {M M' : List az} (h : gI M' M) : (M'.map az.b).Sublist (M.map az.b):=by
  induction h with
  | nil=>exact List.nil_sublist _
  | keep _ _ _ _ _ _ _ _ _ _ ih=>exact ih.cons_cons _
  | drop _ _ _ _ ih=>exact ih.cons _
theorem gI.old {M M' : List az} (h : gI M' M) : ∀ e ∈ M',∃ e' ∈ M,e'.b=e.b∧(e.wr=true→e'.wr=true)∧∀ o,e'.A o→e.A o:=by
  induction h with
  | nil=>simp
  | keep b A A' wr wr' M M' hA hw _ ih=>
    intro e he
    simp only [List.mem_cons] at he
    rcases he with rfl | he
    · exact ⟨⟨b,A,wr⟩,by simp,rfl,hw,hA⟩
    · obtain ⟨e',h1,h2⟩:=ih e he
      exact ⟨e',by simp [h1],h2⟩
  | drop _ _ _ _ ih=>
    intro e he
    obtain ⟨e',h1,h2⟩:=ih e he
    exact ⟨e',by simp [h1],h2⟩
theorem aa.perm {w0 w : World} {S : List Nat} {M M' : List az} (h : aa w0 S M w) (hp : M.Perm M') : aa w0 S M' w:=
  ⟨h.aC,(hp.map az.b).nodup_iff.1 h.nodup,fun e he=>h.all e (hp.mem_iff.2 he)⟩
def gJ (M : List az) : List Nat:=(M.filter (·.wr)).map az.b
theorem dS {M : List az} {k : Nat} : k ∈ gJ M↔∃ e ∈ M,e.wr=true∧e.b=k:=by
  simp [gJ,and_assoc]
theorem aa.oF {w0 w : World} {S : List Nat} {M : List az} (h : aa w0 S M w) : aa w (gJ M) M w:=
  ⟨jl.refl _ _,h.nodup,fun e he=>⟨(h.all e he).1,fun hw=>.inl (dS.2 ⟨e,he,hw,rfl⟩)⟩⟩
theorem aa.fh {w0 w : World} {M : List az} (h : aa w0 [] M w) : ∀ k ∈ gJ M,w0.heap.size≤k:=fun k hk=>by
  obtain ⟨e,he,hw,rfl⟩:=dS.1 hk
  rcases (h.all e he).2 hw with h | h
  · cases h
  · exact h
theorem aa.vJ {w0 w w' : World} {M M' : List az} (h : aa w0 [] M w) (h' : aa w (gJ M) M' w') : aa w0 [] M' w':=by
  refine ⟨⟨h'.aC.os.trans h.aC.os,h'.aC.tape.trans h.aC.tape,h'.aC.output.trans h.aC.output,Nat.le_trans h.aC.size h'.aC.size,fun k hk _=>?_⟩,h'.nodup,fun e he=>⟨(h'.all e he).1,fun hw=>.inr ?_⟩⟩
  · refine (h'.aC.block k (Nat.lt_of_lt_of_le hk h.aC.size) fun hm=>?_).trans (h.aC.block k hk (by simp))
    have:=h.fh k hm
    omega
  · rcases (h'.all e he).2 hw with h1 | h1
    · exact h.fh _ h1
    · exact Nat.le_trans h.aC.size h1
theorem qw {M : List az} (h : (M.map az.b).Nodup) : ∀ {e1 e2 : az},e1 ∈ M→e2 ∈ M→e1.b=e2.b→e1=e2:=by
  induction M with
  | nil=>intro e1 e2 h1;cases h1
  | cons x M ih=>
    simp only [List.map_cons,List.nodup_cons] at h
    intro e1 e2 h1 h2 he
    rcases List.mem_cons.1 h1 with rfl | h1'
    · rcases List.mem_cons.1 h2 with rfl | h2'
      · rfl
      · exact absurd (he ▸ List.mem_map_of_mem (f:=az.b) h2') h.1
    · rcases List.mem_cons.1 h2 with rfl | h2'
      · exact absurd (he ▸ List.mem_map_of_mem (f:=az.b) h1') h.1
      · exact ih h.2 h1' h2' he
theorem dI.other {M M' : List az} {b b' : Nat} {A A' : Obj→Prop} (h : dI M b A b' A' M') (hn : (M.map az.b).Nodup) : ∀ e ∈ M',e=⟨b',A',true⟩∨(e ∈ M∧e.b≠b):=by
  induction h with
  | @here b A b' A' M=>
    intro e he
    simp only [List.map_cons,List.nodup_cons] at hn
    simp only [List.mem_cons] at he
    rcases he with rfl | he
    · exact .inl rfl
    · exact .inr ⟨by simp [he],fun h=>hn.1 (h ▸ List.mem_map_of_mem he)⟩
  | @there x M b A b' A' M' hu ih=>
    intro e he
    simp only [List.map_cons,List.nodup_cons] at hn
    simp only [List.mem_cons] at he
    rcases he with rfl | he
    · refine .inr ⟨by simp,fun h=>hn.1 ?_⟩
      rw [h]
      exact List.mem_map_of_mem hu.has.mem (f:=az.b)
    · rcases ih hn.2 e he with h | ⟨h1,h2⟩
      · exact .inl h
      · exact .inr ⟨by simp [h1],h2⟩
section
variable {P : Program} {m l : Nat}
def c4 (o : Oper) : Bool:=match o.op with
  | .defer _=>false
  | _=>true
abbrev Rd (l : Nat) : Fence:=Fence.wide.inRound l
theorem jO {o : Oper} {a : Act} {w : World} {K K' : Act→World→Prop} {Q : Exit→Act→World→Prop} (hd : c4 o=true) (hQ : ¬ LetsOut Q) (hK : ∀ a w,K a w→K' a w) (h : o.wp P a w K Q) : o.wpIn (Rd l) m P a w K' Q:=by
  refine ⟨fun _ _=>trivial,?_⟩
  have e : Oper.semAt (Rd l).round a.eval o=execOp a.eval o:=Oper.semAt_some l _ _ fun c hc=>by
    unfold c4 at hd
    rw [hc] at hd
    cases hd
  rw [e]
  unfold Oper.wp at h
  have hdep : (Rd l).depth.isSome=true→1≤m:=fun h=>by cases h
  cases hr : (execOp a.eval o).run P w with
  | ok nx w'=>
    rw [hr] at h
    cases nx with
    | value v=>exact hK _ _ h
    | skip=>exact hK _ _ h
    | defer d=>exact hK _ _ h
    | enter f args=>
      have h' : Calls P f args w' fun
        | .returned v,w''=>K (a.put o.dst v) w''
        | .panicked chain,w''=>Q (.panic chain) a w''
        | .outgrown,_=>LetsOut Q:=h
      refine ⟨hdep,(callsIn_wide (n:=m - 1)).2 (h'.mono fun e w2 h2=>?_)⟩
      cases e with
      | returned v=>exact hK _ _ h2
      | panicked ch=>exact h2
      | outgrown=>exact h2
    | row r args=>
      have h' : Rows P r args w' fun v w''=>K (a.put o.dst v) w'':=h
      refine ⟨hdep,fun c cs _=>?_⟩
      obtain ⟨v,w2,h2,hs⟩:=h' c cs
      exact ⟨v,w2,hK _ _ h2,stepsIn_wide.2 hs⟩
    | round=>exact h.elim
    | _=>exact h.elim
  | halt x w'=>
    rw [hr] at h
    cases x with
    | panic v=>exact h
    | _=>exact h.elim
theorem cD {ops : Array Oper} {Q : Exit→Act→World→Prop} (hQ : ¬ LetsOut Q) : ∀ (os : List Oper),os.all c4=true→∀ a w,wpList P ops Q os a w→wpListIn (Rd l) m P ops Q os a w
  | [],_,a,w,h=>h
  | o::os,hd,a,w,h=>by
    simp only [List.all_cons,Bool.and_eq_true] at hd
    have ih:=cD (ops:=ops) hQ os hd.2
    unfold wpList at h
    unfold wpListIn
    by_cases hw : Region.wanted o (yielded ops a.tmps)=true
    · simp only [hw,if_true] at h ⊢
      rcases h with h | h
      · exact jO hd.1 hQ ih h
      · exact absurd h.2 hQ
    · simp only [hw,if_false] at h ⊢
      exact ⟨fun _ _=>trivial,ih _ _ h⟩
end
section
variable {P : Program} {n : Nat} {w0 : World} {S : List Nat} {Q Q' : Exit→Act→World→Prop} {E : Env} {M : List az} {m l : Nat}
structure JR (P : Program) (n : Nat) (w0 : World) (S : List Nat) (l m : Nat) (Q : Exit→Act→World→Prop) (c : Code) (E : Env) (M : List az) : Prop where
  go : ∀ a w,aE n E a→aa w0 S M w→c.wpIn (Rd l) m P Q a w
theorem JR.region {id : Nat} {os : List Oper} (hd : os.all c4=true) (hQ : ¬ LetsOut Q) (h : JL P n w0 S os.toArray Q os E M) : JR P n w0 S l m Q (.region id os.toArray false) E M:=
  ⟨fun a w ha hw=>wpIn_region_lit (cD hQ os hd a w (h.go a w ha hw))⟩
theorem JR.seq {x y : Code} (h : JR P n w0 S l m (Exit.then (y.wpIn (Rd l) m P Q) Q) x E M) : JR P n w0 S l m Q (.seq x y) E M:=⟨fun a w ha hw=>wpIn_seq (h.go a w ha hw)⟩
theorem JR.block {id : Nat} {c : Code} (h : JR P n w0 S l m (Exit.inBlock id Q) c E M) : JR P n w0 S l m Q (.block id c) E M:=⟨fun a w ha hw=>wpIn_block (h.go a w ha hw)⟩
theorem JE.bW {y : Code} (h : JR P n w0 S l m Q' y E M) : JE n w0 S (Exit.then (y.wpIn (Rd l) m P Q') Q) .normal E M:=⟨h.go⟩
theorem ag {K : Act→World→Prop} (h : ¬ LetsOut Q) : ¬ LetsOut (Exit.then K Q):=fun ⟨a,w,x⟩=>h ⟨a,w,x⟩
theorem ai {id : Nat} (h : ¬ LetsOut Q) : ¬ LetsOut (Exit.inBlock id Q):=fun ⟨a,w,x⟩=>h ⟨a,w,x⟩
end
def mk (D : Nat) : Deferred:={ target:=.collected D,args:=#[] }
def fN : Obj→Prop:=fun o=>o=.deferred (some [])
structure cS (D n : Nat) (E : Env) (a : Act) : Prop where
  defers : a.defers=[mk D]
  base : aE n E { a with defers:=[] }
section
variable {P : Program} {D n : Nat} {w0 : World} {S : List Nat} {ops : Array Oper} {Q Q' : Exit→Act→World→Prop} {os : List Oper} {E : Env} {M : List az} {d : Nat} {op : Op} {ty : TypeId} {pos : String} {aft : Array Edge} {v : Value}
theorem iy (a : Act) : ({ a with defers:=[] } : Act).eval=a.eval:=funext fun x=>by cases x <;> rfl
theorem cS.put {a : Act} (h : cS D n E a) (d : Nat) (v : Value) (hd : Nat.blt d n=true) : cS D n ((d,v)::E) (a.put (some d) v):=⟨h.defers,h.base.put d v hd⟩
theorem cS.eval {a : Act} (h : cS D n E a) {x : Operand} {v : Value} (hx : ev E x=some v) : a.eval x=v:=by
  rw [← iy];exact h.base.eval hx
structure KL (P : Program) (D n : Nat) (w0 : World) (S : List Nat) (ops : Array Oper) (Q : Exit→Act→World→Prop) (os : List Oper) (E : Env) (M : List az) : Prop where
  go : ∀ a w,cS D n E a→aa w0 S M w→wpList P ops Q os a w
structure KE (D n : Nat) (w0 : World) (S : List Nat) (Q : Exit→Act→World→Prop) (e : Exit) (E : Env) (M : List az) : Prop where
  go : ∀ a w,cS D n E a→aa w0 S M w→Q e a w
structure KC (P : Program) (D n : Nat) (w0 : World) (S : List Nat) (Q : Exit→Act→World→Prop) (c : Code) (E : Env) (M : List az) : Prop where
  go : ∀ a w,cS D n E a→aa w0 S M w→c.wp P Q a w
theorem KC.seq {x y : Code} (h : KC P D n w0 S (Exit.then (y.wp P Q) Q) x E M) : KC P D n w0 S Q (.seq x y) E M:=⟨fun a w ha hw=>wp_seq (h.go a w ha hw)⟩
theorem KC.skip (h : KE D n w0 S Q .normal E M) : KC P D n w0 S Q .skip E M:=⟨fun a w ha hw=>wp_skip (h.go a w ha hw)⟩
theorem KC.ret (h : KE D n w0 S Q .ret E M) : KC P D n w0 S Q .ret E M:=⟨fun a w ha hw=>wp_ret (h.go a w ha hw)⟩
theorem KC.cond {c : Operand} {x y : Code} {t : Bool} (hc : ev E c=some (.bool t)) (ht : t=true→KC P D n w0 S Q x E M) (hf : t=false→KC P D n w0 S Q y E M) : KC P D n w0 S Q (.cond c x y) E M:=
  ⟨fun a w ha hw=>wp_cond_split (ha.eval hc) (fun h=>(ht h).go a w ha hw) (fun h=>(hf h).go a w ha hw)⟩
theorem KC.region {id : Nat} {os : List Oper} (h : KL P D n w0 S os.toArray Q os E M) : KC P D n w0 S Q (.region id os.toArray false) E M:=⟨fun a w ha hw=>wp_region_lit (h.go a w ha hw)⟩
theorem KE.next {y : Code} (h : KC P D n w0 S Q' y E M) : KE D n w0 S (Exit.then (y.wp P Q') Q) .normal E M:=⟨h.go⟩
theorem KE.av {K : Act→World→Prop} (h : KE D n w0 S Q .ret E M) : KE D n w0 S (Exit.then K Q) .ret E M:=⟨h.go⟩
theorem KE.aj {id : Nat} (h : KE D n w0 S Q .normal E M) : KE D n w0 S (Exit.inBlock id Q) .normal E M:=⟨h.go⟩
theorem KL.nil (h : KE D n w0 S Q .normal E M) : KL P D n w0 S ops Q [] E M:=⟨h.go⟩
theorem KL.q (h : OQ P n E (aa w0 S M) ⟨some d,op,ty,pos,aft,none⟩ v) (hd : Nat.blt d n=true) (k : KL P D n w0 S ops Q os ((d,v)::E) M) : KL P D n w0 S ops Q (⟨some d,op,ty,pos,aft,none⟩::os) E M:=
  ⟨fun a _ ha hw=>wpList_plain rfl fun _ hK=>Oper.wp_of_quiet (C:=aa w0 S M) (K:=fun a'=>a'=a.put (some d) v) hw (fun _ _ hw' e=>hK _ _ (e ▸ k.go _ _ (ha.put d v hd) hw')) ⟨v,fun w hw=>by
    have:=h.go _ ha.base w hw
    unfold Oper.quietAt at this ⊢
    rwa [iy] at this,rfl⟩⟩
theorem KC.weak {c : Code} {M' : List az} (hM : aA M' M) (h : KC P D n w0 S Q c E M') : KC P D n w0 S Q c E M:=⟨fun a w ha hw=>h.go a w ha (hw.weak hM)⟩
theorem iP {m : Nat} {fn : Func} {R : Ending→World→Prop} {a : Act} {w : World} {v : Value} (ha : cS D n E a) (hw : aa w0 S (⟨D,fN,true⟩::M) w)
    (hv : ∀ w',aa w0 S M w'→(results fn a.tmps).run P w'=.ok v w') (hR : ∀ w',aa w0 S M w'→R (.returned v) w') : bodyPostM Fence.wide m P fn R .ret a w:=by
  obtain ⟨o,ho,hA⟩:=hw.get (b:=D) (A:=fN) (wr:=true) .here
  cases hA
  have hlt : D<w.heap.size:=(Array.getElem?_eq_some_iff.1 ho).1
  have h2 : aa w0 S (⟨D,fun o=>o=.deferred none,true⟩::M) (w.putObj D (.deferred none)):=
    hw.write (A':=fun o=>o=.deferred none) .here rfl (World.putObj_heap_same hlt) World.putObj_size (fun k hk=>World.putObj_heap_other hk) rfl rfl rfl
  have h3 : aa w0 S M (w.putObj D (.deferred none)):=h2.weak (.drop _ _ _ (aA.refl _))
  show LeavesInM Fence.wide m P fn a.tmps R a.defers .returning w
  rw [ha.defers]
  exact ⟨by simp,.inl ⟨D,_,rfl,run_takeDeferred ho,v,hv _ h3,hR _ h3⟩⟩
theorem KE.less {e : Exit} {M' : List az} (hM : aA M' M) (h : KE D n w0 S Q e E M') : KE D n w0 S Q e E M:=⟨fun a w ha hw=>h.go a w ha (hw.weak hM)⟩
theorem jP {f : FuncId} {fn : Func} {c : Code} {vs : List Value} {w : World} {R : Ending→World→Prop} (hf : P.funcs[f]?=some fn) (hb : fn.body=some c) (hn : fn.ntmps=n) (hl : Nat.ble vs.length n=true)
    (hM : aa w S M w) (h : JC P n w S (bodyPostM Fence.wide 3 P fn R) c (enum 0 vs) M) : Calls P f vs.toArray w R:=by
  refine callsIn_wide.1 (callsIn_of_wp_marks (n:=3) hf hb trivial (wpIn_wide.2 (h.go _ _ ?_ hM)))
  rw [hn]
  exact aE.enter vs (by simpa using hl)
end
structure mS (L : List Nat) (W W' : World) : Prop where
  os : W'.os=W.os
  tape : W'.tape=W.tape
  output : W'.output=W.output
  size : W.heap.size≤W'.heap.size
  same : ∀ k ∈ L,W'.heap[k]?=W.heap[k]?
theorem mS.trans {L : List Nat} {X Y Z : World} (h : mS L X Y) (k : mS L Y Z) : mS L X Z:=
  ⟨k.os.trans h.os,k.tape.trans h.tape,k.output.trans h.output,Nat.le_trans h.size k.size,fun i hi=>(k.same i hi).trans (h.same i hi)⟩
def oG {α ι : Type} (Mi : ι→List az) (Inv : List α→ι→Prop) (xs : List α) (w1 : World) (S1 : List Nat) : Exit→Act→World→Prop
  | .normal,_,W'=>∃ j,Inv xs j∧aa w1 S1 (Mi j) W'
  | _,_,_=>False
theorem ah {α ι : Type} {Mi : ι→List az} {Inv : List α→ι→Prop} {xs : List α} {w1 : World} {S1 : List Nat} : ¬ LetsOut (oG Mi Inv xs w1 S1):=fun ⟨_,_,h⟩=>h
theorem JE.round {α ι : Type} {n : Nat} {w1 : World} {S1 : List Nat} {E : Env} {M : List az} {Mi : ι→List az} {Inv : List α→ι→Prop} {xs : List α} (j : ι) (hj : Inv xs j) (hM : aA (Mi j) M) : JE n w1 S1 (oG Mi Inv xs w1 S1) .normal E M:=
  ⟨fun _ _ _ hw=>⟨j,hj,hw.weak hM⟩⟩
theorem JC.range {P : Program} {n : Nat} {w0 : World} {Q : Exit→Act→World→Prop} {E : Env} {M : List az} {α ι : Type} {g : Operand} {p d rid : Nat} {ty : TypeId} {pos : String} {body : Code} {gf : Nat} {lb : Array Value} (enc : α→Value) (L : List Nat) (Sd Sp : List α→Prop) (N : Nat)
    (Mi : ι→List az) (Inv : List α→ι→Prop) (hg : ev E g=some (.func (.func gf) #[] lb)) (eg : ∀ args w,(callFunc gf args).run P w=.ok (.enter gf args) w)
    (hseq : ∀ W,aa w0 [] M W→SeqStopsK Fence.wide 2 P gf lb (fun x=>#[enc x]) (mS L) Sd Sp N W)
    (hcell : ∀ i,∀ e ∈ Mi i,∀ o,e.A o→o.isCells=true) (hL : ∀ i,∀ k ∈ L,k<w0.heap.size∨∃ A,Has (Mi i) k A false)
    (i0 : ι) (h0 : Inv [] i0) (hM : ∀ w,aa w0 [] M w→aa w0 [] (Mi i0) w) (hp : Nat.blt p n=true) (hd : Nat.blt d n=true)
    (hbody : ∀ l pre x i w1,Inv pre i→pre.length<N→Ext w0 w1→(∀ k ∈ gJ (Mi i),w0.heap.size≤k)→JR P n w1 (gJ (Mi i)) l 1 (oG Mi Inv (pre++[x]) w1 (gJ (Mi i))) body ((d,enc x)::(p,enc x)::E) (Mi i))
    (hdone : ∀ D xs i,Sd xs→Inv xs i→KE D n w0 [] Q .normal E (⟨D,fN,true⟩::Mi i)) :
    JC P n w0 [] Q (.rangeFunc g #[p] (.region rid #[⟨some d,.assign (.tmp p),ty,pos,#[],none⟩] false) body) E M:=by
  refine ⟨fun a w ha hw=>(wpIn_wide (n:=3)).1 ?_⟩
  have hLw : ∀ k ∈ L,k<w.heap.size:=fun k hk=>by
    rcases hL i0 k hk with h | ⟨A,h⟩
    · exact Nat.lt_of_lt_of_le h hw.aC.size
    · exact (hM w hw).lt h.mem
  have hI : OwnFrom w.heap.size (fun pre W=>∃ i,Inv pre i∧aa w0 [] (Mi i) W):=by
    rintro pre W W' row ⟨i,hi,h⟩ hgr hrow
    refine ⟨i,hi,⟨hgr.os.trans h.aC.os,hgr.tape.trans h.aC.tape,hgr.output.trans h.aC.output,Nat.le_trans h.aC.size hgr.size,fun k hk _=>?_⟩,h.nodup,fun e he=>⟨?_,(h.all e he).2⟩⟩
    · refine (hgr.block k (Nat.lt_of_lt_of_le hk h.aC.size) fun hr=>?_).trans (h.aC.block k hk (by simp))
      have:=(hrow k hr.symm).1
      have:=hw.aC.size
      omega
    · obtain ⟨o,ho,hA⟩:=(h.all e he).1
      refine ⟨o,(hgr.block e.b (h.lt he) fun hr=>?_).trans ho,hA⟩
      obtain ⟨_,o2,ho2,hc⟩:=hrow _ hr.symm
      rw [ho] at ho2
      cases ho2
      rw [hcell i e he o hA] at hc
      cases hc
  have hpn : p<n:=by simpa using hp
  have hdn : d<n:=by simpa using hd
  refine wpIn_rangeFunc_ownG (n:=3) rfl (by omega) (gf:=gf) (lb:=lb) (ha.eval hg) trivial eg (w0:=w) (hseq w hw) (fun h k=>h.trans k) (fun W l o o' hl _ _ _=>?_) (RowKit.Below.refl _ _) (fun _=>rfl)
    (fun pre W=>∃ i,Inv pre i∧aa w0 [] (Mi i) W) (fun _ _ _=>False) hI (fun _ _ _ _ _ h _ _=>h) ⟨i0,h0,hM w hw⟩ (fun x=>(a.put (some p) (enc x)).put (some d) (enc x)) ?_ ?_ ?_ (fun _ _ _ _ _ _ h _=>h.elim)
  · exact ⟨rfl,rfl,rfl,by simp,fun k hk=>World.putObj_heap_other (by have:=hLw k hk;omega)⟩
  · intro l x W K hK
    refine wpIn_region_lit (wpListIn_plain rfl fun K' hK'=>⟨fun _ _=>trivial,?_⟩)
    have he : ((#[p].zip #[enc x]).foldl (fun t (x : Nat × Value)=>t.setIfInBounds x.1 x.2) a.tmps).getD p undef=enc x:=by
      have : p<a.tmps.size:=by rw [ha.size];exact hpn
      simp [this]
    have hs : Oper.semAt (Rd l).round ({ tmps:=(#[p].zip #[enc x]).foldl (fun t (x : Nat × Value)=>t.setIfInBounds x.1 x.2) a.tmps,defers:=[] } : Act).eval ⟨some d,.assign (.tmp p),ty,pos,#[],none⟩=.pure (.value (enc x)):=by
      refine (Oper.semAt_some l _ _ ?_).trans ?_
      · intro c h;cases h
      show Sem.pure (Next.value (_ : Value))=_
      exact congrArg (fun v=>Sem.pure (Next.value v)) he
    show Oper.uponIn _ _ _ _ _ _ _ ((Oper.semAt (Rd l).round _ _).run P W)
    rw [hs]
    refine hK' _ _ (wpListIn_nil ?_)
    show K _ W
    have e : ({ tmps:=(#[p].zip #[enc x]).foldl (fun t (x : Nat × Value)=>t.setIfInBounds x.1 x.2) a.tmps,defers:=[] } : Act).put (some d) (enc x)=(a.put (some p) (enc x)).put (some d) (enc x):=by
      obtain ⟨tm,df⟩:=a
      have:=ha.defers
      simp only at this
      subst this
      simp [Act.put]
    rw [e]
    exact hK
  · rintro l pre x W ⟨i,hi,h⟩ hlen
    refine wpIn_mono ((hbody l pre x i W hi hlen h.aC h.fh).go _ W ((ha.put p _ hp).put d _ hd) h.oF) ?_
    · rintro e a2 W2 hq
      cases e with
      | normal=>
        obtain ⟨j,hj,h2⟩:=hq
        refine ⟨⟨h2.aC.size,fun k o _ hk ho=>?_⟩,⟨h2.aC.os,h2.aC.tape,h2.aC.output,h2.aC.size,fun k hk=>?_⟩,j,hj,h.vJ h2⟩
        · refine (h2.aC.block k (Array.getElem?_eq_some_iff.1 hk).1 fun hm=>?_).trans hk
          obtain ⟨e,he,_,rfl⟩:=dS.1 hm
          obtain ⟨o',ho',hA⟩:=(h.all e he).1
          rw [hk] at ho'
          cases ho'
          rw [hcell i e he _ hA] at ho
          cases ho
        · rcases hL i k hk with hlt | ⟨A,hA⟩
          · exact h2.aC.block k (Nat.lt_of_lt_of_le hlt h.aC.size) fun hm=>by have:=h.fh k hm;omega
          · refine h2.aC.block k (h.lt hA.mem) fun hm=>?_
            obtain ⟨e,he,hwr,hb⟩:=dS.1 hm
            have:=qw h.nodup he hA.mem hb
            subst this
            cases hwr
      | ret=>exact hq.elim
      | exit id=>exact hq.elim
      | goto t=>exact hq.elim
      | panic ch=>exact hq.elim
      | outgrown=>exact hq.elim
  · rintro D xs W hD hS ⟨i,hi,h⟩ hk
    refine (hdone D xs i hS hi).go _ W ⟨?_,?_⟩ ?_
    · show _::a.defers=_
      rw [ha.defers];rfl
    · exact ⟨ha.size,rfl,ha.all⟩
    · refine ⟨h.aC,?_,fun e he=>?_⟩
      · simp only [List.map_cons,List.nodup_cons,h.nodup,and_true]
        intro hm
        obtain ⟨e,he,hb⟩:=List.mem_map.1 hm
        obtain ⟨o,ho,hA⟩:=(h.all e he).1
        rw [hb] at ho
        rw [hk] at ho
        cases ho
        have:=hcell i e he _ hA
        cases this
      · simp only [List.mem_cons] at he
        rcases he with rfl | he
        · exact ⟨⟨_,hk,rfl⟩,fun _=>.inr (Nat.le_trans hw.aC.size hD)⟩
        · exact h.all e he
end Sl
end
section
namespace Sl
section
variable {P : Program} {n : Nat} {W : World} {ops : Array Oper} {Q Q' : Exit→Act→World→Prop} {os : List Oper} {E E' : Env} {d : Nat} {op : Op} {ty : TypeId} {pos : String} {aft : Array Edge} {v : Value} {m : Nat}
structure FL (P : Program) (n m : Nat) (W : World) (ops : Array Oper) (Q : Exit→Act→World→Prop) (os : List Oper) (E : Env) : Prop where
  go : ∀ a,aE n E a→wpListIn Fence.wide m P ops Q os a W
structure FE (n : Nat) (W : World) (Q : Exit→Act→World→Prop) (e : Exit) (E : Env) : Prop where
  go : ∀ a,aE n E a→Q e a W
structure FC (P : Program) (n : Nat) (W : World) (Q : Exit→Act→World→Prop) (c : Code) (E : Env) : Prop where
  go : ∀ a,aE n E a→c.wp P Q a W
theorem FC.seq {x y : Code} (h : FC P n W (Exit.then (y.wp P Q) Q) x E) : FC P n W Q (.seq x y) E:=⟨fun a ha=>wp_seq (h.go a ha)⟩
theorem FC.skip (h : FE n W Q .normal E) : FC P n W Q .skip E:=⟨fun a ha=>wp_skip (h.go a ha)⟩
theorem FC.ret (h : FE n W Q .ret E) : FC P n W Q .ret E:=⟨fun a ha=>wp_ret (h.go a ha)⟩
theorem FC.exit {id : Nat} (h : FE n W Q (.exit id) E) : FC P n W Q (.exit id) E:=⟨fun a ha=>wp_exit (h.go a ha)⟩
theorem FC.block {id : Nat} {c : Code} (h : FC P n W (Exit.inBlock id Q) c E) : FC P n W Q (.block id c) E:=⟨fun a ha=>wp_block (h.go a ha)⟩
theorem FC.cond {c : Operand} {x y : Code} {t : Bool} (hc : ev E c=some (.bool t)) (ht : t=true→FC P n W Q x E) (hf : t=false→FC P n W Q y E) : FC P n W Q (.cond c x y) E:=
  ⟨fun a ha=>wp_cond_split (ha.eval hc) (fun h=>(ht h).go a ha) (fun h=>(hf h).go a ha)⟩
theorem FC.region {id : Nat} {os : List Oper} (h : FL P n 2 W os.toArray Q os E) : FC P n W Q (.region id os.toArray false) E:=⟨fun a ha=>(wpIn_wide (n:=2)).1 (wpIn_region_lit (h.go a ha))⟩
theorem FE.next {y : Code} (h : FC P n W Q' y E) : FE n W (Exit.then (y.wp P Q') Q) .normal E:=⟨h.go⟩
theorem FE.aS {K : Act→World→Prop} {id : Nat} (h : FE n W Q (.exit id) E) : FE n W (Exit.then K Q) (.exit id) E:=⟨h.go⟩
theorem FE.av {K : Act→World→Prop} (h : FE n W Q .ret E) : FE n W (Exit.then K Q) .ret E:=⟨h.go⟩
theorem FE.aj {id : Nat} (h : FE n W Q .normal E) : FE n W (Exit.inBlock id Q) .normal E:=⟨h.go⟩
theorem FE.aI {id : Nat} (h : FE n W Q .ret E) : FE n W (Exit.inBlock id Q) .ret E:=⟨h.go⟩
theorem FE.bE {id : Nat} (h : FE n W Q .normal E) : FE n W (Exit.inBlock id Q) (.exit id) E:=⟨fun a ha=>by
  show (if id=id then Q .normal a W else _)
  rw [if_pos rfl];exact h.go a ha⟩
theorem FL.nil (h : FE n W Q .normal E) : FL P n m W ops Q [] E:=⟨h.go⟩
theorem FL.q (h : OQ P n E (fun w=>w=W) ⟨some d,op,ty,pos,aft,none⟩ v) (hdf : c4 ⟨some d,op,ty,pos,aft,none⟩=true) (hd : Nat.blt d n=true) (k : FL P n m W ops Q os ((d,v)::E)) : FL P n m W ops Q (⟨some d,op,ty,pos,aft,none⟩::os) E:=
  ⟨fun a ha=>wpListIn_plain rfl fun K hK=>by
    have hk:=hK _ _ (k.go _ (ha.put d v hd))
    have hq:=h.go a ha W rfl
    refine ⟨fun _ _=>trivial,?_⟩
    have e : Oper.semAt Fence.wide.round a.eval ⟨some d,op,ty,pos,aft,none⟩=execOp a.eval ⟨some d,op,ty,pos,aft,none⟩:=rfl
    rw [e]
    unfold Oper.quietAt at hq
    cases hr : (execOp a.eval ⟨some d,op,ty,pos,aft,none⟩).run P W with
    | ok nx w'=>
      rw [hr] at hq
      cases nx with
      | value u=>
        obtain ⟨rfl,rfl⟩:=hq
        exact hk
      | skip=>
        obtain ⟨rfl,rfl⟩:=hq
        exact hk
      | enter f args=>
        obtain ⟨rfl,hc⟩:=hq
        refine ⟨fun h=>(by cases h),(callsIn_wide (n:=m - 1)).2 (hc.mono ?_)⟩
        rintro e w2 ⟨rfl,rfl⟩
        exact hk
      | _=>exact hq.elim
    | halt x w'=>
      rw [hr] at hq
      exact hq.elim⟩
theorem FL.yield {l : Nat} {x y : Operand} {t : TypeId} {R : Ending→World→Prop} (hx : ev E x=some (.func (.yield l) #[] #[])) (hy : ev E y=some v) (hd : Nat.blt d n=true) (h : YieldAt Fence.wide 1 P l #[v] W R)
    (hR : ∀ e W',R e W'→∃ b,e=.returned (.bool b)∧FL P n 2 W' ops Q os ((d,.bool b)::E)) : FL P n 2 W ops Q (⟨some d,.call ⟨.value x,#[y],#[t]⟩,ty,pos,aft,none⟩::os) E:=
  ⟨fun a ha=>wpListIn_plain rfl fun K hK=>by
    obtain ⟨fn,tmps,assign,body,hrun,hro⟩:=h
    refine ⟨fun _ _=>trivial,?_⟩
    have e : (Oper.semAt Fence.wide.round a.eval ⟨some d,.call ⟨.value x,#[y],#[t]⟩,ty,pos,aft,none⟩).run P W=.ok (.round l fn tmps assign body) W:=by
      have e0 : Oper.semAt Fence.wide.round a.eval ⟨some d,.call ⟨.value x,#[y],#[t]⟩,ty,pos,aft,none⟩=execOp a.eval ⟨some d,.call ⟨.value x,#[y],#[t]⟩,ty,pos,aft,none⟩:=rfl
      rw [e0]
      simp only [execOp,resolve,Sem.run_bind,ha.eval hx,List.map_toArray,List.map_cons,List.map_nil,ha.eval hy,Deferred.ofValue,Sem.run_pure,Result.andThen_ok,invoke]
      simpa using hrun
    rw [e]
    refine ⟨fun h=>(by cases h),hro.mono fun e W' hr=>?_⟩
    obtain ⟨b,rfl,hl⟩:=hR e W' hr
    exact hK _ _ (hl.go _ (ha.put d _ hd))⟩
theorem FC.loop {ι : Type} (Ei : ι→Env) (Ci : ι→World→Prop) (μ : ι→Nat) {c : Code} (i : ι) (hi : Ci i W) (hE : ax E (Ei i))
    (h : ∀ i w,Ci i w→FC P n w (Exit.then (fun a' w'=>∃ j,Ci j w'∧μ j<μ i∧aE n (Ei j) a') Q) c (Ei i)) : FC P n W Q (.loop c) E:=by
  refine ⟨fun a ha=>?_⟩
  have ha':=ha.sub hE
  clear ha hE
  have key : ∀ m i,μ i=m→∀ a w,Ci i w→aE n (Ei i) a→∀ (b : Frame) (k : List Item) (cs : List Frame),
      ∃ e a' w',Q e a' w'∧Arrives P (lone (b.at a (.code c::.inLoop c::k)) cs w) b k cs e a' w':=by
    intro m
    induction m using Nat.strongRecOn with
    | _ m ih=>
      intro i hm a w hw ha b k cs
      obtain ⟨e,a₁,w₁,hq,harr⟩:=(h i w hw).go a ha b (.inLoop c::k) cs
      cases e with
      | normal=>
        obtain ⟨j,hw₁,hlt,ha₁⟩:=hq
        obtain ⟨e₂,a₂,w₂,hq₂,harr₂⟩:=ih (μ j) (hm ▸ hlt) j rfl a₁ w₁ hw₁ ha₁ b k cs
        exact ⟨e₂,a₂,w₂,hq₂,.of_steps (Steps.trans harr (.one step_inLoop)) harr₂⟩
      | exit id=>exact ⟨_,a₁,w₁,hq,.pass (x:=.inLoop c) rfl (fun _ _=>.inl (by simp)) harr⟩
      | goto l=>exact ⟨_,a₁,w₁,hq,.pass (x:=.inLoop c) rfl (fun _ _=>.inl (by simp)) harr⟩
      | ret=>exact ⟨_,a₁,w₁,hq,.pass (x:=.inLoop c) rfl (fun _ _=>.inl (by simp)) harr⟩
      | panic ch=>exact ⟨_,a₁,w₁,hq,.pass (x:=.inLoop c) rfl (fun _ _=>.inl (by simp)) harr⟩
      | outgrown=>exact ⟨_,a₁,w₁,hq,.pass (x:=.inLoop c) rfl (fun _ _=>.inl (by simp)) harr⟩
  intro b k cs
  obtain ⟨e,a',w',hq,harr⟩:=key _ i rfl a W hi ha' b k cs
  exact ⟨e,a',w',hq,.of_steps (.one step_loop) harr⟩
theorem FE.again {ι : Type} {Ei : ι→Env} {Ci : ι→World→Prop} {μ : ι→Nat} {i : ι} (j : ι) (hj : Ci j W) (hμ : μ j<μ i) (hE : ax E (Ei j)) :
    FE n W (Exit.then (fun a' w'=>∃ j,Ci j w'∧μ j<μ i∧aE n (Ei j) a') Q) .normal E:=⟨fun _ ha=>⟨j,hj,hμ,ha.sub hE⟩⟩
theorem FE.qm {fn : Func} {R : Ending→World→Prop} (hr : fn.results=#[]) (hR : R (.returned (.tuple #[])) W) : FE n W (bodyPost P fn R) .ret E:=⟨fun a ha=>⟨ha.defers,.tuple #[],by simp [results,hr],hR⟩⟩
theorem FE.jd {fn : Func} {R : Ending→World→Prop} (hr : fn.results=#[]) (hR : R (.returned (.tuple #[])) W) : FE n W (bodyPost P fn R) .normal E:=⟨fun a ha=>⟨ha.defers,.tuple #[],by simp [results,hr],hR⟩⟩
theorem sv {f : FuncId} {fn : Func} {c : Code} {vs : List Value} {R : Ending→World→Prop} (hf : P.funcs[f]?=some fn) (hb : fn.body=some c) (hn : fn.ntmps=n) (hl : Nat.ble vs.length n=true)
    (h : FC P n W (bodyPost P fn R) c (enum 0 vs)) : Calls P f vs.toArray W R:=by
  refine calls_of_wp hf hb (h.go _ ?_)
  rw [hn]
  exact aE.enter vs (by simpa using hl)
end
end Sl
end
section
namespace Sl
variable {Y : Type}
structure bg (Y : Type) where
  E0 : Env
  N : Nat
  v : Nat→Y→Value
  M : Nat→Y→List az
  need : Nat→List (Nat × Nat)
  gB : Nat→List Nat
  kK : Nat→List Nat
  src : Nat→Option Nat
  E1 : Nat→Env
  R : Nat→Y→Y→Prop
def bg.vD (g : bg Y) (l : List Oper) (i : Nat) : Bool:=
  (g.E1 i).all fun p=>(List.range l.length).all fun k=>ck l k != some p.1 || (k != i && bK l k i)
def bg.ir (g : bg Y) (l : List Oper) (i : Nat) (o : Oper) : Bool:=
  (((g.need i).all (fun p=>behind o p.1 && ck l p.1 == some p.2) && pP o (g.src i)) && g.vD l i) &&
  ((g.gB i).all (fun j=>decide (j<g.N) && (decide (l.length≤j) || behind o j)) &&
  ((g.kK i).all (fun j=>(g.gB i).contains j) &&
  ((List.range l.length).all (fun k=>k == i || (g.kK k).all fun j=>!(g.gB i).contains j || bK l k i) &&
  (fQ (g.gB i) && (o.after.toList.all (fun e=>!Region.binds .any e || decide (e.on<i)) && iq l g.E0 i o.dst)))))
def bg.cR (g : bg Y) (l : List Oper) : Nat→List Oper→Bool
  | _,[]=>true
  | i,o::r=>g.ir l i o && g.cR l (i+1) r
theorem bg.bU {g : bg Y} {l : List Oper} : ∀ {r : List Oper} {i : Nat},g.cR l i r=true→∀ {j o},r[j]?=some o→g.ir l (i+j) o=true
  | [],_,_,j,o,h=>by simp at h
  | q::r,i,hk,j,o,h=>by
    simp only [bg.cR,Bool.and_eq_true] at hk
    cases j with
    | zero=>
      simp only [List.getElem?_cons_zero,Option.some.injEq] at h
      subst h
      exact hk.1
    | succ j=>
      have:=bg.bU hk.2 (j:=j) (o:=o) (by simpa using h)
      rwa [show i+1+j=i+(j+1) by omega] at this
def bg.wB (g : bg Y) (P : Program) (n : Nat) (w0 : World) (S : List Nat) (l : List Oper) (i : Nat) (o : Oper) : Prop:=
  ∀ (x : Nat→Y) (EF : Env) (MF : List az) (Q : Exit→Act→World→Prop),
    (∀ xi : Y,(∀ k,g.src i=some k→g.R i xi (x k))→JE n w0 S Q .normal (slot o.dst (g.v i xi)++((g.need i).map (fun p=>(p.2,g.v p.1 (x p.1)))++(g.E0++(g.E1 i++EF)))) (g.M i xi++(((g.gB i).filter fun j=>!(g.kK i).contains j).flatMap (fun j=>g.M j (x j))++MF)))→
    JL P n w0 S l.toArray Q [o] ((g.need i).map (fun p=>(p.2,g.v p.1 (x p.1)))++(g.E0++(g.E1 i++EF))) ((g.gB i).flatMap (fun j=>g.M j (x j))++MF)
def bg.je (g : bg Y) (P : Program) (n : Nat) (w0 : World) (S : List Nat) (l : List Oper) : Nat→List Oper→Prop
  | _,[]=>True
  | i,o::r=>g.wB P n w0 S l i o∧g.je P n w0 S l (i+1) r
theorem bg.gC {g : bg Y} {P : Program} {n : Nat} {w0 : World} {S : List Nat} {l : List Oper} : ∀ {r : List Oper} {i : Nat},g.je P n w0 S l i r→∀ {j o},r[j]?=some o→g.wB P n w0 S l (i+j) o
  | [],_,_,j,o,h=>by simp at h
  | q::r,i,hk,j,o,h=>by
    cases j with
    | zero=>
      simp only [List.getElem?_cons_zero,Option.some.injEq] at h
      subst h
      exact hk.1
    | succ j=>
      have:=bg.gC hk.2 (j:=j) (o:=o) (by simpa using h)
      rwa [show i+1+j=i+(j+1) by omega] at this
def bg.live (g : bg Y) (m : Nat) (done : Array Bool) (j : Nat) : Prop:=j<g.N∧(m≤j∨done.getD j false=true)∧∀ k,done.getD k false=true→j ∉ g.kK k
structure bg.Inv (g : bg Y) (n : Nat) (w0 : World) (S : List Nat) (l : List Oper) (done : Array Bool) (x : Nat→Y) (a : Act) (w : World) : Prop where
  size : a.tmps.size=n
  defers : a.defers=[]
  jF : done.size=l.length
  base : ∀ p ∈ g.E0,a.tmps.getD p.1 undef=p.2
  first : ∀ j,j<l.length→done.getD j false=false→∀ p ∈ g.E1 j,a.tmps.getD p.1 undef=p.2
  vals : ∀ j d,done.getD j false=true→ck l j=some d→a.tmps.getD d undef=g.v j (x j)
  rel : ∀ j k,done.getD j false=true→g.src j=some k→g.R j (x j) (x k)
  down : ∀ j i,done.getD j false=true→bK l j i=true→done.getD i false=true
  mem : ec w0 S (g.live l.length done) (fun j=>g.M j (x j)) w
section
variable {P : Program} {n : Nat} {w0 : World} {S : List Nat} {Q : Exit→Act→World→Prop} {E : Env} {M : List az} {g : bg Y} {l : List Oper}
theorem bg.run (hok : g.cR l 0 l=true) (hj : g.je P n w0 S l 0 l)
    (hend : ∀ done x a w,g.Inv n w0 S l done x a w→(∀ j,j<l.length→done.getD j false=true)→Q .normal a w) :
    ∀ (f : Nat) (done : Array Bool) (x : Nat→Y) (a : Act) (w : World),f=(List.range l.length).countP (fun j=>!done.getD j false)→g.Inv n w0 S l done x a w→wpAny P .any l.toArray Q f done a w:=by
  have hrdy : ∀ done : Array Bool,done.size=l.length→Region.ready .any l.toArray done=[]→∀ j,j<l.length→done.getD j false=true:=by
    intro done hds hr j
    induction j using Nat.strongRecOn with
    | _ j ih=>
      intro hjl
      cases hd : done.getD j false with
      | true=>rfl
      | false=>
        obtain ⟨o,ho⟩ : ∃ o,l[j]?=some o:=⟨_,List.getElem?_eq_getElem hjl⟩
        have hk:=bg.bU hok ho
        simp only [bg.ir,Bool.and_eq_true,Nat.zero_add] at hk
        have hkk:=hk.2.2.2.2.2.1
        have : j ∈ Region.ready .any l.toArray done:=by
          rw [mem_ready]
          refine ⟨?_,o,by simpa using ho,fun e he hb=>?_⟩
          · rw [Array.getD_eq_getD_getElem?,Array.getElem?_eq_getElem (by omega)] at hd ⊢
            simpa using hd
          · have:=List.all_eq_true.1 hkk e (by simpa using he)
            simp only [hb,Bool.not_true,Bool.false_or,decide_eq_true_eq] at this
            exact ih e.on this (by omega)
        rw [hr] at this
        cases this
  intro f
  induction f with
  | zero=>
    intro done x a w hf hI
    have hall : ∀ j,j<l.length→done.getD j false=true:=fun j hjl=>by
      have:=List.countP_eq_zero.1 hf.symm j (List.mem_range.2 hjl)
      simpa using this
    refine ⟨?_,hend done x a w hI hall⟩
    refine List.eq_nil_iff_forall_not_mem.2 fun i hi=>?_
    obtain ⟨hu,o,ho,_⟩:=mem_ready.1 hi
    have hil : i<l.length:=by
      have:=(Array.getElem?_eq_some_iff.1 ho).1
      simpa using this
    have:=hall i hil
    rw [Array.getD_eq_getD_getElem?,Array.getElem?_eq_getElem (by have:=hI.jF;omega)] at hu this
    simp only [Option.getD_some] at hu this
    rw [hu] at this
    cases this
  | succ f ih=>
    intro done x a w hf hI
    have hds:=hI.jF
    refine ⟨fun h0=>hend done x a w hI (hrdy done hds h0),fun i hi=>?_⟩
    obtain ⟨hu,o,ho,hbe⟩:=mem_ready.1 hi
    have hil : i<l.length:=by
      have:=(Array.getElem?_eq_some_iff.1 ho).1
      simpa using this
    have ho' : l[i]?=some o:=by simpa using ho
    have hu' : done.getD i false=false:=by
      rw [Array.getD_eq_getD_getElem?,Array.getElem?_eq_getElem (by omega)] at hu ⊢
      simpa using hu
    have hk:=bg.bU hok ho'
    simp only [bg.ir,Bool.and_eq_true,Nat.zero_add] at hk
    obtain ⟨⟨⟨k1,k8⟩,k9⟩,k2,k3,k4,k5,_,k7⟩:=hk
    have hbeh : ∀ j,behind o j=true→done.getD j false=true:=fun j hj=>by
      simp only [behind,List.any_eq_true,Bool.and_eq_true,beq_iff_eq] at hj
      obtain ⟨e,he,rfl,hb⟩:=hj
      exact hbe e (by simpa using he) hb
    have hbi : ∀ k,bK l k i=true→done.getD k false=false:=fun k hk=>by
      cases h : done.getD k false with
      | false=>rfl
      | true=>have:=hI.down k i h hk;rw [hu'] at this;cases this
    have hinp : ∀ j ∈ g.gB i,g.live l.length done j:=by
      intro j hj
      have h2:=List.all_eq_true.1 k2 j hj
      simp only [Bool.and_eq_true,Bool.or_eq_true,decide_eq_true_eq] at h2
      refine ⟨h2.1,h2.2.imp id (hbeh j),fun k hkd hjk=>?_⟩
      have hkl : k<l.length:=by
        by_cases h : k<l.length
        · exact h
        · rw [Array.getD_eq_getD_getElem?,Array.getElem?_eq_none (by omega)] at hkd
          cases hkd
      have h4:=List.all_eq_true.1 k4 k (List.mem_range.2 hkl)
      have hki : k≠i:=fun e=>by rw [e,hu'] at hkd;cases hkd
      simp only [Bool.or_eq_true,beq_iff_eq,hki,false_or] at h4
      have h5:=List.all_eq_true.1 h4 j hjk
      simp only [Bool.or_eq_true,Bool.not_eq_true',List.contains_eq_mem,decide_eq_false_iff_not,hj,not_true,false_or] at h5
      rw [hbi k h5] at hkd
      cases hkd
    have hdone_ne : ∀ j,done.getD j false=true→j≠i:=fun j hj e=>by rw [e,hu'] at hj;cases hj
    have hlen : ∀ k,done.getD k false=true→k<l.length:=fun k hkd=>by
      by_cases h : k<l.length
      · exact h
      · rw [Array.getD_eq_getD_getElem?,Array.getElem?_eq_none (by omega)] at hkd
        cases hkd
    have hdi : ck l i=o.dst:=by simp [ck,ho']
    have hne : ∀ j d,done.getD j false=true→ck l j=some d→o.dst≠some d:=by
      intro j d hjd hd he
      rw [he] at k7
      simp only [iq,Bool.and_eq_true] at k7
      have:=List.all_eq_true.1 k7.1 j (List.mem_range.2 (hlen j hjd))
      simp [hdone_ne j hjd,hd] at this
    have hne0 : ∀ p ∈ g.E0,o.dst≠some p.1:=by
      intro p hp he
      rw [he] at k7
      simp only [iq,Bool.and_eq_true] at k7
      have:=List.all_eq_true.1 k7.2 p hp
      simp at this
    let rest : List Nat:=(List.range g.N).filter fun j=>@decide (g.live l.length done j) (Classical.propDecidable _) && !(g.gB i).contains j
    have hrest : ∀ j,j ∈ rest↔g.live l.length done j∧j ∉ g.gB i:=by
      intro j
      simp only [rest,List.mem_filter,List.mem_range,Bool.and_eq_true,Bool.not_eq_true',List.contains_eq_mem,decide_eq_false_iff_not]
      refine ⟨fun ⟨_,h2,h3⟩=>⟨@of_decide_eq_true _ (Classical.propDecidable _) h2,h3⟩,fun ⟨h2,h3⟩=>⟨h2.1,@decide_eq_true _ (Classical.propDecidable _) h2,h3⟩⟩
    have hnd : (g.gB i++rest).Nodup:=by
      rw [List.nodup_append]
      refine ⟨eF k5,List.nodup_range.filter _,fun a ha b hb e=>?_⟩
      exact ((hrest b).1 hb).2 (e ▸ ha)
    have H1:=hI.mem.to (g.gB i++rest) hnd (fun j hj=>by
      rcases List.mem_append.1 hj with h | h
      · exact hinp j h
      · exact ((hrest j).1 h).1)
    rw [List.flatMap_append] at H1
    let EF0 : Env:=(List.range l.length).filterMap fun j=>if done.getD j false=true then (ck l j).map (fun d=>(d,g.v j (x j))) else none
    let EF1 : Env:=(List.range l.length).flatMap fun j=>if done.getD j false=true then [] else g.E1 j
    let EF : Env:=EF0++EF1
    have hEF : ∀ p,p ∈ EF0↔∃ j d,done.getD j false=true∧ck l j=some d∧p=(d,g.v j (x j)):=by
      intro p
      simp only [EF0,List.mem_filterMap,List.mem_range]
      constructor
      · rintro ⟨j,_,hp⟩
        split at hp
        · rename_i hjd
          obtain ⟨d,hd,rfl⟩:=Option.map_eq_some_iff.1 hp
          exact ⟨j,d,hjd,hd,rfl⟩
        · cases hp
      · rintro ⟨j,d,hjd,hd,rfl⟩
        exact ⟨j,hlen j hjd,by rw [if_pos hjd,hd];rfl⟩
    have hEF1 : ∀ j,j<l.length→done.getD j false=false→∀ p ∈ g.E1 j,p ∈ EF1:=by
      intro j hjl hjd p hp
      simp only [EF1,List.mem_flatMap,List.mem_range]
      exact ⟨j,hjl,by rw [if_neg (by rw [hjd];decide)];exact hp⟩
    have hne1 : ∀ j,j<l.length→done.getD j false=false→∀ p ∈ g.E1 j,o.dst≠some p.1:=by
      intro j hjl hjd p hp he
      have hjo : l[j]?=some (l[j]'hjl):=List.getElem?_eq_getElem hjl
      have hkj:=bg.bU hok hjo
      simp only [bg.ir,Bool.and_eq_true,Nat.zero_add] at hkj
      have h9:=List.all_eq_true.1 hkj.1.2 p hp
      have h10:=List.all_eq_true.1 h9 i (List.mem_range.2 hil)
      simp only [hdi,he,bne_self_eq_false,Bool.false_or,Bool.and_eq_true] at h10
      have h11 : behind o j=true:=by simpa [bK,ho'] using h10.2
      rw [hbeh j h11] at hjd
      cases hjd
    have hneed : ∀ p ∈ g.need i,done.getD p.1 false=true∧ck l p.1=some p.2:=by
      intro p hp
      have h1:=List.all_eq_true.1 k1 p hp
      simp only [Bool.and_eq_true,beq_iff_eq] at h1
      exact ⟨hbeh _ h1.1,h1.2⟩
    have hK : ∀ p ∈ ((g.need i).map (fun p=>(p.2,g.v p.1 (x p.1)))++(g.E0++(g.E1 i++EF))),a.tmps.getD p.1 undef=p.2∧o.dst≠some p.1:=by
      intro p hp
      rcases List.mem_append.1 hp with h | h
      · obtain ⟨q,hq,rfl⟩:=List.mem_map.1 h
        obtain ⟨h1,h2⟩:=hneed q hq
        exact ⟨hI.vals _ _ h1 h2,hne _ _ h1 h2⟩
      · rcases List.mem_append.1 h with h | h
        · exact ⟨hI.base p h,hne0 p h⟩
        · rcases List.mem_append.1 h with h | h
          · exact ⟨hI.first i hil hu' p h,hne1 i hil hu' p h⟩
          · rcases List.mem_append.1 h with h | h
            · obtain ⟨j,d,h1,h2,rfl⟩:=(hEF p).1 h
              exact ⟨hI.vals _ _ h1 h2,hne _ _ h1 h2⟩
            · simp only [EF1,List.mem_flatMap,List.mem_range] at h
              obtain ⟨j,hjl,h⟩:=h
              cases hjd : done.getD j false with
              | true=>rw [hjd] at h;simp at h
              | false=>
                rw [hjd] at h
                simp only [Bool.false_eq_true,if_false] at h
                exact ⟨hI.first j hjl hjd p h,hne1 j hjl hjd p h⟩
    have job:=bg.gC hj ho'
    rw [Nat.zero_add] at job
    refine eE ho ((job x EF (rest.flatMap fun j=>g.M j (x j)) _ fun xi hxi=>⟨fun a' w' hK' hH'=>?_⟩).go a w (aE.of hI.size hI.defers fun p hp=>(hK p hp).1) H1)
    have hd' : ∀ j,(done.setIfInBounds i true).getD j false=(decide (j=i) || done.getD j false):=fun j=>mL (by omega)
    refine ih _ (fun j=>if j=i then xi else x j) a' w' ?_ ?_
    · have:=jE (l:=List.range l.length) (p:=fun j=>!done.getD j false) (q:=fun j=>!(done.setIfInBounds i true).getD j false) (i:=i) List.nodup_range (List.mem_range.2 hil) (by simp only [hu'];rfl) (by simp only [hd'];simp) (fun j hj=>by simp only [hd'];simp [hj])
      omega
    · have hmem : ∀ p ∈ (slot o.dst (g.v i xi)++((g.need i).map (fun p=>(p.2,g.v p.1 (x p.1)))++(g.E0++(g.E1 i++EF)))),a'.tmps.getD p.1 undef=p.2:=by
        intro p hp
        refine hK'.mem (f:=fun t=>if o.dst=some t then g.v i xi else a.tmps.getD t undef) (fun q hq=>?_) hp
        rcases List.mem_append.1 hq with h | h
        · cases hod : o.dst with
          | none=>rw [hod] at h;cases h
          | some d=>
            rw [hod] at h
            simp only [slot,List.mem_singleton] at h
            subst h
            simp
        · have:=hK q h
          simp only [this.2,if_false]
          exact this.1
      refine ⟨hK'.size,hK'.defers,by simp [hds],fun p hp=>hmem p (by simp [hp]),fun j hjl hjd p hp=>?_,?_,?_,?_,?_⟩
      · rw [hd'] at hjd
        simp only [Bool.or_eq_false_iff] at hjd
        exact hmem p (List.mem_append_right _ (List.mem_append_right _ (List.mem_append_right _ (List.mem_append_right _ (List.mem_append_right _ (hEF1 j hjl hjd.2 p hp))))))
      · intro j d hjd hd
        by_cases e : j=i
        · subst e
          rw [hdi] at hd
          have:=hmem (d,g.v j xi) (by simp [hd,slot])
          simpa using this
        · rw [hd'] at hjd
          simp only [e,decide_false,Bool.false_or] at hjd
          have:=hmem (d,g.v j (x j)) (List.mem_append_right _ (List.mem_append_right _ (List.mem_append_right _ (List.mem_append_right _ (List.mem_append_left _ ((hEF _).2 ⟨j,d,hjd,hd,rfl⟩))))))
          simpa [e] using this
      · intro j k hjd hs
        rw [hd'] at hjd
        by_cases e : j=i
        · subst e
          rw [hs] at k8
          simp only [if_true,hdone_ne k (hbeh k k8),if_false]
          exact hxi k hs
        · simp only [e,decide_false,Bool.false_or] at hjd
          have hjo : l[j]?=some (l[j]'(hlen j hjd)):=List.getElem?_eq_getElem (hlen j hjd)
          have hkj:=bg.bU hok hjo
          simp only [bg.ir,Bool.and_eq_true,Nat.zero_add] at hkj
          have h8:=hkj.1.1.2
          rw [hs] at h8
          have hkd:=hI.down j k hjd (by simpa [bK,hjo,pP] using h8)
          simp only [e,hdone_ne k hkd,if_false]
          exact hI.rel j k hjd hs
      · intro j i' hjd hb
        rw [hd'] at hjd ⊢
        by_cases e : j=i
        · subst e
          have : behind o i'=true:=by simpa [bK,ho'] using hb
          simp [hbeh i' this]
        · simp only [e,decide_false,Bool.false_or] at hjd
          simp [hI.down j i' hjd hb]
      · have hnl : ¬ g.live l.length done i:=fun h=>by
          rcases h.2.1 with h | h
          · omega
          · rw [hu'] at h;cases h
        have hcg : ∀ L : List Nat,(∀ j ∈ L,g.live l.length done j)→L.flatMap (fun j=>g.M j (if j=i then xi else x j))=L.flatMap fun j=>g.M j (x j):=by
          intro L
          induction L with
          | nil=>simp
          | cons j L ih=>
            intro h
            have hji : j≠i:=fun e=>hnl (e ▸ h j (by simp))
            simp only [List.flatMap_cons,hji,if_false,ih fun k hk=>h k (by simp [hk])]
        refine ec.of (Js:=i::(((g.gB i).filter fun j=>!(g.kK i).contains j)++rest)) ?_ ?_
        · rw [List.flatMap_cons,List.flatMap_append,hcg _ (fun j hj=>hinp j (List.mem_filter.1 hj).1),hcg rest (fun j hj=>((hrest j).1 hj).1)]
          simpa using hH'
        · intro j hj
          by_cases e : j=i
          · simp [e]
          · have hl : g.live l.length done j:=by
              refine ⟨hj.1,hj.2.1.imp id (fun h=>?_),fun k hk=>hj.2.2 k (by rw [hd'];simp [hk])⟩
              rw [hd'] at h
              simpa [e] using h
            have hne : j ∉ g.kK i:=hj.2.2 i (by rw [hd'];simp)
            by_cases hji : j ∈ g.gB i
            · simp [e,hji,hne]
            · have:=(hrest j).2 ⟨hl,hji⟩
              simp [e,this]
theorem iz [Inhabited Y] (g : bg Y) (outs : List (Nat × Nat)) (ends : List Nat) (hE : ax E g.E0) (hE1 : ∀ i,i<l.length→ax E (g.E1 i)) (hM : aA (((List.range g.N).filter fun j=>decide (l.length≤j)).flatMap fun j=>g.M j default) M)
    (hok : g.cR l 0 l=true) (ho : (outs.all fun p=>decide (p.1<l.length) && ck l p.1 == some p.2)=true)
    (he : (fQ ends && ends.all fun j=>decide (j<g.N) && (List.range l.length).all fun k=>!(g.kK k).contains j)=true)
    (hj : g.je P n w0 S l 0 l)
    (k : ∀ x : Nat→Y,(∀ j k,j<l.length→g.src j=some k→g.R j (x j) (x k))→JE n w0 S Q .normal (outs.map (fun p=>(p.2,g.v p.1 (x p.1)))++g.E0) (ends.flatMap fun j=>g.M j (x j))) {a : Act} {w : World} (ha : aE n E a) (hw : aa w0 S M w) : wpAny P .any l.toArray Q l.toArray.size (Array.replicate l.toArray.size false) a { w with drawn:=w.drawn+1 }:=by
    have hw':=(hw.drawn (w.drawn+1)).weak hM
    simp only [Bool.and_eq_true] at he
    refine bg.run hok hj (fun done x a w hI hall=>?_) _ _ (fun _=>default) a _ ?_ ?_
    · refine (k x fun j k hj hs=>hI.rel j k (hall j hj) hs).go a w (aE.of hI.size hI.defers fun p hp=>?_) (hI.mem.to ends (eF he.1) fun j hj=>?_)
      · rcases List.mem_append.1 hp with h | h
        · obtain ⟨q,hq,rfl⟩:=List.mem_map.1 h
          have:=List.all_eq_true.1 ho q hq
          simp only [Bool.and_eq_true,decide_eq_true_eq,beq_iff_eq] at this
          exact hI.vals _ _ (hall _ this.1) this.2
        · exact hI.base p h
      · have:=List.all_eq_true.1 he.2 j hj
        simp only [Bool.and_eq_true,decide_eq_true_eq] at this
        refine ⟨this.1,?_,fun k hk hjk=>?_⟩
        · by_cases h : l.length≤j
          · exact .inl h
          · exact .inr (hall j (by omega))
        · have hkl : k<l.length:=by
            by_cases h : k<l.length
            · exact h
            · have:=hI.jF
              rw [Array.getD_eq_getD_getElem?,Array.getElem?_eq_none (by omega)] at hk
              cases hk
          have:=List.all_eq_true.1 this.2 k (List.mem_range.2 hkl)
          simp [hjk] at this
    · have : ∀ j,(Array.replicate l.toArray.size false).getD j false=false:=fun j=>by
        simp only [Array.getD_eq_getD_getElem?,Array.getElem?_replicate]
        split <;> rfl
      rw [List.countP_eq_length.2 (fun j _=>by simp only [this];rfl)]
      simp
    · have hf : ∀ j,(Array.replicate l.toArray.size false).getD j false=false:=fun j=>by
        simp only [Array.getD_eq_getD_getElem?,Array.getElem?_replicate]
        split <;> rfl
      refine ⟨ha.size,ha.defers,by simp,fun p hp=>ha.all _ _ (hE.all p hp),fun j hj _ p hp=>ha.all _ _ ((hE1 j hj).all p hp),fun j d h=>?_,fun j k h=>?_,fun j i h=>?_,?_⟩
      · rw [hf] at h;cases h
      · rw [hf] at h;cases h
      · rw [hf] at h;cases h
      · refine ec.of hw' fun j hj=>?_
        rw [List.mem_filter]
        refine ⟨List.mem_range.2 hj.1,?_⟩
        rcases hj.2.1 with h | h
        · simpa using h
        · rw [hf] at h;cases h
theorem JC.fS [Inhabited Y] (g : bg Y) (outs : List (Nat × Nat)) (ends : List Nat) {id : Nat} (hm : P.follows .mixedOrders=true) (hE : ax E g.E0) (hE1 : ∀ i,i<l.length→ax E (g.E1 i)) (hM : aA (((List.range g.N).filter fun j=>decide (l.length≤j)).flatMap fun j=>g.M j default) M)
    (hok : g.cR l 0 l=true) (ho : (outs.all fun p=>decide (p.1<l.length) && ck l p.1 == some p.2)=true)
    (he : (fQ ends && ends.all fun j=>decide (j<g.N) && (List.range l.length).all fun k=>!(g.kK k).contains j)=true)
    (hj : g.je P n w0 S l 0 l)
    (k : ∀ x : Nat→Y,(∀ j k,j<l.length→g.src j=some k→g.R j (x j) (x k))→JE n w0 S Q .normal (outs.map (fun p=>(p.2,g.v p.1 (x p.1)))++g.E0) (ends.flatMap fun j=>g.M j (x j))) : JC P n w0 S Q (.region id l.toArray true) E M:=
  ⟨fun a w ha hw=>wp_region_any hm (iz g outs ends hE hE1 hM hok ho he hj k ha hw)⟩
end
end Sl
end
section
namespace Sl
section
variable {P : Program} {m l : Nat}
theorem jQ {ops : Array Oper} {Q : Exit→Act→World→Prop} {i : Nat} {K K' : Act→World→Prop} {a : Act} {w : World} (hd : ops.toList.all c4=true) (hQ : ¬ LetsOut Q) (hK : ∀ a w,K a w→K' a w) (h : wpOp P ops Q i K a w) : wpOpIn (Rd l) m P ops Q i K' a w:=by
  unfold wpOp at h
  unfold wpOpIn
  cases ho : ops[i]? with
  | none=>rw [ho] at h;exact hK _ _ h
  | some o=>
    rw [ho] at h
    have hno : c4 o=true:=List.all_eq_true.1 hd o (by
      have:=Array.mem_of_getElem? ho
      exact Array.mem_toList_iff.2 this)
    dsimp only at h ⊢
    by_cases hw : Region.wanted o (yielded ops a.tmps)=true
    · rw [if_pos hw] at h ⊢
      rcases h with h | h
      · exact jO hno hQ hK h
      · exact absurd h.2 hQ
    · rw [if_neg hw] at h ⊢
      exact ⟨fun _ _=>trivial,hK _ _ h⟩
theorem ep {md : Region.Mode} {ops : Array Oper} {Q : Exit→Act→World→Prop} (hd : ops.toList.all c4=true) (hQ : ¬ LetsOut Q) : ∀ (fuel : Nat) (listed : Array Bool) (a : Act) (w : World),wpAny P md ops Q fuel listed a w→wpAnyIn (Rd l) m P md ops Q fuel listed a w
  | 0,_,_,_,h=>h
  | fuel+1,listed,a,w,h=>⟨h.1,fun i hi=>jQ hd hQ (fun a w=>ep hd hQ fuel _ a w) (h.2 i hi)⟩
end
section
variable {P : Program} {n : Nat} {w0 : World} {S : List Nat} {Q Q' : Exit→Act→World→Prop} {E : Env} {M : List az} {m r : Nat}
theorem JR.fS {Y : Type} {l : List Oper} [Inhabited Y] (g : bg Y) (outs : List (Nat × Nat)) (ends : List Nat) {id : Nat} (hd : l.all c4=true) (hQ : ¬ LetsOut Q) (hm : P.follows .mixedOrders=true) (hE : ax E g.E0) (hE1 : ∀ i,i<l.length→ax E (g.E1 i)) (hM : aA (((List.range g.N).filter fun j=>decide (l.length≤j)).flatMap fun j=>g.M j default) M)
    (hok : g.cR l 0 l=true) (ho : (outs.all fun p=>decide (p.1<l.length) && ck l p.1 == some p.2)=true)
    (he : (fQ ends && ends.all fun j=>decide (j<g.N) && (List.range l.length).all fun k=>!(g.kK k).contains j)=true)
    (hj : g.je P n w0 S l 0 l)
    (k : ∀ x : Nat→Y,(∀ j k,j<l.length→g.src j=some k→g.R j (x j) (x k))→JE n w0 S Q .normal (outs.map (fun p=>(p.2,g.v p.1 (x p.1)))++g.E0) (ends.flatMap fun j=>g.M j (x j))) : JR P n w0 S r m Q (.region id l.toArray true) E M:=
  ⟨fun a w ha hw=>wpIn_region_any hm (ep (by simpa using hd) hQ _ _ _ _ (iz g outs ends hE hE1 hM hok ho he hj k ha hw))⟩
theorem JR.cond {c : Operand} {x y : Code} {t : Bool} (hc : ev E c=some (.bool t)) (ht : t=true→JR P n w0 S r m Q x E M) (hf : t=false→JR P n w0 S r m Q y E M) : JR P n w0 S r m Q (.cond c x y) E M:=
  ⟨fun a w ha hw=>wpIn_cond_split (ha.eval hc) (fun h=>(ht h).go a w ha hw) (fun h=>(hf h).go a w ha hw)⟩
theorem JR.skip (h : JE n w0 S Q .normal E M) : JR P n w0 S r m Q .skip E M:=⟨fun a w ha hw=>wpIn_skip (h.go a w ha hw)⟩
theorem JR.ret (h : JE n w0 S Q .ret E M) : JR P n w0 S r m Q .ret E M:=⟨fun a w ha hw=>wpIn_ret (h.go a w ha hw)⟩
theorem JR.less {c : Code} {M' : List az} (hM : aA M' M) (h : JR P n w0 S r m Q c E M') : JR P n w0 S r m Q c E M:=⟨fun a w ha hw=>h.go a w ha (hw.weak hM)⟩
theorem JR.perm {c : Code} {M' : List az} (hp : M.Perm M') (h : JR P n w0 S r m Q c E M') : JR P n w0 S r m Q c E M:=⟨fun a w ha hw=>h.go a w ha (hw.perm hp)⟩
end
section
variable {P : Program} {D n : Nat} {w0 : World} {S : List Nat} {ops : Array Oper} {Q Q' : Exit→Act→World→Prop} {os : List Oper} {E : Env} {M : List az} {d : Nat} {op : Op} {ty : TypeId} {pos : String} {aft : Array Edge} {v : Value}
theorem KL.aK {M' : List az} {r r' : List Value} {e t : TypeId} {x y : Operand} {b j : Nat} (hz : dw P t=some 1) (hx : ev E x=some (.pointer (some ⟨b,j,none⟩))) (hy : ev E y=some v) (hv : v.oneCell'=true) (hcl : v.cells=#[v]) (hu : jc M b (Row e r) (Row e r') M') (hj : j<r.length) (he : r.set j v=r')
    (k : KL P D n w0 S ops Q os E M') : KL P D n w0 S ops Q (⟨none,.store t x y,ty,pos,aft,none⟩::os) E M:=
  ⟨fun a w ha hw=>wpList_plain rfl fun K hK=>by
    obtain ⟨o,ho,hAo⟩:=hw.get hu.has
    cases hAo
    have hA' : Row e r' (.cells (r.toArray.setIfInBounds j v) e (0,0)):=by simp [Row,he]
    have hs : (storeCells ⟨b,j,none⟩ [v] 0).run P w=.ok () (w.setCell ⟨b,j,none⟩ v):=by
      simp only [storeCells,Sem.run_bind,bh,Nat.add_zero]
      rw [fC hv ho (by simpa using hj)];rfl
    have h1 : (execOp a.eval ⟨none,.store t x y,ty,pos,aft,none⟩).run P w=.ok .skip (w.setCell ⟨b,j,none⟩ v):=by
      simp [execOp,ha.eval hx,ha.eval hy,Instr.storeAt,Instr.sureAddr,Sem.run_bind,storeVar,aL hz,hcl,hs]
    unfold Oper.wp
    rw [h1]
    exact hK _ _ (k.go _ _ ⟨ha.defers,ha.base⟩ (hw.write hu hA' (dx ho) cQ (fun _ h=>cZ h) rfl rfl rfl))⟩
theorem KE.aI {id : Nat} (h : KE D n w0 S Q .ret E M) : KE D n w0 S (Exit.inBlock id Q) .ret E M:=⟨h.go⟩
theorem KE.sw {m : Nat} {fn : Func} {R : Ending→World→Prop} {r1 r2 : ResultVar} {v1 v2 : Value} (hr : fn.results=#[r1,r2]) (h1 : RV P n w0 S E M r1 v1) (h2 : RV P n w0 S E M r2 v2) (hR : ∀ w,aa w0 S M w→R (.returned (.tuple #[v1,v2])) w) : KE D n w0 S (bodyPostM Fence.wide m P fn R) .ret E (⟨D,fN,true⟩::M):=by
  refine ⟨fun a w ha hw=>iP (v:=.tuple #[v1,v2]) ha hw (fun w' hw'=>?_) hR⟩
  have e1:=h1 _ w' ha.base hw'
  have e2:=h2 _ w' ha.base hw'
  dsimp only at e1 e2
  rw [dH,hr]
  simp [e1,e2,Sem.run_bind]
end
def fY {ι κ : Type} (Mi : ι→List az) (Inv : Nat→ι→Prop) (Mx : κ→List az) (Fin : κ→Prop) (k : Nat) (w1 : World) (S1 : List Nat) : Exit→Act→World→Prop
  | .normal,_,W'=>∃ j,Inv (k+1) j∧aa w1 S1 (Mi j) W'
  | .ret,_,W'=>∃ x,Fin x∧aa w1 S1 (Mx x) W'
  | _,_,_=>False
theorem af {ι κ : Type} {Mi : ι→List az} {Inv : Nat→ι→Prop} {Mx : κ→List az} {Fin : κ→Prop} {k : Nat} {w1 : World} {S1 : List Nat} : ¬ LetsOut (fY Mi Inv Mx Fin k w1 S1):=fun ⟨_,_,h⟩=>h
section
variable {ι κ : Type} {Mi : ι→List az} {Inv : Nat→ι→Prop} {Mx : κ→List az} {Fin : κ→Prop} {k n : Nat} {w1 : World} {S1 : List Nat} {E : Env} {M : List az}
theorem JE.fZ (j : ι) (hj : Inv (k+1) j) (hM : aA (Mi j) M) : JE n w1 S1 (fY Mi Inv Mx Fin k w1 S1) .normal E M:=⟨fun _ _ _ hw=>⟨j,hj,hw.weak hM⟩⟩
theorem JE.fY (x : κ) (hx : Fin x) (hM : aA (Mx x) M) : JE n w1 S1 (fY Mi Inv Mx Fin k w1 S1) .ret E M:=⟨fun _ _ _ hw=>⟨x,hx,hw.weak hM⟩⟩
end
theorem jq (a : Act) (p1 p2 : Nat) (v1 v2 : Value) (hd : a.defers=[]) : ({ tmps:=(#[p1,p2].zip #[v1,v2]).foldl (fun t (x : Nat × Value)=>t.setIfInBounds x.1 x.2) a.tmps,defers:=[] } : Act)=(a.put (some p1) v1).put (some p2) v2:=by
  obtain ⟨tm,df⟩:=a
  simp only at hd
  subst hd
  simp [Act.put]
theorem aa.mark {w0 W : World} {M : List az} {D : Nat} (h : aa w0 [] M W) (hc : ∀ e ∈ M,∀ o,e.A o→o.isCells=true) (hD : w0.heap.size≤D) (hk : W.heap[D]?=some (.deferred (some []))) : aa w0 [] (⟨D,fN,true⟩::M) W:=by
  refine ⟨h.aC,?_,fun e he=>?_⟩
  · simp only [List.map_cons,List.nodup_cons,h.nodup,and_true]
    intro hm
    obtain ⟨e,he,hb⟩:=List.mem_map.1 hm
    obtain ⟨o,ho,hA⟩:=(h.all e he).1
    rw [hb,hk] at ho
    cases ho
    have:=hc e he _ hA
    cases this
  · rcases List.mem_cons.1 he with rfl | he
    · exact ⟨⟨_,hk,rfl⟩,fun _=>.inr hD⟩
    · exact h.all e he
theorem kC {P : Program} {n l m : Nat} {Q : Exit→Act→World→Prop} {E : Env} {a : Act} {W : World} {id p d : Nat} {ty : TypeId} {pos : String} {v : Value} (hx : lk E p=some v) (ha : aE n E a) (hK : Q .normal (a.put (some d) v) W) :
    (Code.region id #[⟨some d,.assign (.tmp p),ty,pos,#[],none⟩] false).wpIn (Rd l) m P Q a W:=by
  refine wpIn_region_lit (wpListIn_plain rfl fun K' hK'=>⟨fun _ _=>trivial,?_⟩)
  have he : a.eval (.tmp p)=v:=ha.eval (x:=.tmp p) hx
  have hs : Oper.semAt (Rd l).round a.eval ⟨some d,.assign (.tmp p),ty,pos,#[],none⟩=.pure (.value v):=by
    refine (Oper.semAt_some l _ _ ?_).trans ?_
    · intro c h;cases h
    show Sem.pure (Next.value (_ : Value))=_
    exact congrArg (fun v=>Sem.pure (Next.value v)) he
  show Oper.uponIn _ _ _ _ _ _ _ ((Oper.semAt (Rd l).round _ _).run P W)
  rw [hs]
  exact hK' _ _ (wpListIn_nil hK)
end Sl
end
section
set_option maxRecDepth 10000
open Go.RowKit
namespace Sl
theorem aa.gK {w0 w w' : World} {S : List Nat} {M M' : List az} (h : aa w0 S M w) (h' : aa w (gJ M) M' w') : aa w0 S M' w':=by
  have hs : ∀ k ∈ gJ M,k ∈ S∨w0.heap.size≤k:=fun k hk=>by
    obtain ⟨e,he,hw,rfl⟩:=dS.1 hk
    exact (h.all e he).2 hw
  refine ⟨⟨h'.aC.os.trans h.aC.os,h'.aC.tape.trans h.aC.tape,h'.aC.output.trans h.aC.output,Nat.le_trans h.aC.size h'.aC.size,fun k hk hS=>?_⟩,h'.nodup,fun e he=>⟨(h'.all e he).1,fun hw=>?_⟩⟩
  · refine (h'.aC.block k (Nat.lt_of_lt_of_le hk h.aC.size) fun hm=>?_).trans (h.aC.block k hk hS)
    rcases hs k hm with h | h
    · exact hS h
    · omega
  · rcases (h'.all e he).2 hw with hk | hk
    · exact hs _ hk
    · exact .inr (Nat.le_trans h.aC.size hk)
theorem aa.gh {w0 W W' : World} {S : List Nat} {M : List az} {row : Option Nat} (h : aa w0 S M W) (hc : ∀ e ∈ M,∀ o,e.A o→o.isCells=true) (hg : W.grownBy W' row) (hr : ∀ k,row=some k→w0.heap.size≤k∧∃ o : Obj,W.heap[k]?=some o∧o.isCells=false) : aa w0 S M W':=by
  refine ⟨⟨hg.os.trans h.aC.os,hg.tape.trans h.aC.tape,hg.output.trans h.aC.output,Nat.le_trans h.aC.size hg.size,fun k hk hS=>?_⟩,h.nodup,fun e he=>⟨?_,(h.all e he).2⟩⟩
  · exact (hg.block k (Nat.lt_of_lt_of_le hk h.aC.size) (fun e=>by have:=(hr k e.symm).1;omega)).trans (h.aC.block k hk hS)
  · obtain ⟨o,ho,hA⟩:=(h.all e he).1
    refine ⟨o,(hg.block e.b (h.lt he) fun e'=>?_).trans ho,hA⟩
    obtain ⟨_,o2,ho2,hn⟩:=hr _ e'.symm
    rw [ho] at ho2
    cases ho2
    rw [hc e he o hA] at hn
    cases hn
theorem aa.vk {w0 W : World} {S : List Nat} {M : List az} {D : Nat} (h : aa w0 S M W) (hc : ∀ e ∈ M,∀ o,e.A o→o.isCells=true) (hD : w0.heap.size≤D) (hk : W.heap[D]?=some (.deferred (some []))) : aa w0 S (⟨D,fN,true⟩::M) W:=by
  refine ⟨h.aC,?_,fun e he=>?_⟩
  · simp only [List.map_cons,List.nodup_cons,h.nodup,and_true]
    intro hm
    obtain ⟨e,he,hb⟩:=List.mem_map.1 hm
    obtain ⟨o,ho,hA⟩:=(h.all e he).1
    rw [hb,hk] at ho
    cases ho
    have:=hc e he _ hA
    cases this
  · rcases List.mem_cons.1 he with rfl | he
    · exact ⟨⟨_,hk,rfl⟩,fun _=>.inr hD⟩
    · exact h.all e he
def vK {ι : Type} (n : Nat) (I : ι→Prop) (Ei : ι→Env) (Mi : ι→List az) (w1 : World) (S1 : List Nat) : Exit→Act→World→Prop
  | .normal,a,W'=>∃ i,I i∧aE n (Ei i) a∧aa w1 S1 (Mi i) W'
  | _,_,_=>False
theorem dz {ι : Type} {n : Nat} {I : ι→Prop} {Ei : ι→Env} {Mi : ι→List az} {w1 : World} {S1 : List Nat} : ¬ LetsOut (vK n I Ei Mi w1 S1):=fun ⟨_,_,h⟩=>h
theorem JE.qx {ι : Type} {n : Nat} {I : ι→Prop} {Ei : ι→Env} {Mi : ι→List az} {w1 : World} {S1 : List Nat} {E : Env} {M : List az} (i : ι) (hi : I i) (hE : ax E (Ei i)) (hM : aA (Mi i) M) : JE n w1 S1 (vK n I Ei Mi w1 S1) .normal E M:=⟨fun _ _ ha hw=>⟨i,hi,ha.sub hE,hw.weak hM⟩⟩
end Sl
end
section
open Go.RowKit
namespace Sl
abbrev BP:=Nat→Prop
structure cW (O : BP) (W W' : World) : Prop where
  os : W'.os=W.os
  tape : W'.tape=W.tape
  output : W'.output=W.output
  size : W.heap.size≤W'.heap.size
  same : ∀ b,b<W.heap.size→¬ O b→W'.heap[b]?=W.heap[b]?
def grown (O : BP) (W W' : World) : BP:=fun b=>O b∨(W.heap.size≤b∧b<W'.heap.size)
structure c5 (O : BP) (L : List Nat) (W W' : World) : Prop where
  size : W.heap.size≤W'.heap.size
  own : ∀ b,O b→W'.heap[b]?=W.heap[b]?
  same : ∀ b ∈ L,W'.heap[b]?=W.heap[b]?
theorem cW.refl (O : BP) (W : World) : cW O W W:=⟨rfl,rfl,rfl,Nat.le_refl _,fun _ _ _=>rfl⟩
theorem cW.iA {O : BP} {W W' : World} (h : Ext W W') : cW O W W':=⟨h.os,h.tape,h.output,h.size,fun b hb _=>h.block b hb (by simp)⟩
theorem cW.put {O : BP} {W : World} {b : Nat} (o : Obj) (h : O b) : cW O W (W.putObj b o):=
  ⟨rfl,rfl,rfl,by rw [World.putObj_size];exact Nat.le_refl _,fun k _ hk=>World.putObj_heap_other fun e=>hk (e ▸ h)⟩
def qy (P : Program) (gf : Nat) (lb : Array Value) (enc : Nat→Array Value) (O0 : BP) (L : List Nat) (N : Nat) (W0 : World) : Prop:=
  ∀ (l : Nat) (J : Nat→BP→World→Prop) (X : BP→World→Prop) (W : World),(∀ b,b<W0.heap.size→W.heap[b]?=W0.heap[b]?)→
    (∀ k O W1 W2,J k O W1→cW O W1 W2→J k (grown O W1 W2) W2)→(∀ O W1 W2,X O W1→cW O W1 W2→X (grown O W1 W2) W2)→
    (∀ k O W1,J k O W1→∀ b,O b→b<W1.heap.size)→
    (∀ k O W1,k<N→J k O W1→YieldAt Fence.wide 1 P l (enc k) W1 fun e W'=>c5 O L W1 W'∧((e=.returned (.bool true)∧J (k+1) O W')∨(e=.returned (.bool false)∧X O W')))→
    J 0 O0 W→CallsIn Fence.wide 2 P gf (#[.func (.yield l) #[] #[]]++lb) W fun e W'=>(∃ v,e=.returned v)∧∃ O,J N O W'∨X O W'
theorem mT {F : Fence} {n m : Nat} {P : Program} {l : Nat} {f : FuncId} {tmps : Array Value} {assign body : Code} {w : World} {R : Ending→World→Prop} (hr : ∀ k,F.room k)
    (h : RoundIn F n P l f tmps assign body w R) : RoundIn F m P l f tmps assign body w R:=⟨h.1,fun c cs _=>h.2 c cs (hr _)⟩
abbrev Rf (o : Option Nat) : Fence:={ Fence.wide with round:=o }
theorem er (o : Option Nat) (e : Operand→Value) (op : Oper) (h : c4 op=true) : Oper.semAt (Rf o).round e op=execOp e op:=by
  cases o with
  | none=>rfl
  | some r=>
    refine Oper.semAt_some r _ _ fun c hc=>?_
    unfold c4 at h
    rw [hc] at h
    cases h
section
variable {P : Program} {n m : Nat} {o : Option Nat} {W : World} {ops : Array Oper} {Q Q' : Exit→Act→World→Prop} {os : List Oper} {E E' : Env} {d : Nat} {op : Op} {ty : TypeId} {pos : String} {aft : Array Edge} {v : Value}
structure GL (P : Program) (n m : Nat) (o : Option Nat) (W : World) (ops : Array Oper) (Q : Exit→Act→World→Prop) (os : List Oper) (E : Env) : Prop where
  go : ∀ a,aE n E a→wpListIn (Rf o) m P ops Q os a W
structure GC (P : Program) (n m : Nat) (o : Option Nat) (W : World) (Q : Exit→Act→World→Prop) (c : Code) (E : Env) : Prop where
  go : ∀ a,aE n E a→c.wpIn (Rf o) m P Q a W
theorem GC.seq {x y : Code} (h : GC P n m o W (Exit.then (y.wpIn (Rf o) m P Q) Q) x E) : GC P n m o W Q (.seq x y) E:=⟨fun a ha=>wpIn_seq (h.go a ha)⟩
theorem GC.skip (h : FE n W Q .normal E) : GC P n m o W Q .skip E:=⟨fun a ha=>wpIn_skip (h.go a ha)⟩
theorem GC.ret (h : FE n W Q .ret E) : GC P n m o W Q .ret E:=⟨fun a ha=>wpIn_ret (h.go a ha)⟩
theorem GC.exit {id : Nat} (h : FE n W Q (.exit id) E) : GC P n m o W Q (.exit id) E:=⟨fun a ha=>wpIn_exit (h.go a ha)⟩
theorem GC.block {id : Nat} {c : Code} (h : GC P n m o W (Exit.inBlock id Q) c E) : GC P n m o W Q (.block id c) E:=⟨fun a ha=>wpIn_block (h.go a ha)⟩
theorem GC.cond {c : Operand} {x y : Code} {t : Bool} (hc : ev E c=some (.bool t)) (ht : t=true→GC P n m o W Q x E) (hf : t=false→GC P n m o W Q y E) : GC P n m o W Q (.cond c x y) E:=
  ⟨fun a ha=>wpIn_cond_split (ha.eval hc) (fun h=>(ht h).go a ha) (fun h=>(hf h).go a ha)⟩
theorem GC.region {id : Nat} {os : List Oper} (h : GL P n m o W os.toArray Q os E) : GC P n m o W Q (.region id os.toArray false) E:=⟨fun a ha=>wpIn_region_lit (h.go a ha)⟩
theorem GC.meet {E : Env} {x y : Code} (C : World→Prop) (Em : Env) (h : GC P n m o W (Exit.then (fun a w=>aE n Em a∧C w) Q) x E) (k : ∀ w,C w→GC P n m o w Q' y Em) : GC P n m o W (Exit.then (y.wpIn (Rf o) m P Q') Q) x E:=
  ⟨fun a ha=>wpIn_mono (h.go a ha) fun e a' w' he=>by
    cases e with
    | normal=>obtain ⟨h1,h2⟩:=he;exact (k w' h2).go a' h1
    | exit _=>exact he
    | goto _=>exact he
    | ret=>exact he
    | panic _=>exact he
    | outgrown=>exact he⟩
theorem FE.wO {C : World→Prop} {Em : Env} (hE : ax E Em) (hC : C W) : FE n W (Exit.then (fun a w=>aE n Em a∧C w) Q) .normal E:=⟨fun _ ha=>⟨ha.sub hE,hC⟩⟩
theorem FE.c6 {y : Code} (h : GC P n m o W Q' y E) : FE n W (Exit.then (y.wpIn (Rf o) m P Q') Q) .normal E:=⟨h.go⟩
theorem GC.wide {c : Code} (h : GC P n m none W Q c E) : FC P n W Q c E:=⟨fun a ha=>(wpIn_wide (n:=m)).1 (h.go a ha)⟩
theorem GC.of {c : Code} (h : FC P n W Q c E) : GC P n m none W Q c E:=⟨fun a ha=>(wpIn_wide (n:=m)).2 (h.go a ha)⟩
theorem GL.nil (h : FE n W Q .normal E) : GL P n m o W ops Q [] E:=⟨h.go⟩
theorem GL.q (h : OQ P n E (fun w=>w=W) ⟨some d,op,ty,pos,aft,none⟩ v) (hdf : c4 ⟨some d,op,ty,pos,aft,none⟩=true) (hd : Nat.blt d n=true) (k : GL P n m o W ops Q os ((d,v)::E)) : GL P n m o W ops Q (⟨some d,op,ty,pos,aft,none⟩::os) E:=
  ⟨fun a ha=>wpListIn_plain rfl fun K hK=>by
    have hk:=hK _ _ (k.go _ (ha.put d v hd))
    have hq:=h.go a ha W rfl
    refine ⟨fun _ _=>trivial,?_⟩
    rw [er o a.eval _ hdf]
    unfold Oper.quietAt at hq
    cases hr : (execOp a.eval ⟨some d,op,ty,pos,aft,none⟩).run P W with
    | ok nx w'=>
      rw [hr] at hq
      cases nx with
      | value u=>
        obtain ⟨rfl,rfl⟩:=hq
        exact hk
      | skip=>
        obtain ⟨rfl,rfl⟩:=hq
        exact hk
      | enter f args=>
        obtain ⟨rfl,hc⟩:=hq
        refine ⟨fun h=>(by cases h),(callsIn_wide (n:=m - 1)).2 (hc.mono ?_)⟩
        rintro e w2 ⟨rfl,rfl⟩
        exact hk
      | _=>exact hq.elim
    | halt x w'=>
      rw [hr] at hq
      exact hq.elim⟩
theorem GL.vl {f : FuncId} {xs : List Operand} {ats : Array TypeId} {vs : List Value} {R : Ending→World→Prop} (hg : aR P f) (hx : eY E xs=some vs) (hd : Nat.blt d n=true)
    (hc : Calls P f vs.toArray W R) (k : ∀ e W',R e W'→∃ v,e=.returned v∧GL P n m o W' ops Q os ((d,v)::E)) : GL P n m o W ops Q (⟨some d,.call ⟨.value (.func f),xs.toArray,ats⟩,ty,pos,aft,none⟩::os) E:=
  ⟨fun a ha=>wpListIn_plain rfl fun K hK=>by
    refine ⟨fun _ _=>trivial,?_⟩
    rw [er o a.eval _ rfl,ek hg ha hx W]
    refine ⟨fun h=>(by cases h),(callsIn_wide (n:=m - 1)).2 (hc.mono ?_)⟩
    intro e w2 h2
    obtain ⟨v,rfl,hl⟩:=k e w2 h2
    exact hK _ _ (hl.go _ (ha.put d v hd))⟩
theorem GL.aB {f : FuncId} {xs : List Operand} {ats : Array TypeId} {vs : List Value} {R : World→Prop} (hg : aR P f) (hx : eY E xs=some vs) (hd : Nat.blt d n=true)
    (hc : Calls P f vs.toArray W fun e w'=>e=.returned v∧R w') (k : ∀ W',R W'→GL P n m o W' ops Q os ((d,v)::E)) : GL P n m o W ops Q (⟨some d,.call ⟨.value (.func f),xs.toArray,ats⟩,ty,pos,aft,none⟩::os) E:=
  GL.vl hg hx hd hc fun e W' ⟨h1,h2⟩=>⟨v,h1,k W' h2⟩
theorem GL.yield {xs : List Operand} {vs : List Value} {l : Nat} {x : Operand} {ts : Array TypeId} {R : Ending→World→Prop} (hx : ev E x=some (.func (.yield l) #[] #[])) (hy : eY E xs=some vs) (hd : Nat.blt d n=true) (h : YieldAt Fence.wide 1 P l vs.toArray W R)
    (hR : ∀ e W',R e W'→∃ b,e=.returned (.bool b)∧GL P n m o W' ops Q os ((d,.bool b)::E)) : GL P n m o W ops Q (⟨some d,.call ⟨.value x,xs.toArray,ts⟩,ty,pos,aft,none⟩::os) E:=
  ⟨fun a ha=>wpListIn_plain rfl fun K hK=>by
    obtain ⟨fn,tmps,assign,body,hrun,hro⟩:=h
    refine ⟨fun _ _=>trivial,?_⟩
    have e : (Oper.semAt (Rf o).round a.eval ⟨some d,.call ⟨.value x,xs.toArray,ts⟩,ty,pos,aft,none⟩).run P W=.ok (.round l fn tmps assign body) W:=by
      rw [er o a.eval _ rfl]
      have hm : xs.map a.eval=vs:=fB ha hy
      simp only [execOp,resolve,Sem.run_bind,ha.eval hx,List.map_toArray,hm,Deferred.ofValue,Sem.run_pure,Result.andThen_ok,invoke]
      simpa using hrun
    rw [e]
    refine ⟨fun h=>(by cases h),mT (F:=Fence.wide) (n:=1) (fun k=>room_wide k) (hro.mono fun e W' hr=>?_)⟩
    obtain ⟨b,rfl,hl⟩:=hR e W' hr
    exact hK _ _ (hl.go _ (ha.put d _ hd))⟩
theorem GL.box {x : Operand} {t : TypeId} (hx : ev E x=some v) (hr : v.cells=#[v]) (hd : Nat.blt d n=true)
    (k : ∀ W',Ext W W'→W'.heap.size=W.heap.size+1→W'.heap[W.heap.size]?=some (.cells #[v] t (0,0))→GL P n m o W' ops Q os ((d,Pt W.heap.size 0)::E)) : GL P n m o W ops Q (⟨some d,.box t x,ty,pos,aft,none⟩::os) E:=
  ⟨fun a ha=>wpListIn_plain rfl fun K hK=>by
    refine ⟨fun _ _=>trivial,?_⟩
    have h1 : (Instr.box t v).run P W=.ok (Pt W.heap.size 0) { W with heap:=W.heap.push (.cells #[v] t (0,0)) }:=by
      simp [Instr.box,newVar,newRow,newObj,hr,Sem.run]
    have e : (Oper.semAt (Rf o).round a.eval ⟨some d,.box t x,ty,pos,aft,none⟩).run P W=.ok (.value (Pt W.heap.size 0)) { W with heap:=W.heap.push (.cells #[v] t (0,0)) }:=by
      rw [er o a.eval _ rfl]
      simp only [execOp,ha.eval hx,Sem.run_bind,h1,Result.andThen_ok]
      rfl
    rw [e]
    refine hK _ _ ((k { W with heap:=W.heap.push (.cells #[v] t (0,0)) } ⟨rfl,rfl,rfl,by simp,fun b hb _=>?_⟩ (by simp) (by simp)).go _ (ha.put d _ hd))
    show (W.heap.push _)[b]?=_
    rw [Array.getElem?_push,if_neg (by omega)]⟩
theorem GL.sx {t e : TypeId} {x y : Operand} {b : Nat} {u : Value} (hz : dw P t=some 1) (hx : ev E x=some (Pt b 0)) (hy : ev E y=some v) (hv : v.oneCell'=true) (hcl : v.cells=#[v]) (hb : W.heap[b]?=some (.cells #[u] e (0,0)))
    (k : ∀ W',cW (·=b) W W'→W'.heap.size=W.heap.size→W'.heap[b]?=some (.cells #[v] e (0,0))→GL P n m o W' ops Q os E) : GL P n m o W ops Q (⟨none,.store t x y,ty,pos,aft,none⟩::os) E:=
  ⟨fun a ha=>wpListIn_plain rfl fun K hK=>by
    refine ⟨fun _ _=>trivial,?_⟩
    have hs : (storeCells ⟨b,0,none⟩ [v] 0).run P W=.ok () (W.setCell ⟨b,0,none⟩ v):=by
      simp only [storeCells,Sem.run_bind,bh,Nat.add_zero]
      rw [fC hv hb (by simp)];rfl
    have e : (Oper.semAt (Rf o).round a.eval ⟨none,.store t x y,ty,pos,aft,none⟩).run P W=.ok .skip (W.setCell ⟨b,0,none⟩ v):=by
      rw [er o a.eval _ rfl]
      simp [execOp,ha.eval hx,ha.eval hy,Pt,Instr.storeAt,Instr.sureAddr,Sem.run_bind,storeVar,aL hz,hcl,hs]
    rw [e]
    exact hK _ _ ((k (W.setCell ⟨b,0,none⟩ v) ⟨rfl,rfl,rfl,by rw [cQ];exact Nat.le_refl _,fun k _ hk=>cZ hk⟩ cQ (by rw [dx hb];rfl)).go _ ⟨ha.size,ha.defers,ha.all⟩)⟩
theorem uB {q : Oper} {a : Act} {w : World} {K : Act→World→Prop} (hd : c4 q=true) (h : q.wp P a w K fun _ _ _=>False) : q.wpIn (Rf o) m P a w K Q:=by
  have hQ : ¬ LetsOut (fun (_ : Exit) (_ : Act) (_ : World)=>False):=fun ⟨_,_,x⟩=>x
  refine ⟨fun _ _=>trivial,?_⟩
  rw [er o a.eval _ hd]
  unfold Oper.wp at h
  cases hr : (execOp a.eval q).run P w with
  | ok nx w'=>
    rw [hr] at h
    cases nx with
    | value v=>exact h
    | skip=>exact h
    | defer d=>exact h
    | enter f args=>
      have h' : Calls P f args w' fun
        | .returned v,w''=>K (a.put q.dst v) w''
        | .panicked chain,w''=>False
        | .outgrown,_=>LetsOut (fun (_ : Exit) (_ : Act) (_ : World)=>False):=h
      refine ⟨fun h=>(by cases h),(callsIn_wide (n:=m - 1)).2 (h'.mono fun e w2 h2=>?_)⟩
      cases e with
      | returned v=>exact h2
      | panicked ch=>exact h2.elim
      | outgrown=>exact absurd h2 hQ
    | row r args=>
      have h' : Rows P r args w' fun v w''=>K (a.put q.dst v) w'':=h
      refine ⟨fun h=>(by cases h),fun c cs _=>?_⟩
      obtain ⟨v,w2,h2,hs⟩:=h' c cs
      exact ⟨v,w2,h2,stepsIn_wide.2 hs⟩
    | round=>exact h.elim
    | _=>exact h.elim
  | halt x w'=>
    rw [hr] at h
    cases x with
    | panic v=>exact h.elim
    | _=>exact h.elim
theorem ef {md : Region.Mode} {C : World→Prop} {g k : Nat} {L : Array Bool→Act→Prop} (hd : ops.toList.all c4=true) (hL : ∀ done a w,C w→L done a→wpAnyIn (Rf o) m P md ops Q g done a w) :
    ∀ (f : Nat) (done : Array Bool) (a : Act) (w : World),C w→qj P md ops C k L f done a→wpAnyIn (Rf o) m P md ops Q (f+g) done a w
  | 0,done,a,w,hw,h=>by rw [Nat.zero_add];exact hL _ _ _ hw h
  | f+1,done,a,w,hw,h=>by
    rw [show f+1+g=(f+g)+1 by omega]
    refine ⟨fun h0=>absurd h0 h.1,fun i hi=>?_⟩
    have hp : wpOp P ops (fun _ _ _=>False) i (wpAnyIn (Rf o) m P md ops Q (f+g) (done.setIfInBounds i true)) a w:=wpOp_of_qOp hw (fun a' w' hw' h'=>ef hd hL f _ a' w' hw' h') (h.2 i hi).2
    unfold wpOp at hp
    unfold wpOpIn
    cases ho : ops[i]? with
    | none=>rw [ho] at hp;exact hp
    | some q=>
      rw [ho] at hp
      have hno : c4 q=true:=List.all_eq_true.1 hd q (Array.mem_toList_iff.2 (Array.mem_of_getElem? ho))
      dsimp only at hp ⊢
      by_cases hw : Region.wanted q (yielded ops a.tmps)=true
      · rw [if_pos hw] at hp ⊢
        rcases hp with hp | hp
        · exact uB hno hp
        · obtain ⟨_,_,x⟩:=hp.2
          exact x.elim
      · rw [if_neg hw] at hp ⊢
        exact ⟨fun _ _=>trivial,hp⟩
theorem lT {i : Nat} {a : Act} {w : World} {K K' : Act→World→Prop} (h : ∀ a w,K a w→K' a w) (hh : wpOpIn (Rf o) m P ops Q i K a w) : wpOpIn (Rf o) m P ops Q i K' a w:=wpOpIn_mono h hh
theorem dK {md : Region.Mode} : ∀ (l : List Oper) (k : Nat) (listed : Array Bool) (a : Act) (w : World),(∀ j,l[j]?=ops[k+j]?)→
    Region.seqB md ops l.length k listed=true→wpListIn (Rf o) m P ops Q l a w→wpAnyIn (Rf o) m P md ops Q l.length listed a w
  | [],_,_,_,_,_,hB,h=>⟨by simpa [Region.seqB] using hB,h⟩
  | q::l,k,listed,a,w,hl,hB,h=>by
    have h0 : ops[k]?=some q:=by simpa using (hl 0).symm
    simp only [List.length_cons,Region.seqB,Bool.and_eq_true,decide_eq_true_eq] at hB
    refine ⟨fun h1=>(by rw [hB.1] at h1;cases h1),fun i hi=>?_⟩
    rw [hB.1] at hi
    have hik : i=k:=by simpa using hi
    subst hik
    have hw : wpOpIn (Rf o) m P ops Q i (wpListIn (Rf o) m P ops Q l) a w:=by unfold wpOpIn;simp only [h0];exact h
    exact lT (fun a' w' h'=>dK l (i+1) _ a' w' (fun j=>by have:=hl (j+1);simpa [Nat.add_assoc,Nat.add_comm 1 j] using this) hB.2 h') hw
structure GQ (P : Program) (n : Nat) (W : World) (ops : Array Oper) (Φ : Act→Prop) (l : List Oper) (E : Env) : Prop where
  go : ∀ a,aE n E a→wpQuiet P ops (fun w=>w=W) Φ l a
theorem GC.tail {id : Nat} {l : List Oper} (k : Nat) (hm : P.follows .mixedOrders=true) (hd : l.all c4=true) (hB : Region.lexTailB .any l.toArray k=true)
    (h : GQ P n { W with drawn:=W.drawn+1 } l.toArray (fun a'=>wpListIn (Rf o) m P l.toArray Q (l.drop k) a' { W with drawn:=W.drawn+1 }) (l.take k) E) : GC P n m o W Q (.region id l.toArray true) E:=by
  refine ⟨fun a ha=>?_⟩
  have h:=h.go a ha
  simp only [Region.lexTailB,Bool.and_eq_true,decide_eq_true_eq] at hB
  obtain ⟨⟨⟨⟨hsel,hn⟩,hs⟩,hc⟩,hlex⟩:=hB
  have hn' : k<l.length:=by simpa using hn
  have htl : (l.take k).length=k:=by simp;omega
  have hdl : (l.drop k).length=l.toArray.size - k:=by simp
  have inv0 : HeadInv .any l.toArray k (Array.replicate l.toArray.size false):=
    ⟨by simp,fun j oj _ hl=>(by rw [getD_replicate_false] at hl;cases hl),fun t _ ht=>getD_in (by simpa using ht) (getD_replicate_false _ _)⟩
  have H:=gy (P:=P) (C:=fun w=>w={ W with drawn:=W.drawn+1 }) (md:=.any) (g:=l.toArray.size - k) hsel hs hc hn (l.take k) 0 _ a (fun j hj=>by
    have hj' : j<k:=by rw [htl] at hj;exact hj
    simp [hj']) (by simpa using htl) inv0 (by rw [htl];exact hlex) h
  refine wpIn_region_any hm ?_
  have:=ef (P:=P) (m:=m) (o:=o) (ops:=l.toArray) (md:=.any) (k:=k) (C:=fun w=>w={ W with drawn:=W.drawn+1 }) (Q:=Q) (g:=l.toArray.size - k) (L:=fun done' a'=>Region.seqB .any l.toArray (l.toArray.size - k) k done'=true∧wpListIn (Rf o) m P l.toArray Q (l.drop k) a' { W with drawn:=W.drawn+1 }) (by simpa using hd) (fun done a' w' hw' hL=>by
    have:=dK (P:=P) (m:=m) (o:=o) (ops:=l.toArray) (md:=.any) (Q:=Q) (l.drop k) k done a' w' (fun j=>by simp [List.getElem?_drop]) (by rw [hdl];exact hL.1) (by rw [hw'];exact hL.2)
    rwa [hdl] at this) _ _ _ _ rfl H
  rw [htl,show k+(l.toArray.size - k)=l.toArray.size by omega] at this
  exact this
theorem GQ.nil {l' : List Oper} (h : GL P n m o W ops Q l' E) : GQ P n W ops (fun a'=>wpListIn (Rf o) m P ops Q l' a' W) [] E:=⟨fun a ha=>h.go a ha⟩
theorem GQ.q {Φ : Act→Prop} {l : List Oper} (h : OQ P n E (fun w=>w=W) ⟨some d,op,ty,pos,aft,none⟩ v) (hd : Nat.blt d n=true) (k : GQ P n W ops Φ l ((d,v)::E)) : GQ P n W ops Φ (⟨some d,op,ty,pos,aft,none⟩::l) E:=
  ⟨fun a ha=>wpQuiet_step fun _ hK=>by
    simp only [Region.wanted,if_true]
    exact ⟨v,h.go a ha,hK _ (k.go _ (ha.put d v hd))⟩⟩
theorem cW.mono {O O' : BP} {W W' : World} (h : cW O W W') (hs : ∀ b,O b→O' b) : cW O' W W':=⟨h.os,h.tape,h.output,h.size,fun b hb hn=>h.same b hb fun x=>hn (hs b x)⟩
theorem c5.trans {O : BP} {L : List Nat} {A B C : World} (h : c5 O L A B) (k : c5 O L B C) : c5 O L A C:=
  ⟨Nat.le_trans h.size k.size,fun b hb=>(k.own b hb).trans (h.own b hb),fun b hb=>(k.same b hb).trans (h.same b hb)⟩
theorem c5.iA {O : BP} {L : List Nat} {A B : World} (h : Ext A B) (hO : ∀ b,O b→b<A.heap.size) (hL : ∀ b ∈ L,b<A.heap.size) : c5 O L A B:=
  ⟨h.size,fun b hb=>h.block b (hO b hb) (by simp),fun b hb=>h.block b (hL b hb) (by simp)⟩
def xO (J : Nat→BP→World→Prop) (X : BP→World→Prop) (k : Nat) (O : BP) (L : List Nat) (W1 : World) : Exit→Act→World→Prop
  | .normal,_,W'=>∃ O',c5 O L W1 W'∧(∀ b,O b→O' b)∧(∀ b,b<W1.heap.size→O' b→O b)∧J (k+1) O' W'
  | .ret,_,W'=>∃ O',c5 O L W1 W'∧(∀ b,O b→O' b)∧X O' W'
  | _,_,_=>False
theorem gL {D : Nat} {fn : Func} {R : Ending→World→Prop} {a : Act} {x : Exit} (hx : x=.normal∨x=.ret) (ha : cS D n E a) (hr : fn.results=#[]) (hD : W.heap[D]?=some (.deferred (some []))) (hR : R (.returned (.tuple #[])) (W.putObj D (.deferred none))) :
    bodyPostM Fence.wide m P fn R x a W:=by
  have : LeavesInM Fence.wide m P fn a.tmps R a.defers .returning W:=by
    rw [ha.defers]
    exact ⟨by simp,.inl ⟨D,_,rfl,run_takeDeferred hD,.tuple #[],by simp [results,hr],hR⟩⟩
  rcases hx with rfl | rfl <;> exact this
theorem vL {f : FuncId} {fn : Func} {c : Code} {vs : List Value} {R : Ending→World→Prop} (hf : P.funcs[f]?=some fn) (hb : fn.body=some c) (hn : fn.ntmps=n) (hl : Nat.ble vs.length n=true)
    (h : GC P n 3 none W (bodyPostM Fence.wide 3 P fn R) c (enum 0 vs)) : CallsIn Fence.wide 2 P f vs.toArray W R:=by
  refine callsIn_wide.2 (callsIn_wide.1 (callsIn_of_wp_marks (n:=3) hf hb trivial (h.go _ ?_)))
  rw [hn]
  exact aE.enter vs (by simpa using hl)
theorem GC.xP {g : Operand} {p d i1 gf N : Nat} {t1 : TypeId} {s1 : String} {body : Code} {lb : Array Value} {J : Nat→BP→World→Prop} {X : BP→World→Prop} (enc : Nat→Value) (O0 : BP) (LI L C : List Nat) (O : BP)
    (hg : ev E g=some (.func (.func gf) #[] lb)) (eg : ∀ args w,(callFunc gf args).run P w=.ok (.enter gf args) w)
    (hseq : qy P gf lb (fun k=>#[enc k]) O0 LI N W) (hp : Nat.blt p n=true) (hd : Nat.blt d n=true)
    (hst : ∀ k O W1 W2,J k O W1→cW O W1 W2→J k (grown O W1 W2) W2) (hsx : ∀ O W1 W2,X O W1→cW O W1 W2→X (grown O W1 W2) W2) (hlt : ∀ k O W1,J k O W1→∀ b,O b→b<W1.heap.size)
    (hO0 : ∀ b,O0 b→O b∧b<W.heap.size) (hLI : ∀ b ∈ LI,b ∈ L) (hL : ∀ b ∈ L,¬ O b∧b<W.heap.size) (hC : ∀ b ∈ C,O b∧¬ O0 b∧b<W.heap.size) (h0 : J 0 O W)
    (hbody : ∀ r k O1 W1,k<N→J k O1 W1→(∀ b ∈ L,W1.heap[b]?=W.heap[b]?)→(∀ b ∈ C,W1.heap[b]?=W.heap[b]?)→W.heap.size≤W1.heap.size→(∀ b,b<W.heap.size→O b→O1 b)→GC P n 1 (some r) W1 (xO J X k O1 L W1) body ((d,enc k)::(p,enc k)::E))
    (hdone : ∀ D O' W',J N O' W'→O' D→W'.heap[D]?=some (.deferred (some []))→∀ a',cS D n E a'→Q .normal a' W')
    (hstop : ∀ D O' W',X O' W'→O' D→W'.heap[D]?=some (.deferred (some []))→∀ a',cS D n E a'→Q .ret a' W') :
    GC P n 3 none W Q (.rangeFunc g #[p] (.region i1 #[⟨some d,.assign (.tmp p),t1,s1,#[],none⟩] false) body) E:=by
  refine ⟨fun a ha=>?_⟩
  show Code.wpIn Fence.wide 3 P _ _ _ _
  refine wpIn_rangeFunc fun fn hfn=>?_
  obtain ⟨qx,hasg⟩ : ∃ c : Code,c=.region i1 #[⟨some d,.assign (.tmp p),t1,s1,#[],none⟩] false:=⟨_,rfl⟩
  rw [← hasg]
  let R : LoopState→Option Code→Loop:=fun st pe=>{ state:=st,pending:=pe,fn:=fn,tmps:=a.tmps,params:=#[p],assign:=qx,body:=body,defers:=W.heap.size }
  have hLp : ((W.alloc (.deferred (some []))).alloc (.loop (R .ready none))).heap[W.heap.size+1]?=some (.loop (R .ready none)):=by
    have:=World.alloc_heap_new (W.alloc (.deferred (some []))) (.loop (R .ready none))
    rwa [World.size_alloc] at this
  have hDp : ((W.alloc (.deferred (some []))).alloc (.loop (R .ready none))).heap[W.heap.size]?=some (.deferred (some [])):=
    (RowKit.Below.heap_alloc _ _ _ (by simp)).trans (World.alloc_heap_new W _)
  have hB : RowKit.Below W.heap.size W ((W.alloc (.deferred (some []))).alloc (.loop (R .ready none))):=((RowKit.Below.refl _ W).alloc (Nat.le_refl _) _).alloc (by simp) _
  have hsz : ((W.alloc (.deferred (some []))).alloc (.loop (R .ready none))).heap.size=W.heap.size+2:=by simp
  have hc1 : cW O W ((W.alloc (.deferred (some []))).alloc (.loop (R .ready none))):=⟨hB.os,hB.tape,hB.output,by rw [hsz];omega,fun b hb _=>hB.block b hb⟩
  obtain ⟨W1,hW1⟩ : ∃ W1,(W.alloc (.deferred (some []))).alloc (.loop (R .ready none))=W1:=⟨_,rfl⟩
  rw [hW1] at hLp hDp hB hsz hc1
  have j1:=hst _ _ _ _ h0 hc1
  refine ⟨W.heap.size+1,[Sl.mk W.heap.size],W1,{ target:=.fn (.func gf) lb,args:=#[.func (.yield (W.heap.size+1)) #[] #[]] },W1,gf,#[.func (.yield (W.heap.size+1)) #[] #[]]++lb,W1,?_,?_,fun _ _=>trivial,?_,(fun h=>by cases h),?_⟩
  · rw [← hW1]
    exact run_enterLoop_outer _ _ _ _ _
  · simp only [resolve,ha.eval hg]
    simp [go_sem]
  · simp [invoke,go_sem,eg]
  refine (hseq (W.heap.size+1)
    (fun k O' V=>∃ U,J k U V∧(∀ b,O' b→U b)∧U (W.heap.size+1)∧U W.heap.size∧¬ O' (W.heap.size+1)∧¬ O' W.heap.size∧V.heap[W.heap.size+1]?=some (.loop (R .ready none))∧V.heap[W.heap.size]?=some (.deferred (some []))∧(∀ b ∈ L,¬ U b∧V.heap[b]?=W.heap[b]?)∧(∀ b,b<W.heap.size→O b→U b)∧W.heap.size+2≤V.heap.size∧(∀ b ∈ C,U b∧¬ O' b∧V.heap[b]?=W.heap[b]?))
    (fun O' V=>∃ U,X U V∧(∀ b,O' b→U b)∧U (W.heap.size+1)∧U W.heap.size∧¬ O' (W.heap.size+1)∧¬ O' W.heap.size∧V.heap[W.heap.size+1]?=some (.loop (R .done (some .ret)))∧V.heap[W.heap.size]?=some (.deferred (some []))∧W.heap.size+2≤V.heap.size)
    W1 hB.block ?_ ?_ (fun k O' V ⟨U,hJ,hs,_⟩ b hb=>hlt k U V hJ b (hs b hb)) ?_ ⟨_,j1,fun b hb=>.inl (hO0 b hb).1,.inr ⟨by omega,by omega⟩,.inr ⟨by omega,by omega⟩,fun h=>by have:=(hO0 _ h).2;omega,fun h=>by have:=(hO0 _ h).2;omega,hLp,hDp,fun b hb=>⟨fun h=>?_,hB.block b (hL b hb).2⟩,fun b _ hb=>.inl hb,by omega,fun b hb=>⟨.inl (hC b hb).1,(hC b hb).2.1,hB.block b (hC b hb).2.2⟩⟩).mono ?_
  · rintro k O' Wa Wb ⟨U,hJ,hs,h1,h2,h3,h4,h5,h6,h7,h8,h9,h10⟩ hx
    have hx':=hx.mono hs
    have g : ∀ b,O' b∨Wa.heap.size≤b∧b<Wb.heap.size→U b∨Wa.heap.size≤b∧b<Wb.heap.size:=fun b hb=>hb.imp (hs b) id
    refine ⟨_,hst _ _ _ _ hJ hx',g,.inl h1,.inl h2,fun h=>h.elim h3 (by omega),fun h=>h.elim h4 (by omega),(hx.same _ (by omega) h3).trans h5,(hx.same _ (by omega) h4).trans h6,fun b hb=>⟨fun h=>h.elim (h7 b hb).1 (by have:=(hL b hb).2;omega),(hx.same b (by have:=(hL b hb).2;omega) fun h=>(h7 b hb).1 (hs b h)).trans (h7 b hb).2⟩,fun b hb hO=>.inl (h8 b hb hO),Nat.le_trans h9 hx.size,fun b hb=>⟨.inl (h10 b hb).1,fun h=>h.elim (h10 b hb).2.1 (by have:=(hC b hb).2.2;omega),(hx.same b (by have:=(hC b hb).2.2;omega) (h10 b hb).2.1).trans (h10 b hb).2.2⟩⟩
  · rintro O' Wa Wb ⟨U,hJ,hs,h1,h2,h3,h4,h5,h6,h9⟩ hx
    have hx':=hx.mono hs
    have g : ∀ b,O' b∨Wa.heap.size≤b∧b<Wb.heap.size→U b∨Wa.heap.size≤b∧b<Wb.heap.size:=fun b hb=>hb.imp (hs b) id
    exact ⟨_,hsx _ _ _ hJ hx',g,.inl h1,.inl h2,fun h=>h.elim h3 (by omega),fun h=>h.elim h4 (by omega),(hx.same _ (by omega) h3).trans h5,(hx.same _ (by omega) h4).trans h6,Nat.le_trans h9 hx.size⟩
  ·
    rintro k O' V hk ⟨U,hJ,hs,h1,h2,h3,h4,h5,h6,h7,h8,h9,h10⟩
    refine ⟨fn,_,qx,body,run_yield (P:=P) (args:=#[enc k]) h5 rfl,roundIn_of_wpIn hfn ?_⟩
    rw [hasg]
    show Code.wpIn (Rd (W.heap.size+1)) 1 P _ _ ({ tmps:=(#[p].zip #[enc k]).foldl (fun t (x : Nat × Value)=>t.setIfInBounds x.1 x.2) a.tmps,defers:=[] } : Act) V
    have hput : ({ tmps:=(#[p].zip #[enc k]).foldl (fun t (x : Nat × Value)=>t.setIfInBounds x.1 x.2) a.tmps,defers:=[] } : Act)=a.put (some p) (enc k):=by
      obtain ⟨tm,df⟩:=a
      have:=ha.defers
      simp only at this
      subst this
      simp [Act.put]
    rw [hput]
    have k2:=ha.put p (enc k) hp
    have k3:=k2.put d (enc k) hd
    refine kC (E:=(p,enc k)::E) (v:=enc k) (by simp [lk]) k2 ⟨_,run_beginRound h5 rfl,?_⟩
    obtain ⟨W2,hW2⟩ : ∃ W2,V.putObj (W.heap.size+1) (.loop { R .ready none with state:=.busy })=W2:=⟨_,rfl⟩
    have c2 : cW U V W2:=hW2 ▸ cW.put _ h1
    have hs2 : W2.heap.size=V.heap.size:=by rw [← hW2];exact World.putObj_size
    have hl2 : W2.heap[W.heap.size+1]?=some (.loop (R .busy none)):=hW2 ▸ World.putObj_heap_same (by omega)
    have ho2 : ∀ b,b≠W.heap.size+1→W2.heap[b]?=V.heap[b]?:=fun b hb=>by rw [← hW2];exact World.putObj_heap_other hb
    rw [hW2]
    have hJ2:=hst _ _ _ _ hJ c2
    obtain ⟨U2,hU2⟩ : ∃ U2,grown U V W2=U2:=⟨_,rfl⟩
    have hU : ∀ b,U b→U2 b:=fun b hb=>hU2 ▸ .inl hb
    have hU' : ∀ b,U2 b→U b:=fun b hb=>by
      rw [← hU2] at hb
      exact hb.elim id (by omega)
    rw [hU2] at hJ2
    refine wpIn_mono ((hbody (W.heap.size+1) k U2 W2 hk hJ2 (fun b hb=>(ho2 b (fun e=>(h7 b hb).1 (e ▸ h1))).trans (h7 b hb).2) (fun b hb=>(ho2 b (fun e=>by have:=(hC b hb).2.2;omega)).trans (h10 b hb).2.2) (by omega) fun b hb hO=>hU b (h8 b hb hO)).go _ k3) ?_
    have fin : ∀ {O3 : BP} {W3 : World} (ob : Obj),c5 U2 L W2 W3→c5 O' LI V (W3.putObj (W.heap.size+1) ob):=fun {O3 W3} ob h=>by
      refine ⟨by rw [World.putObj_size,← hs2];exact h.size,fun b hb=>?_,fun b hb=>?_⟩
      · have hne : b≠W.heap.size+1:=fun e=>h3 (e ▸ hb)
        exact (World.putObj_heap_other hne).trans ((h.own b (hU b (hs b hb))).trans (ho2 b hne))
      · have hne : b≠W.heap.size+1:=fun e=>(h7 b (hLI b hb)).1 (e ▸ h1)
        exact (World.putObj_heap_other hne).trans ((h.same b (hLI b hb)).trans (ho2 b hne))
    rintro e a3 W3 hq
    cases e with
    | normal=>
      obtain ⟨O3,hk3,hs3,hn3,hJ3⟩:=hq
      have hl3:=(hk3.own _ (hU _ h1)).trans hl2
      have hd3:=(hk3.own _ (hU _ h2)).trans ((ho2 _ (by omega)).trans h6)
      have hz:=hk3.size
      refine ⟨_,_,run_endRound (P:=P) none hl3,fin (O3:=O3) _ hk3,.inl ⟨rfl,?_⟩⟩
      refine ⟨_,hst _ _ _ _ hJ3 (cW.put _ (hs3 _ (hU _ h1))),fun b hb=>.inl (hs3 b (hU b (hs b hb))),.inl (hs3 _ (hU _ h1)),.inl (hs3 _ (hU _ h2)),h3,h4,World.putObj_heap_same (by omega),(World.putObj_heap_other (by omega)).trans hd3,fun b hb=>⟨?_,?_⟩,fun b hb hO=>.inl (hs3 b (hU b (h8 b hb hO))),by rw [World.putObj_size];omega,fun b hb=>⟨.inl (hs3 b (hU b (h10 b hb).1)),(h10 b hb).2.1,?_⟩⟩
      · have hb3:=(hL b hb).2
        exact fun h=>h.elim (fun h=>(h7 b hb).1 (hU' b (hn3 b (by omega) h))) (by omega)
      · have hne : b≠W.heap.size+1:=fun e=>(h7 b hb).1 (e ▸ h1)
        exact (World.putObj_heap_other hne).trans ((hk3.same b hb).trans ((ho2 b hne).trans (h7 b hb).2))
      · have hne : b≠W.heap.size+1:=fun e=>by have:=(hC b hb).2.2;omega
        exact (World.putObj_heap_other hne).trans ((hk3.own b (hU b (h10 b hb).1)).trans ((ho2 b hne).trans (h10 b hb).2.2))
    | ret=>
      obtain ⟨O3,hk3,hs3,hJ3⟩:=hq
      have hl3:=(hk3.own _ (hU _ h1)).trans hl2
      have hd3:=(hk3.own _ (hU _ h2)).trans ((ho2 _ (by omega)).trans h6)
      have hz:=hk3.size
      refine ⟨_,_,run_endRound (P:=P) (some .ret) hl3,fin (O3:=O3) _ hk3,.inr ⟨rfl,?_⟩⟩
      exact ⟨_,hsx _ _ _ hJ3 (cW.put _ (hs3 _ (hU _ h1))),fun b hb=>.inl (hs3 b (hU b (hs b hb))),.inl (hs3 _ (hU _ h1)),.inl (hs3 _ (hU _ h2)),h3,h4,World.putObj_heap_same (by omega),(World.putObj_heap_other (by omega)).trans hd3,by rw [World.putObj_size];omega⟩
    | exit id=>exact hq.elim
    | goto t=>exact hq.elim
    | panic ch=>exact hq.elim
    | outgrown=>exact hq.elim
  · exact h.elim (hL b hb).1 (by have:=(hL b hb).2;omega)
  ·
    have know : cS W.heap.size n E { a with defers:=[Sl.mk W.heap.size]++a.defers }:=⟨by show _++a.defers=_;rw [ha.defers];rfl,⟨ha.size,rfl,ha.all⟩⟩
    rintro e W2 ⟨⟨v,rfl⟩,O',(⟨U,hJ,hs,h1,h2,h3,h4,h5,h6,h7,h8,h9,h10⟩ | ⟨U,hJ,hs,h1,h2,h3,h4,h5,h6,h9⟩)⟩
    · exact ⟨none,_,run_endLoop h5 (by simp [R]),hdone W.heap.size _ _ (hst _ _ _ _ hJ (cW.put _ h1)) (.inl h2) ((World.putObj_heap_other (by omega)).trans h6) _ know⟩
    · exact ⟨some .ret,_,run_endLoop h5 (by simp [R]),wpIn_ret (hstop W.heap.size _ _ (hsx _ _ _ hJ (cW.put _ h1)) (.inl h2) ((World.putObj_heap_other (by omega)).trans h6) _ know)⟩
end
end Sl
end
section
open Go.RowKit
namespace Sl
theorem aa.wP {w0 V V' : World} {S : List Nat} {M : List az} {O : BP} (h : aa w0 S M V) (hn : ∀ e ∈ M,¬ O e.b) (hO : ∀ b,O b→b ∈ S∨w0.heap.size≤b) (hc : cW O V V') : aa w0 S M V':=by
  refine ⟨⟨hc.os.trans h.aC.os,hc.tape.trans h.aC.tape,hc.output.trans h.aC.output,Nat.le_trans h.aC.size hc.size,fun k hk hS=>?_⟩,h.nodup,fun e he=>⟨?_,(h.all e he).2⟩⟩
  · exact (hc.same k (Nat.lt_of_lt_of_le hk h.aC.size) fun h=>(hO k h).elim hS (by omega)).trans (h.aC.block k hk hS)
  · obtain ⟨o,ho,hA⟩:=(h.all e he).1
    exact ⟨o,(hc.same e.b (h.lt he) (hn e he)).trans ho,hA⟩
theorem JR.tail {P : Program} {n : Nat} {w0 : World} {S : List Nat} {Q : Exit→Act→World→Prop} {E : Env} {M : List az} {m r : Nat} {id : Nat} {l : List Oper} (k : Nat) (hm : P.follows .mixedOrders=true) (hd : l.all c4=true) (hQ : ¬ LetsOut Q) (hB : Region.lexTailB .any l.toArray k=true)
    (h : JQ P n w0 S l.toArray M (fun a'=>∀ w',aa w0 S M w'→wpList P l.toArray Q (l.drop k) a' w') (l.take k) E) : JR P n w0 S r m Q (.region id l.toArray true) E M:=by
  refine ⟨fun a w ha hw=>?_⟩
  have h:=h.go a ha
  simp only [Region.lexTailB,Bool.and_eq_true,decide_eq_true_eq] at hB
  obtain ⟨⟨⟨⟨hsel,hn⟩,hs⟩,hc⟩,hlex⟩:=hB
  have hn' : k<l.length:=by simpa using hn
  have htl : (l.take k).length=k:=by simp;omega
  have hdl : (l.drop k).length=l.toArray.size - k:=by simp
  have inv0 : HeadInv .any l.toArray k (Array.replicate l.toArray.size false):=
    ⟨by simp,fun j oj _ hl=>(by rw [getD_replicate_false] at hl;cases hl),fun t _ ht=>getD_in (by simpa using ht) (getD_replicate_false _ _)⟩
  have H:=gy (P:=P) (C:=aa w0 S M) (md:=.any) (g:=l.toArray.size - k) hsel hs hc hn (l.take k) 0 _ a (fun j hj=>by
    have hj' : j<k:=by rw [htl] at hj;exact hj
    simp [hj']) (by simpa using htl) inv0 (by rw [htl];exact hlex) h
  refine wpIn_region_any hm ?_
  have:=ef (P:=P) (m:=m) (o:=some r) (ops:=l.toArray) (md:=.any) (k:=k) (C:=aa w0 S M) (Q:=Q) (g:=l.toArray.size - k) (L:=fun done' a'=>Region.seqB .any l.toArray (l.toArray.size - k) k done'=true∧∀ w',aa w0 S M w'→wpList P l.toArray Q (l.drop k) a' w') (by simpa using hd) (fun done a' w' hw' hL=>by
    have:=dK (P:=P) (m:=m) (o:=some r) (ops:=l.toArray) (md:=.any) (Q:=Q) (l.drop k) k done a' w' (fun j=>by simp [List.getElem?_drop]) (by rw [hdl];exact hL.1) (cD (l:=r) (m:=m) hQ (l.drop k) (List.all_eq_true.2 fun x hx=>List.all_eq_true.1 hd x (List.mem_of_mem_drop hx)) a' w' (hL.2 w' hw'))
    rwa [hdl] at this) (l.take k).length (Array.replicate l.toArray.size false) a { w with drawn:=w.drawn+1 } (hw.drawn (w.drawn+1)) H
  rw [htl,show k+(l.toArray.size - k)=l.toArray.size by omega] at this
  exact this
theorem lU {w1 w2 : World} {A B : List az} {O : BP} (hA : ∀ b ∈ gJ A,¬ O b) (hO : ∀ b,O b→b<w1.heap.size) (hB : ∀ e ∈ B,e.wr=true) (h : aa w1 (gJ A) B w2) : ∀ e ∈ B,¬ O e.b:=fun e he hb=>by
  rcases (h.all e he).2 (hB e he) with h1 | h1
  · exact hA _ h1 hb
  · have:=hO _ hb
    omega
theorem pT {A : List az} {O : BP} (h : ∀ e ∈ A,¬ O e.b) : ∀ b ∈ gJ A,¬ O b:=fun b hb=>by
  obtain ⟨e,he,_,rfl⟩:=dS.1 hb
  exact h e he
theorem JC.jR {P : Program} {n : Nat} {w0 : World} {S : List Nat} {Q : Exit→Act→World→Prop} {E : Env} {M : List az} {ι κ τ : Type} {g : Operand} {ps : Array Nat} {qx body : Code} {gf : Nat} {lb : Array Value} (enc : Nat→Array Value) (Mo : List az) (L : List Nat) (N : Nat) (Ep : Nat→Env)
    (Mi : ι→List az) (Inv : Nat→ι→Prop) (Mt : τ→List az) (Et : Nat→τ→Env) (Mid : Nat→τ→Prop) (Mx : κ→List az) (Fin : κ→Prop)
    (hput : ∀ k a,aE n E a→aE n (Ep k) { tmps:=(ps.zip (enc k)).foldl (fun t (x : Nat × Value)=>t.setIfInBounds x.1 x.2) a.tmps,defers:=[] }) (hsz : ∀ k,(enc k).size=ps.size)
    (hg : ev E g=some (.func (.func gf) #[] lb)) (eg : ∀ args w,(callFunc gf args).run P w=.ok (.enter gf args) w)
    (hseq : ∀ W,aa w0 S M W→qy P gf lb enc (fun b=>b ∈ Mo.map az.b) L N W) (hMo : ∀ e ∈ Mo,e.wr=true)
    (hwr : ∀ i,∀ e ∈ Mi i,e.wr=true) (hwt : ∀ i,∀ e ∈ Mt i,e.wr=true) (hwx : ∀ i,∀ e ∈ Mx i,e.wr=true)
    (hcell : ∀ i,∀ e ∈ Mi i,∀ o,e.A o→o.isCells=true) (hcelt : ∀ i,∀ e ∈ Mt i,∀ o,e.A o→o.isCells=true) (hcelx : ∀ i,∀ e ∈ Mx i,∀ o,e.A o→o.isCells=true)
    (hL : ∀ b ∈ L,b<w0.heap.size∧b ∉ S)
    (i0 : ι) (h0 : Inv 0 i0) (hM : ∀ w,aa w0 S M w→aa w0 S (Mo++Mi i0) w)
    (hasg : ∀ l k i w1,Inv k i→k<N→aa w0 S (Mi i) w1→JR P n w1 (gJ (Mi i)) l 1 (vK n (Mid k) (Et k) Mt w1 (gJ (Mi i))) qx (Ep k) (Mi i))
    (hbody : ∀ l k t w1,Mid k t→k<N→aa w0 S (Mt t) w1→JR P n w1 (gJ (Mt t)) l 1 (fY Mi Inv Mx Fin k w1 (gJ (Mt t))) body (Et k t) (Mt t))
    (hdone : ∀ D i,Inv N i→KE D n w0 S Q .normal E (⟨D,fN,true⟩::Mi i))
    (hstop : ∀ D x,Fin x→KE D n w0 S Q .ret E (⟨D,fN,true⟩::Mx x)) :
    JC P n w0 S Q (.rangeFunc g ps qx body) E M:=by
  refine ⟨fun a w ha hw=>(wpIn_wide (n:=3)).1 (wpIn_rangeFunc fun fn hfn=>?_)⟩
  let R : LoopState→Option Code→Loop:=fun st pe=>{ state:=st,pending:=pe,fn:=fn,tmps:=a.tmps,params:=ps,assign:=qx,body:=body,defers:=w.heap.size }
  have hsw0 : w0.heap.size≤w.heap.size:=hw.aC.size
  have gw0 : aa w0 S (Mo++Mi i0) w:=hM w hw
  have gw : aa w0 S (Mi i0) w:=by
    refine ⟨gw0.aC,?_,fun e he=>gw0.all e (List.mem_append_right _ he)⟩
    have:=gw0.nodup
    rw [List.map_append,List.nodup_append] at this
    exact this.2.1
  have hO0 : ∀ b,b ∈ Mo.map az.b→b<w.heap.size∧(b ∈ S∨w0.heap.size≤b):=fun b hb=>by
    obtain ⟨e,he,rfl⟩:=List.mem_map.1 hb
    exact ⟨gw0.lt (List.mem_append_left _ he),(gw0.all e (List.mem_append_left _ he)).2 (hMo e he)⟩
  have hd0 : ∀ e ∈ Mi i0,¬ e.b ∈ Mo.map az.b:=fun e he hb=>by
    have:=gw0.nodup
    rw [List.map_append,List.nodup_append] at this
    exact this.2.2 _ hb _ (List.mem_map_of_mem he) rfl
  have a1 : aa w0 S (Mi i0) (w.alloc (.deferred (some []))):=gw.gh (hcell i0) (World.grownBy_alloc w _ none) nofun
  have a2 : aa w0 S (Mi i0) ((w.alloc (.deferred (some []))).alloc (.loop (R .ready none))):=a1.gh (hcell i0) (World.grownBy_alloc _ _ none) nofun
  have hLp : ((w.alloc (.deferred (some []))).alloc (.loop (R .ready none))).heap[w.heap.size+1]?=some (.loop (R .ready none)):=by
    have:=World.alloc_heap_new (w.alloc (.deferred (some []))) (.loop (R .ready none))
    rwa [World.size_alloc] at this
  have hDp : ((w.alloc (.deferred (some []))).alloc (.loop (R .ready none))).heap[w.heap.size]?=some (.deferred (some [])):=
    (RowKit.Below.heap_alloc _ _ _ (by simp)).trans (World.alloc_heap_new w _)
  have hB : RowKit.Below w.heap.size w ((w.alloc (.deferred (some []))).alloc (.loop (R .ready none))):=((RowKit.Below.refl _ w).alloc (Nat.le_refl _) _).alloc (by simp) _
  have hs1 : ((w.alloc (.deferred (some []))).alloc (.loop (R .ready none))).heap.size=w.heap.size+2:=by simp
  obtain ⟨W1,hW1⟩ : ∃ W1,(w.alloc (.deferred (some []))).alloc (.loop (R .ready none))=W1:=⟨_,rfl⟩
  rw [hW1] at a2 hLp hDp hB hs1
  have notin : ∀ {X : List az} {W : World} {b : Nat} {o : Obj},(∀ e ∈ X,∀ o,e.A o→o.isCells=true)→aa w0 S X W→W.heap[b]?=some o→o.isCells=false→b ∉ gJ X:=fun {X W b o} hX hH hb ho hm=>by
    obtain ⟨e,he,_,rfl⟩:=dS.1 hm
    obtain ⟨o',ho',hA⟩:=(hH.all e he).1
    rw [hb] at ho'
    cases ho'
    rw [hX e he _ hA] at ho
    cases ho
  refine ⟨w.heap.size+1,[Sl.mk w.heap.size],W1,{ target:=.fn (.func gf) lb,args:=#[.func (.yield (w.heap.size+1)) #[] #[]] },W1,gf,#[.func (.yield (w.heap.size+1)) #[] #[]]++lb,W1,?_,?_,fun _ _=>trivial,?_,(fun h=>by cases h),?_⟩
  · rw [← hW1]
    exact run_enterLoop_outer _ _ _ _ _
  · simp only [resolve,ha.eval hg]
    simp [go_sem]
  · simp [invoke,go_sem,eg]
  refine (hseq w hw (w.heap.size+1)
    (fun k O V=>(∃ i,Inv k i∧aa w0 S (Mi i) V∧∀ e ∈ Mi i,¬ O e.b)∧¬ O (w.heap.size+1)∧¬ O w.heap.size∧V.heap[w.heap.size+1]?=some (.loop (R .ready none))∧V.heap[w.heap.size]?=some (.deferred (some []))∧(∀ b,O b→b<V.heap.size∧(b ∈ S∨w0.heap.size≤b)))
    (fun O V=>(∃ x,Fin x∧aa w0 S (Mx x) V∧∀ e ∈ Mx x,¬ O e.b)∧¬ O (w.heap.size+1)∧¬ O w.heap.size∧V.heap[w.heap.size+1]?=some (.loop (R .done (some .ret)))∧V.heap[w.heap.size]?=some (.deferred (some []))∧(∀ b,O b→b<V.heap.size∧(b ∈ S∨w0.heap.size≤b)))
    W1 hB.block ?_ ?_ (fun k O V ⟨_,_,_,_,_,h5⟩ b hb=>(h5 b hb).1) ?_ ⟨⟨i0,h0,a2,hd0⟩,fun h=>by have:=(hO0 _ h).1;omega,fun h=>by have:=(hO0 _ h).1;omega,hLp,hDp,fun b hb=>⟨by have:=(hO0 b hb).1;omega,(hO0 b hb).2⟩⟩).mono ?_
  · rintro k O Va Vb ⟨⟨i,hi,hH,hn⟩,h1,h2,h3,h4,h5⟩ hx
    have l1:=(Array.getElem?_eq_some_iff.1 h3).1
    have l2:=(Array.getElem?_eq_some_iff.1 h4).1
    have hz:=hH.aC.size
    refine ⟨⟨i,hi,hH.wP hn (fun b hb=>(h5 b hb).2) hx,fun e he h=>h.elim (hn e he) (by have:=hH.lt he;omega)⟩,fun h=>h.elim h1 (by omega),fun h=>h.elim h2 (by omega),(hx.same _ l1 h1).trans h3,(hx.same _ l2 h2).trans h4,fun b hb=>?_⟩
    have hs:=hx.size
    rcases hb with hb | hb
    · exact ⟨by have:=(h5 b hb).1;omega,(h5 b hb).2⟩
    · exact ⟨hb.2,.inr (by omega)⟩
  · rintro O Va Vb ⟨⟨i,hi,hH,hn⟩,h1,h2,h3,h4,h5⟩ hx
    have l1:=(Array.getElem?_eq_some_iff.1 h3).1
    have l2:=(Array.getElem?_eq_some_iff.1 h4).1
    have hz:=hH.aC.size
    refine ⟨⟨i,hi,hH.wP hn (fun b hb=>(h5 b hb).2) hx,fun e he h=>h.elim (hn e he) (by have:=hH.lt he;omega)⟩,fun h=>h.elim h1 (by omega),fun h=>h.elim h2 (by omega),(hx.same _ l1 h1).trans h3,(hx.same _ l2 h2).trans h4,fun b hb=>?_⟩
    have hs:=hx.size
    rcases hb with hb | hb
    · exact ⟨by have:=(h5 b hb).1;omega,(h5 b hb).2⟩
    · exact ⟨hb.2,.inr (by omega)⟩
  ·
    rintro k O V hk ⟨⟨i,hi,hH,hn⟩,h1,h2,hl,hd,h5⟩
    refine ⟨fn,_,qx,body,run_yield (P:=P) (args:=enc k) hl (hsz k),roundIn_of_wpIn hfn ?_⟩
    show Code.wpIn (Rd (w.heap.size+1)) 1 P _ _ ({ tmps:=(ps.zip (enc k)).foldl (fun t (x : Nat × Value)=>t.setIfInBounds x.1 x.2) a.tmps,defers:=[] } : Act) V
    have k2:=hput k a ha
    have nl0:=notin (hcell i) hH hl rfl
    have nd0:=notin (hcell i) hH hd rfl
    have hw0:=pT hn
    refine wpIn_mono ((hasg (w.heap.size+1) k i V hi hk hH).go _ V k2 hH.oF) ?_
    rintro e a1 Wa hq
    cases e with
    | exit id=>exact hq.elim
    | goto t=>exact hq.elim
    | panic ch=>exact hq.elim
    | outgrown=>exact hq.elim
    | ret=>exact hq.elim
    | normal=>
    obtain ⟨t,ht,k3,hHa⟩:=hq
    have hH' : aa w0 S (Mt t) Wa:=hH.gK hHa
    have nt:=lU hw0 (fun b hb=>(h5 b hb).1) (hwt t) hHa
    have hl' : Wa.heap[w.heap.size+1]?=some (.loop (R .ready none)):=(hHa.aC.block _ (Array.getElem?_eq_some_iff.1 hl).1 nl0).trans hl
    have hd' : Wa.heap[w.heap.size]?=some (.deferred (some [])):=(hHa.aC.block _ (Array.getElem?_eq_some_iff.1 hd).1 nd0).trans hd
    refine ⟨_,run_beginRound hl' rfl,?_⟩
    have hlt : w.heap.size+1<Wa.heap.size:=(Array.getElem?_eq_some_iff.1 hl').1
    obtain ⟨W2,hW2⟩ : ∃ W2,Wa.putObj (w.heap.size+1) (.loop { R .ready none with state:=.busy })=W2:=⟨_,rfl⟩
    have hH2 : aa w0 S (Mt t) W2:=hW2 ▸ hH'.gh (hcelt t) (grownBy_putObj' Wa _ _) (fun r e=>by cases e;exact ⟨by omega,_,hl',rfl⟩)
    have hl2 : W2.heap[w.heap.size+1]?=some (.loop (R .busy none)):=hW2 ▸ World.putObj_heap_same hlt
    have hd2' : W2.heap[w.heap.size]?=some (.deferred (some [])):=by rw [← hW2];exact (World.putObj_heap_other (by omega)).trans hd'
    have ho2 : ∀ b,b≠w.heap.size+1→W2.heap[b]?=Wa.heap[b]?:=fun b hb=>by rw [← hW2];exact World.putObj_heap_other hb
    have hz2 : W2.heap.size=Wa.heap.size:=by rw [← hW2];exact World.putObj_size
    have hza:=hHa.aC.size
    rw [hW2]
    refine wpIn_mono ((hbody (w.heap.size+1) k t W2 ht hk hH2).go _ W2 k3 hH2.oF) ?_
    have nl:=notin (hcelt t) hH2 hl2 rfl
    have nd:=notin (hcelt t) hH2 hd2' rfl
    have hs2 : w.heap.size+1<W2.heap.size:=(Array.getElem?_eq_some_iff.1 hl2).1
    have hwt':=pT nt
    have h52 : ∀ b,O b→b<W2.heap.size:=fun b hb=>by have:=(h5 b hb).1;omega
    have kept : ∀ {Mj : List az} {W3 : World},aa W2 (gJ (Mt t)) Mj W3→W3.heap[w.heap.size+1]?=some (.loop (R .busy none))∧W3.heap[w.heap.size]?=some (.deferred (some [])):=fun {Mj W3} h3=>
      ⟨(h3.aC.block _ hs2 nl).trans hl2,(h3.aC.block _ (by omega) nd).trans hd2'⟩
    have fin : ∀ {Mj : List az} {W3 : World} (ob : Obj),aa W2 (gJ (Mt t)) Mj W3→c5 O L V (W3.putObj (w.heap.size+1) ob):=fun {Mj W3} ob h3=>by
      have hu:=hH2.gK h3
      refine ⟨by rw [World.putObj_size];have:=h3.aC.size;omega,fun b hb=>?_,fun b hb=>?_⟩
      · have hne : b≠w.heap.size+1:=fun e=>h1 (e ▸ hb)
        exact (World.putObj_heap_other hne).trans ((h3.aC.block b (h52 b hb) fun hm=>hwt' b hm hb).trans ((ho2 b hne).trans (hHa.aC.block b (h5 b hb).1 fun hm=>hw0 b hm hb)))
      · obtain ⟨hb1,hb2⟩:=hL b hb
        exact (World.putObj_heap_other (by omega)).trans ((hu.aC.block b hb1 hb2).trans (hH.aC.block b hb1 hb2).symm)
    rintro e a3 W3 hq
    cases e with
    | normal=>
      obtain ⟨j,hj,h3⟩:=hq
      obtain ⟨hl3,hd3⟩:=kept h3
      have hu:=hH2.gK h3
      have hz3:=h3.aC.size
      exact ⟨_,_,run_endRound (P:=P) none hl3,fin _ h3,.inl ⟨rfl,⟨j,hj,hu.gh (hcell j) (grownBy_putObj' W3 _ _) (fun r e=>by cases e;exact ⟨by omega,_,hl3,rfl⟩),lU hwt' h52 (hwr j) h3⟩,h1,h2,World.putObj_heap_same (Array.getElem?_eq_some_iff.1 hl3).1,(World.putObj_heap_other (by omega)).trans hd3,fun b hb=>⟨by rw [World.putObj_size];have:=h52 b hb;omega,(h5 b hb).2⟩⟩⟩
    | ret=>
      obtain ⟨x,hx,h3⟩:=hq
      obtain ⟨hl3,hd3⟩:=kept h3
      have hu:=hH2.gK h3
      have hz3:=h3.aC.size
      exact ⟨_,_,run_endRound (P:=P) (some .ret) hl3,fin _ h3,.inr ⟨rfl,⟨x,hx,hu.gh (hcelx x) (grownBy_putObj' W3 _ _) (fun r e=>by cases e;exact ⟨by omega,_,hl3,rfl⟩),lU hwt' h52 (hwx x) h3⟩,h1,h2,World.putObj_heap_same (Array.getElem?_eq_some_iff.1 hl3).1,(World.putObj_heap_other (by omega)).trans hd3,fun b hb=>⟨by rw [World.putObj_size];have:=h52 b hb;omega,(h5 b hb).2⟩⟩⟩
    | exit id=>exact hq.elim
    | goto t=>exact hq.elim
    | panic ch=>exact hq.elim
    | outgrown=>exact hq.elim
  ·
    have know : cS w.heap.size n E { a with defers:=[Sl.mk w.heap.size]++a.defers }:=⟨by show _++a.defers=_;rw [ha.defers];rfl,⟨ha.size,rfl,ha.all⟩⟩
    rintro e W2 ⟨⟨v,rfl⟩,O,(⟨⟨i,hi,hH,_⟩,_,_,hl,hd,_⟩ | ⟨⟨x,hx,hH,_⟩,_,_,hl,hd,_⟩)⟩
    · have h4:=hH.gh (hcell i) (grownBy_putObj' W2 (w.heap.size+1) (.loop { R .ready none with state:=.exhausted })) (fun r e=>by cases e;exact ⟨by omega,_,hl,rfl⟩)
      exact ⟨none,_,run_endLoop hl (by simp [R]),(hdone w.heap.size i hi).go _ _ know (h4.vk (hcell i) hsw0 ((World.putObj_heap_other (by omega)).trans hd))⟩
    · have h4:=hH.gh (hcelx x) (grownBy_putObj' W2 (w.heap.size+1) (.loop { R .done (some .ret) with state:=.exhausted })) (fun r e=>by cases e;exact ⟨by omega,_,hl,rfl⟩)
      exact ⟨some .ret,_,run_endLoop hl (by simp [R]),wpIn_ret ((hstop w.heap.size x hx).go _ _ know (h4.vk (hcelx x) hsw0 ((World.putObj_heap_other (by omega)).trans hd)))⟩
end Sl
end
section
namespace eu
open bV
def kD : List By→List By→List (List By × List By)
  | [],x=>if x=[] then [] else [(x,[])]
  | c::r,x=>if c=10 then (if x.getLast?=some 13 then (x.dropLast,[13,10]) else (x,[10]))::kD r [] else kD r (x++[c])
def aM (b : List By) : List (List By × List By):=kD b []
end eu
end
section
namespace eu
open bV
def aG (r : List By) : List By:=if r.getLast?=some 10 then (if r.dropLast.getLast?=some 13 then r.dropLast.dropLast else r.dropLast) else r
def aH (d : List By) : Nat:=if (d.takeWhile (· != 10)).length<d.length then (d.takeWhile (· != 10)).length+1 else d.length
theorem gM (d : List By) : aH d≤d.length:=by
  unfold aH
  split <;> omega
theorem fj {d : List By} (h : d≠[]) : 0<aH d:=by
  have:=List.length_pos_iff.2 h
  unfold aH
  split <;> omega
theorem iB (x : List By) (c : By) : (x++[c]).getLast?=some c:=by simp
theorem dU (x : List By) : aG (x++[13,10])=x:=by
  have e : x++[13,10]=(x++[13])++[10]:=by simp
  unfold aG
  rw [e,if_pos (iB _ _),List.dropLast_concat,if_pos (iB _ _),List.dropLast_concat]
theorem gN {x : List By} (h : x.getLast?≠some 13) : aG (x++[10])=x:=by
  unfold aG
  rw [if_pos (iB _ _),List.dropLast_concat,if_neg h]
theorem uC {x : List By} (h : x.getLast?≠some 10) : aG x=x:=by
  unfold aG
  rw [if_neg h]
theorem lV : ∀ d : List By,(∃ p r,d=p++10::r∧(∀ c ∈ p,c≠10)∧d.takeWhile (· != 10)=p)∨((∀ c ∈ d,c≠10)∧d.takeWhile (· != 10)=d)
  | []=>.inr ⟨by simp,rfl⟩
  | c::d=>by
    by_cases h : c=10
    · subst h
      exact .inl ⟨[],d,rfl,by simp,by simp⟩
    · have hb : (c != 10)=true:=by simpa using h
      rcases lV d with ⟨p,r,e,h1,h2⟩ | ⟨h1,h2⟩
      · refine .inl ⟨c::p,r,by rw [e];rfl,?_,?_⟩
        · intro x hx
          rcases List.mem_cons.1 hx with rfl | hx
          · exact h
          · exact h1 x hx
        · rw [List.takeWhile_cons,if_pos hb,h2]
      · refine .inr ⟨?_,?_⟩
        · intro x hx
          rcases List.mem_cons.1 hx with rfl | hx
          · exact h
          · exact h1 x hx
        · rw [List.takeWhile_cons,if_pos hb,h2]
theorem jS : ∀ (p r x : List By),(∀ c ∈ p,c≠10)→kD (p++r) x=kD r (x++p)
  | [],r,x,_=>by simp
  | c::p,r,x,h=>by
    show kD (c::(p++r)) x=_
    rw [kD,if_neg (h c (by simp)),jS p r (x++[c]) (fun y hy=>h y (by simp [hy]))]
    simp
theorem mU {d : List By} (h : d≠[]) : ∃ e,aM d=(aG (d.take (aH d)),e)::aM (d.drop (aH d))∧d.take (aH d)=aG (d.take (aH d))++e∧(aH d<d.length→e=[10]∧(aG (d.take (aH d))).getLast?≠some 13∨e=[13,10])∧(aH d<d.length→∃ p,d.take (aH d)=p++[10]∧∀ c ∈ p,c≠10):=by
  rcases lV d with ⟨p,r,e,h1,h2⟩ | ⟨h1,h2⟩
  · have hn : aH d=p.length+1:=by
      unfold aH
      rw [h2,if_pos (by rw [e];simp)]
    have ht : d.take (aH d)=p++[10]:=by
      rw [hn,e,show p++10::r=(p++[10])++r by simp]
      rw [List.take_left' (by simp)]
    have hd : d.drop (aH d)=r:=by
      rw [hn,e,show p++10::r=(p++[10])++r by simp]
      rw [List.drop_left' (by simp)]
    have hl : aM d=kD (10::r) p:=by
      unfold aM
      rw [e,jS p (10::r) [] h1]
      rfl
    rw [hd,ht,hl,kD,if_pos rfl]
    by_cases h13 : p.getLast?=some 13
    · obtain ⟨q,rfl⟩ : ∃ q,p=q++[13]:=List.getLast?_eq_some_iff.1 h13
      refine ⟨[13,10],?_,?_,fun _=>.inr rfl,fun _=>⟨_,rfl,h1⟩⟩
      · rw [if_pos h13,show (q++[13])++[10]=q++[13,10] by simp,dU,List.dropLast_concat]
        rfl
      · rw [show (q++[13])++[10]=q++[13,10] by simp,dU]
    · refine ⟨[10],?_,?_,fun _=>.inl ⟨rfl,?_⟩,fun _=>⟨_,rfl,h1⟩⟩
      · rw [if_neg h13,gN h13]
        rfl
      · rw [gN h13]
      · rw [gN h13];exact h13
  · have hn : aH d=d.length:=by
      unfold aH
      rw [h2,if_neg (by omega)]
    have ht : d.take (aH d)=d:=by rw [hn,List.take_length]
    have hd : d.drop (aH d)=[]:=by rw [hn,List.drop_length]
    have hw : aG d=d:=uC (fun hh=>by
      have hm : (10 : By) ∈ d:=List.mem_of_getLast? hh
      exact h1 10 hm rfl)
    refine ⟨[],?_,?_,fun hh=>by omega,fun hh=>by omega⟩
    · rw [hd,ht,hw]
      unfold aM
      have:=jS d [] [] h1
      rw [List.append_nil,List.nil_append] at this
      rw [this,kD,if_neg h]
      rfl
    · rw [ht,hw,List.append_nil]
end eu
end
section
set_option maxRecDepth 10000
open Sl bV eu
namespace Rw
theorem fk (s : aq) (m : Nat) : s.fst m=⟨s.ad,s.cap,s.l.take m⟩:=by
  unfold aq.fst
  congr 1
  split
  · rfl
  · cases s.ad <;> simp [Addr.add]
def fT (s : aq) : aq:=⟨s.ad,s.cap,aG s.l⟩
theorem mV (l : List Bt) : ∃ m,m≤l.length∧aG l=l.take m:=by
  unfold aG
  split
  · split
    · exact ⟨l.length - 1 - 1,by omega,by rw [List.dropLast_eq_take,List.dropLast_eq_take,List.take_take,List.length_take];congr 1;omega⟩
    · exact ⟨l.length - 1,by omega,by rw [List.dropLast_eq_take]⟩
  · exact ⟨l.length,Nat.le_refl _,by rw [List.take_length]⟩
theorem sy {s : aq} {w : World} (h : s.ok w) : (fT s).ok w:=by
  obtain ⟨m,_,e⟩:=mV s.l
  unfold fT
  rw [e,← fk]
  exact h.fst m
theorem pU (l : List Bt) (c : Bt) : uq l [c]=decide (l.getLast?=some c):=by
  unfold uq
  rcases List.eq_nil_or_concat l with rfl | ⟨p,x,rfl⟩
  · rfl
  · simp
    intro _
    omega
theorem kR : aR Tryd.prog 50:=⟨_,Tryd.func50,rfl,by kernel_rfl⟩
theorem sA (s d : aq) (c : Bt) (w : World) (hs : s.ok w) (hd : d.ok w) (hdl : d.l=[c]) (hl : s.l.length≤4611686018427387904) :
    Calls Tryd.prog 50 [s.v,d.v].toArray w fun e w'=>e=.returned (.tuple #[(if s.l.getLast?=some c then (⟨s.ad,s.cap,s.l.dropLast⟩ : aq) else s).v,.bool (decide (s.l.getLast?=some c))])∧Ext w w':=by
  have hsf:=fun (w' : World) (h1 : s.ok w') (h2 : d.ok w')=>pR s d w' h1 h2 hl
  rw [hdl,pU] at hsf
  have hdn : d.l.length=1:=by rw [hdl];rfl
  refine enter (n:=18) Tryd.func50 rfl rfl rfl (aa.start w []) ?_
  cases h : decide (s.l.getLast?=some c)
  · rw [h] at hsf
    rw [if_neg (of_decide_eq_false h)]
    repeat (first | refine JL.q (by first|(apply OQ.aB (vs:=[s.v,d.v]);exact gF;rfl;exact (fun w' hw'=>hsf w' (hs.holds hw' rfl) (hd.holds hw' rfl)))|(apply OQ.not;rfl)|(apply OQ.move;rfl)|(apply OQ.assign;rfl)) rfl ?_ | refine JC.seq ?_ | refine JC.region ?_ | refine JL.nil ?_ | refine JE.next ?_)
    refine JC.cond_true rfl rfl ?_
    repeat (first | refine JL.q (by first|(apply OQ.move;rfl)|(apply OQ.assign;rfl)) rfl ?_ | refine JC.seq ?_ | refine JC.region ?_ | refine JL.nil ?_ | refine JE.next ?_)
    refine JC.ret ?_
    repeat (refine JE.av ?_)
    exact JE.wo rfl (RV.tmp rfl) (RV.tmp rfl) fun w' hw=>⟨rfl,hw.aC⟩
  · rw [h] at hsf
    have hne : s.l≠[]:=fun e=>by rw [e] at h;cases h
    have hpos:=List.length_pos_iff.2 hne
    rw [if_pos (of_decide_eq_true h)]
    have he : (s.fst (s.l.length - d.l.length))=⟨s.ad,s.cap,s.l.dropLast⟩:=by rw [fk,List.dropLast_eq_take,hdn]
    repeat (first | refine JL.q (by first|(apply OQ.aB (vs:=[s.v,d.v]);exact gF;rfl;exact (fun w' hw'=>hsf w' (hs.holds hw' rfl) (hd.holds hw' rfl)))|(apply OQ.not;rfl)|(apply OQ.move;rfl)|(apply OQ.assign;rfl)) rfl ?_ | refine JC.seq ?_ | refine JC.region ?_ | refine JL.nil ?_ | refine JE.next ?_)
    refine JC.cond_false rfl rfl ?_
    rw [← he]
    repeat (first | refine JL.q (by first|(apply OQ.len (k:=s.l.length) (ad:=s.ad) (cap:=s.cap);exact Tryd.underlying22;rfl)|(apply OQ.len (k:=d.l.length) (ad:=d.ad) (cap:=d.cap);exact Tryd.underlying22;rfl)|(apply OQ.lJ (a:=s.l.length) (b:=d.l.length);rfl;rfl;exact (by omega);exact (by omega))|(apply OQ.fst (s:=s) (m:=s.l.length - d.l.length);exact Tryd.underlying22;exact cn;rfl;rfl;exact (by omega);exact hs.len)|(apply OQ.move;rfl)|(apply OQ.assign;rfl)) rfl ?_ | refine JC.seq ?_ | refine JC.region ?_ | refine JC.skip ?_ | refine JL.nil ?_ | refine JE.next ?_)
    refine JC.ret ?_
    skip
    exact JE.wo rfl (RV.tmp rfl) (RV.tmp rfl) fun w' hw=>⟨rfl,hw.aC⟩
theorem qz : aR Tryd.prog 51:=⟨_,Tryd.func51,rfl,by kernel_rfl⟩
theorem sB (s d : aq) (c : Bt) (w : World) (hs : s.ok w) (hd : d.ok w) (hdl : d.l=[c]) (hl : s.l.length≤4611686018427387904) :
    Calls Tryd.prog 51 [s.v,d.v].toArray w fun e w'=>e=.returned ((if s.l.getLast?=some c then (⟨s.ad,s.cap,s.l.dropLast⟩ : aq) else s).v)∧Ext w w':=by
  have hsf:=fun (w' : World) (h1 : s.ok w') (h2 : d.ok w')=>pR s d w' h1 h2 hl
  rw [hdl,pU] at hsf
  have hdn : d.l.length=1:=by rw [hdl];rfl
  refine enter (n:=16) Tryd.func51 rfl rfl rfl (aa.start w []) ?_
  cases h : decide (s.l.getLast?=some c)
  · rw [h] at hsf
    rw [if_neg (of_decide_eq_false h)]
    repeat (first | refine JL.q (by first|(apply OQ.aB (vs:=[s.v,d.v]);exact gF;rfl;exact (fun w' hw'=>hsf w' (hs.holds hw' rfl) (hd.holds hw' rfl)))|(apply OQ.move;rfl)|(apply OQ.assign;rfl)) rfl ?_ | refine JC.seq ?_ | refine JC.region ?_ | refine JL.nil ?_ | refine JE.next ?_)
    refine JC.cond_false rfl rfl ?_
    repeat (first | refine JL.q (by first|(apply OQ.move;rfl)|(apply OQ.assign;rfl)) rfl ?_ | refine JC.seq ?_ | refine JC.region ?_ | refine JC.skip ?_ | refine JL.nil ?_ | refine JE.next ?_)
    refine JC.ret ?_
    skip
    exact JE.aJ rfl (RV.tmp rfl) fun w' hw=>⟨rfl,hw.aC⟩
  · rw [h] at hsf
    have hne : s.l≠[]:=fun e=>by rw [e] at h;cases h
    have hpos:=List.length_pos_iff.2 hne
    rw [if_pos (of_decide_eq_true h)]
    have he : (s.fst (s.l.length - d.l.length))=⟨s.ad,s.cap,s.l.dropLast⟩:=by rw [fk,List.dropLast_eq_take,hdn]
    repeat (first | refine JL.q (by first|(apply OQ.aB (vs:=[s.v,d.v]);exact gF;rfl;exact (fun w' hw'=>hsf w' (hs.holds hw' rfl) (hd.holds hw' rfl)))|(apply OQ.move;rfl)|(apply OQ.assign;rfl)) rfl ?_ | refine JC.seq ?_ | refine JC.region ?_ | refine JL.nil ?_ | refine JE.next ?_)
    refine JC.cond_true rfl rfl ?_
    rw [← he]
    repeat (first | refine JL.q (by first|(apply OQ.len (k:=s.l.length) (ad:=s.ad) (cap:=s.cap);exact Tryd.underlying22;rfl)|(apply OQ.len (k:=d.l.length) (ad:=d.ad) (cap:=d.cap);exact Tryd.underlying22;rfl)|(apply OQ.lJ (a:=s.l.length) (b:=d.l.length);rfl;rfl;exact (by omega);exact (by omega))|(apply OQ.fst (s:=s) (m:=s.l.length - d.l.length);exact Tryd.underlying22;exact cn;rfl;rfl;exact (by omega);exact hs.len)|(apply OQ.move;rfl)|(apply OQ.assign;rfl)) rfl ?_ | refine JC.seq ?_ | refine JC.region ?_ | refine JL.nil ?_ | refine JE.next ?_)
    refine JC.ret ?_
    repeat (refine JE.av ?_)
    exact JE.aJ rfl (RV.tmp rfl) fun w' hw=>⟨rfl,hw.aC⟩
theorem eJ {w0 w : World} {S : List Nat} {M : List az} {b : Nat} {e : TypeId} {l : List Bt} {wr : Bool} (hw : aa w0 S M w) (hM : Has M b (Row e (l.map U8)) wr) : aq.ok w ⟨some ⟨b,0,none⟩,l.length,l⟩:=by
  obtain ⟨o,ho,hA⟩:=hw.get hM
  exact ⟨Nat.le_refl _,Reads.block ho (Row.all _ hA)⟩
theorem qA : aR Tryd.prog 31:=⟨_,Tryd.func31,rfl,by kernel_rfl⟩
set_option maxHeartbeats 4000000 in
theorem sC (s : aq) (w : World) (hs : s.ok w) (hl : s.l.length≤4611686018427387904) :
    Calls Tryd.prog 31 [s.v].toArray w fun e w'=>e=.returned (fT s).v∧Ext w w':=by
  refine enter (n:=17) Tryd.func31 rfl rfl rfl (aa.start w []) ?_
  repeat (first | refine JL.q (by first|(apply OQ.move;rfl)|(apply OQ.assign;rfl)) rfl ?_ | refine JC.seq ?_ | refine JC.region ?_ | refine JL.nil ?_ | refine JE.next ?_)
  refine JL.gA (v:=U8 (10 : BitVec 8)) Tryd.underlying22 eD rfl rfl rfl rfl fun bl _=>?_
  have c1:=fun (w' : World) (h1 : s.ok w') (h2 : aq.ok w' ⟨some ⟨bl,0,none⟩,1,[10]⟩)=>sA s ⟨some ⟨bl,0,none⟩,1,[10]⟩ 10 w' h1 h2 rfl hl
  cases h : decide (s.l.getLast?=some 10)
  · rw [h,if_neg (of_decide_eq_false h)] at c1
    have ht : fT s=s:=by unfold fT aG;rw [if_neg (of_decide_eq_false h)]
    rw [ht]
    repeat (first | refine JL.q (by first|(apply OQ.aB (vs:=[s.v,.slice (some ⟨bl,0,none⟩) 1 1]);exact kR;rfl;exact (fun w' hw'=>c1 w' (hs.holds hw' rfl) (eJ (l:=[10]) hw' .here)))|(apply OQ.extract;rfl;rfl)|(apply OQ.not;rfl)|(apply OQ.move;rfl)|(apply OQ.assign;rfl)) rfl ?_ | refine JC.seq ?_ | refine JC.region ?_ | refine JL.nil ?_ | refine JE.next ?_)
    refine JC.cond_true rfl rfl ?_
    repeat (first | refine JL.q (by first|(apply OQ.move;rfl)|(apply OQ.assign;rfl)) rfl ?_ | refine JC.seq ?_ | refine JC.region ?_ | refine JL.nil ?_ | refine JE.next ?_)
    refine JC.ret ?_
    repeat (refine JE.av ?_)
    exact JE.aJ rfl (RV.tmp rfl) fun w' hw=>⟨rfl,hw.aC⟩
  · have h10:=of_decide_eq_true h
    rw [h,if_pos h10] at c1
    obtain ⟨r,hr⟩ : ∃ r : aq,(⟨s.ad,s.cap,s.l.dropLast⟩ : aq)=r:=⟨_,rfl⟩
    have rok : ∀ {w' : World},s.ok w'→r.ok w':=fun {w'} h=>by
      rw [← hr,List.dropLast_eq_take,← fk]
      exact h.fst _
    have hrl : r.l.length≤4611686018427387904:=by
      rw [← hr]
      simp only [List.length_dropLast]
      omega
    have c2:=fun (b2 : Nat) (w' : World) (h1 : r.ok w') (h2 : aq.ok w' ⟨some ⟨b2,0,none⟩,1,[13]⟩)=>sB r ⟨some ⟨b2,0,none⟩,1,[13]⟩ 13 w' h1 h2 rfl hrl
    have ht : (if r.l.getLast?=some 13 then (⟨r.ad,r.cap,r.l.dropLast⟩ : aq) else r)=fT s:=by
      unfold fT aG
      rw [if_pos h10,← hr]
      dsimp only
      split <;> rfl
    rw [ht] at c2
    rw [hr] at c1
    repeat (first | refine JL.q (by first|(apply OQ.aB (vs:=[s.v,.slice (some ⟨bl,0,none⟩) 1 1]);exact kR;rfl;exact (fun w' hw'=>c1 w' (hs.holds hw' rfl) (eJ (l:=[10]) hw' .here)))|(apply OQ.extract;rfl;rfl)|(apply OQ.not;rfl)|(apply OQ.move;rfl)|(apply OQ.assign;rfl)) rfl ?_ | refine JC.seq ?_ | refine JC.region ?_ | refine JL.nil ?_ | refine JE.next ?_)
    refine JC.cond_false rfl rfl ?_
    repeat (first | refine JL.q (by (apply OQ.move;rfl)) rfl ?_ | refine JC.seq ?_ | refine JC.region ?_ | refine JC.skip ?_ | refine JE.next ?_)
    refine JL.gA (v:=U8 (13 : BitVec 8)) Tryd.underlying22 eD rfl rfl rfl rfl fun b2 _=>?_
    repeat (first | refine JL.q (by first|(apply OQ.aB (vs:=[r.v,.slice (some ⟨b2,0,none⟩) 1 1]);exact qz;rfl;exact (fun w' hw'=>c2 b2 w' (rok (hs.holds hw' rfl)) (eJ (l:=[13]) hw' .here)))|(apply OQ.assign;rfl)) rfl ?_ | refine JL.nil ?_ | refine JE.next ?_)
    refine JC.ret ?_
    skip
    exact JE.aJ rfl (RV.tmp rfl) fun w' hw=>⟨rfl,hw.aC⟩
theorem mW : aR Tryd.prog 30:=⟨_,Tryd.func30,rfl,by kernel_rfl⟩
def uD (b : Nat) : Value:=.func (.func 49) #[] #[Pt b 0]
theorem oH (s : aq) (w : World) : Calls Tryd.prog 30 [s.v].toArray w fun e w'=>∃ b : Nat,e=.returned (uD b)∧aa w [] [⟨b,Row 22 [s.v],true⟩] w':=by
  refine enter (n:=4) Tryd.func30 rfl rfl rfl (aa.start w []) ?_
  refine JC.seq (JC.region (JL.box (r:=[s.v]) rfl rfl rfl fun b _=>?_))
  repeat (first | refine JL.q (by first|(apply OQ.xk (caps:=[Pt b 0]);rfl)|(apply OQ.assign;rfl)) rfl ?_ | refine JC.seq ?_ | refine JC.region ?_ | refine JL.nil ?_ | refine JE.next ?_)
  refine JC.ret ?_
  skip
  exact JE.aJ rfl (RV.tmp rfl) fun w' hw=>⟨b,rfl,hw⟩
theorem eK : aR Tryd.prog 16:=⟨_,Tryd.func16,rfl,by kernel_rfl⟩
def jT (b : Nat) : Value:=.func (.func 29) #[] #[Pt b 0]
theorem fE (s : aq) (w : World) : Calls Tryd.prog 16 [s.v].toArray w fun e w'=>∃ b : Nat,e=.returned (jT b)∧aa w [] [⟨b,Row 22 [s.v],true⟩] w':=by
  refine enter (n:=4) Tryd.func16 rfl rfl rfl (aa.start w []) ?_
  refine JC.seq (JC.region (JL.box (r:=[s.v]) rfl rfl rfl fun b _=>?_))
  repeat (first | refine JL.q (by first|(apply OQ.xk (caps:=[Pt b 0]);rfl)|(apply OQ.assign;rfl)) rfl ?_ | refine JC.seq ?_ | refine JC.region ?_ | refine JL.nil ?_ | refine JE.next ?_)
  refine JC.ret ?_
  skip
  exact JE.aJ rfl (RV.tmp rfl) fun w' hw=>⟨b,rfl,hw⟩
end Rw
end
section
set_option maxRecDepth 10000
open Sl bV eu
namespace Rw
def au (l : List Bt) : Nat→Nat
  | 0=>0
  | k+1=>au l k+aH (l.drop (au l k))
def gO (r : aq) : aq:=if (r.l.takeWhile (· != 10)).length<r.l.length then r.snd ((r.l.takeWhile (· != 10)).length+1) else ⟨none,0,[]⟩
def cU (s : aq) : Nat→aq
  | 0=>s
  | k+1=>gO (cU s k)
def eU (r : aq) : aq:=⟨r.ad,r.cap,r.l.take (aH r.l)⟩
def kS (r : aq) : aq:=⟨r.ad,aH r.l,r.l.take (aH r.l)⟩
theorem uE (r : aq) : (gO r).l=r.l.drop (aH r.l):=by
  unfold gO aH
  split
  · rfl
  · rw [List.drop_length]
theorem iC (s : aq) : ∀ k,(cU s k).l=s.l.drop (au s.l k)
  | 0=>rfl
  | k+1=>by
    show (gO (cU s k)).l=_
    rw [uE,iC s k,List.drop_drop]
    rfl
theorem sD {r : aq} {w : World} (h : r.ok w) : (gO r).ok w:=by
  unfold gO
  split
  · rename_i h0
    exact h.snd _ h0
  · exact ⟨Nat.le_refl _,Reads.nil _ _⟩
theorem fF {s : aq} {w : World} (h : s.ok w) : ∀ k,(cU s k).ok w
  | 0=>h
  | k+1=>sD (fF h k)
theorem uF {r : aq} {w : World} (h : r.ok w) : (eU r).ok w:=by
  unfold eU
  rw [← fk]
  exact h.fst _
theorem gP {r : aq} {w : World} (h : r.ok w) : (kS r).ok w:=
  ⟨by show (r.l.take _).length≤aH r.l;rw [List.length_take];exact Nat.min_le_left _ _,(uF h).reads⟩
theorem bF (l : List Bt) : ∀ k,au l k≤l.length
  | 0=>Nat.zero_le _
  | k+1=>by
    have:=bF l k
    have h:=gM (l.drop (au l k))
    rw [List.length_drop] at h
    show au l k+_≤_
    omega
theorem sE {d : List Bt} : aM d=[]↔d=[]:=by
  constructor
  · intro h
    by_cases hd : d=[]
    · exact hd
    · obtain ⟨e,h1,_⟩:=mU hd
      rw [h1] at h
      cases h
  · rintro rfl;rfl
theorem pV (l : List Bt) : ∀ k,aM (l.drop (au l k))=(aM l).drop k
  | 0=>rfl
  | k+1=>by
    have ih:=pV l k
    by_cases hd : l.drop (au l k)=[]
    · have e : au l (k+1)=au l k:=by
        show au l k+aH (l.drop (au l k))=_
        rw [hd]
        rfl
      have h1 : (aM l).drop k=[]:=by rw [← ih,hd];rfl
      rw [e,hd,← List.drop_drop (i:=1),h1]
      rfl
    · obtain ⟨e,h1,_⟩:=mU hd
      rw [h1,List.drop_drop] at ih
      show aM (l.drop (au l k+aH (l.drop (au l k))))=_
      rw [← List.drop_drop (i:=1),← ih]
      rfl
theorem dj (l : List Bt) (k : Nat) : k<(aM l).length↔au l k<l.length:=by
  have h:=congrArg List.length (pV l k)
  rw [List.length_drop] at h
  have h2 : (aM (l.drop (au l k))).length=0↔l.length≤au l k:=by
    rw [List.length_eq_zero_iff,sE,List.drop_eq_nil_iff]
  omega
theorem uG (l : List Bt) : au l (aM l).length=l.length:=by
  have:=mt (dj l (aM l).length).2 (by omega)
  have:=bF l (aM l).length
  omega
def dA (s : aq) : List Nat:=match s.l,s.ad with
  | _::_,some a=>[a.block]
  | _,_=>[]
theorem cu {s : aq} {w : World} (h : s.ok w) : ∀ k ∈ dA s,k<w.heap.size:=by
  obtain ⟨ad,cap,l⟩:=s
  intro k hk
  cases l with
  | nil=>cases hk
  | cons c r=>
    cases ad with
    | none=>cases hk
    | some a=>
      obtain rfl:=List.mem_singleton.1 hk
      exact h.lt (by simp) a rfl
theorem c7 {s : aq} {w w' : World} (h : s.ok w) (hk : ∀ k ∈ dA s,w'.heap[k]?=w.heap[k]?) : s.ok w':=by
  obtain ⟨ad,cap,l⟩:=s
  refine ⟨h.len,fun i v hv=>?_⟩
  obtain ⟨b,j,e,c⟩:=h.reads i v hv
  refine ⟨b,j,e,?_⟩
  dsimp only at hv e
  subst e
  cases l with
  | nil=>simp at hv
  | cons c' r=>
    have hb : w'.heap[b]?=w.heap[b]?:=hk b (List.mem_singleton.2 rfl)
    unfold World.cell? at c ⊢
    rw [hb]
    exact c
theorem xQ (r : aq) (m : Nat) (h : r.l.length=m) : (.slice (if m=0 then r.ad else r.ad.map (·.add 0)) m m : Value)=(⟨r.ad,m,r.l⟩ : aq).v:=by
  unfold aq.v
  have e : (if m=0 then r.ad else r.ad.map (·.add 0))=r.ad:=by
    split
    · rfl
    · cases r.ad <;> simp [Addr.add]
  rw [e,h]
theorem cr {P : Program} {n : Nat} {E : Env} {dst : Option Tmp} {t ty : TypeId} {pos : String} {aft : Array Edge} {g : Option (Nat × Bool)} {x : Operand} {b j : Nat} {v : Value} {W : World} {o : Obj} (hs : fM P t=true) (hx : ev E x=some (.pointer (some ⟨b,j,none⟩))) (ho : W.heap[b]?=some o) (hA : cellAt o j=some v) : OQ P n E (fun w=>w=W) ⟨dst,.load t x,ty,pos,aft,g⟩ v:=
  OQ.cN (fun _ hw=>by rw [hw];exact bn hs (cell_of ho hA)) hx
def uH (s : aq) (k : Nat) : Value:=(kS (cU s k)).v
set_option maxHeartbeats 8000000 in
theorem oI (s : aq) (bs : Nat) (hl : s.l.length≤4611686018427387904) (W0 : World) (hs : s.ok W0) (hn : ∀ k ∈ dA s,k≠bs) {t : TypeId} (hb : W0.heap[bs]?=some (.cells #[s.v] t (0,0))) :
    qy Tryd.prog 49 #[Pt bs 0] (fun k=>#[uH s k]) (fun b=>b ∈ [bs]) (dA s) (aM s.l).length W0:=by
  intro l J X W hW hst hsx hlt hY h0
  have hbs : bs<W0.heap.size:=(Array.getElem?_eq_some_iff.1 hb).1
  refine callsIn_wide.2 ?_
  refine sv (n:=30) (vs:=[.func (.yield l) #[] #[],Pt bs 0]) Tryd.func49 rfl rfl rfl ?_
  refine FC.block (FC.loop (fun k : Nat=>[(0,.func (.yield l) #[] #[]),(1,Pt bs 0)])
    (fun k w=>k≤(aM s.l).length∧s.ok w∧w.heap[bs]?=some (.cells #[(cU s k).v] t (0,0))∧∃ O : BP,J k O w∧O bs) (fun k=>(aM s.l).length - k) 0 ⟨Nat.zero_le _,c7 hs fun k hk=>hW k (cu hs k hk),(hW bs hbs).trans hb,_,h0,List.mem_singleton.2 rfl⟩ (by repeat (first | exact ax.nil | refine ax.cons _ _ _ rfl ?_)) ?_)
  rintro k w ⟨hk,ok,hw,O,hJ,hO⟩
  have okR:=fun w (h : s.ok w)=>fF (w:=w) h k
  have okr:=okR w ok
  have hrl:=iC s k
  have hnx : cU s (k+1)=gO (cU s k):=rfl
  have hen : uH s k=(kS (cU s k)).v:=rfl
  have hlt:=dj s.l k
  have hdl : (cU s k).l.length=s.l.length - au s.l k:=by rw [hrl,List.length_drop]
  have hYk:=fun O w' hk=>hY k O w' hk
  dsimp only at hYk
  rw [hen] at hYk
  generalize cU s k=r at *
  have hc0 : cellAt (.cells #[r.v] t (0,0)) 0=some r.v:=rfl
  refine GC.wide (m:=3) ?_
  repeat (first | refine GL.q (by first|(apply cr;rfl;rfl;exact hw;exact hc0)|(apply OQ.len (k:=r.l.length) (ad:=r.ad) (cap:=r.cap);exact Tryd.underlying22;rfl)|(apply OQ.eo (b:=0);rfl;rfl;rfl)) rfl rfl ?_ | refine GC.seq ?_ | refine GC.region ?_ | refine GL.nil ?_ | refine FE.c6 ?_)
  refine GC.cond rfl (fun h=>?_) (fun h=>?_)
  rotate_left
  · have hkp : k=(aM s.l).length:=by
      have:=of_decide_eq_false h
      omega
    clear h
    subst hkp
    repeat (first | refine GC.exit ?_ | refine FE.aS ?_ | refine FE.bE ?_)
    exact FE.jd rfl ⟨⟨_,rfl⟩,O,.inl hJ⟩
  have hpos : 0<r.l.length:=by have:=of_decide_eq_true h;omega
  clear h
  have hkp : k<(aM s.l).length:=by omega
  have hrl : r.l.length≤4611686018427387904:=by omega
  have hcap:=okr.len
  have hraw : aH r.l=if (r.l.takeWhile (· != 10)).length<r.l.length then (r.l.takeWhile (· != 10)).length+1 else r.l.length:=rfl
  have hrw:=gM r.l
  have hix : oC 10 r.l=if (r.l.takeWhile (· != 10)).length<r.l.length then (((r.l.takeWhile (· != 10)).length : Nat) : Int) else -1:=rfl
  have hpr : r.fst (aH r.l)=eU r:=fk r _
  have hr1 : gO r=if (r.l.takeWhile (· != 10)).length<r.l.length then r.snd ((r.l.takeWhile (· != 10)).length+1) else ⟨none,0,[]⟩:=rfl
  repeat (first | refine GL.q (by first|(apply cr;rfl;rfl;exact hw;exact hc0)|(apply OQ.assign;rfl)) rfl rfl ?_ | refine GC.seq ?_ | refine GC.region ?_ | refine GC.block ?_ | refine GC.skip ?_ | refine GL.nil ?_ | refine FE.c6 ?_)
  refine GL.aB (vs:=[r.v,U8 10]) kQ rfl rfl (jK r 10 w okr) fun w1 hx=>?_
  have ok:=ok.ext hx
  have hJ:=hst _ _ _ _ hJ (cW.iA hx)
  have hO : grown O w w1 bs:=.inl hO
  generalize grown O w w1=O1 at *
  have hw:=(hx.block _ (Array.getElem?_eq_some_iff.1 hw).1 (by simp)).trans hw
  have okr:=okr.ext hx
  clear hx
  rw [hix]
  refine GL.q (OQ.assign rfl) rfl rfl (GL.nil (FE.c6 ?_))
  obtain ⟨f,hf⟩ : ∃ f,decide ((r.l.takeWhile (· != 10)).length<r.l.length)=f:=⟨_,rfl⟩
  have hg : decide ((0 : Int)≤(if (r.l.takeWhile (· != 10)).length<r.l.length then (((r.l.takeWhile (· != 10)).length : Nat) : Int) else -1))=f:=by
    cases f
    · rw [if_neg (of_decide_eq_false hf)];rfl
    · rw [if_pos (of_decide_eq_true hf)];exact decide_eq_true (by omega)
  repeat (first | refine GL.q (by first|(apply OQ.gE (b:=0);rfl;rfl;exact hg)|(apply OQ.move;rfl)) rfl rfl ?_ | refine GC.seq ?_ | refine GC.region ?_ | refine GL.nil ?_ | refine FE.c6 ?_)
  refine GC.meet (fun w=>s.ok w∧w.heap[bs]?=some (.cells #[(gO r).v] t (0,0))∧∃ O : BP,J k O w∧O bs) [(0,.func (.yield l) #[] #[]),(1,Pt bs 0),(3,(eU r).v)] ?_ ?_
  · cases f
    case true=>
      have hf:=of_decide_eq_true hf
      rw [if_pos hf] at hraw hr1 ⊢
      generalize (r.l.takeWhile (· != 10)).length=m at *
      refine GC.cond rfl (fun _=>?_) (fun h=>by cases h)
      rw [hraw] at hpr
      refine GC.tail 9 (by kernel_rfl) rfl (by kernel_rfl) ?_
      have hw2 : ({ w1 with drawn:=w1.drawn+1 } : World).heap[bs]?=some (.cells #[r.v] t (0,0)):=hw
      repeat (refine GQ.q (by first|(apply cr;rfl;rfl;exact hw2;exact hc0)|(apply OQ.bH (a:=m) (b:=1);rfl;rfl;exact (by omega))|(apply OQ.fst (s:=r) (m:=m+1);exact Tryd.underlying22;exact cn;rfl;rfl;exact (by omega);exact hcap)|(apply OQ.snd (s:=r) (m:=m+1);exact Tryd.underlying22;exact cn;rfl;rfl;exact (by omega))|(apply OQ.move;rfl)|(apply OQ.assign;rfl)) rfl ?_)
      refine GQ.nil ?_
      refine GL.sx (by rfl) rfl rfl rfl rfl hw2 fun w2 hc hs2 hb2=>?_
      rw [← hr1] at hb2
      have hj1:=hst _ _ _ (W2:={ w1 with drawn:=w1.drawn+1 }) hJ ⟨rfl,rfl,rfl,Nat.le_refl _,fun _ _ _=>rfl⟩
      have hj2:=hst _ _ _ _ hj1 (hc.mono (fun b hb=>hb ▸ .inl hO))
      have rP : s.ok w2:=c7 ok fun b hb=>hc.same b (cu ok b hb) (hn b hb)
      rw [hpr]
      refine GL.nil (FE.wO (by repeat (first | exact ax.nil | refine ax.cons _ _ _ rfl ?_)) ⟨rP,hb2,_,hj2,.inl (.inl hO)⟩)
    case false=>
      have hf:=of_decide_eq_false hf
      rw [if_neg hf] at hraw hr1 ⊢
      refine GC.cond rfl (fun h=>by cases h) (fun _=>?_)
      have hpv : eU r=r:=by
        unfold eU
        rw [hraw,List.take_length]
      rw [hpv]
      refine GC.region ?_
      refine GL.q (cr rfl rfl hw hc0) rfl rfl (GL.q (OQ.assign rfl) rfl rfl ?_)
      refine GL.sx (v:=.slice none 0 0) (by rfl) rfl rfl rfl rfl hw fun w2 hc hs2 hb2=>?_
      have hj2:=hst _ _ _ _ hJ (hc.mono (fun b hb=>hb ▸ hO))
      have rP : s.ok w2:=c7 ok fun b hb=>hc.same b (cu ok b hb) (hn b hb)
      rw [hr1]
      exact GL.nil (FE.wO (by repeat (first | exact ax.nil | refine ax.cons _ _ _ rfl ?_)) ⟨rP,hb2,_,hj2,.inl hO⟩)
  · rintro w2 ⟨rP,hw2,O2,hJ2,hO2⟩
    have hY2:=hYk O2 w2 hkp hJ2
    have hln : (eU r).l.length=aH r.l:=by
      show (r.l.take _).length=_
      rw [List.length_take]
      omega
    have h3 : (.slice (if aH r.l=0 then (eU r).ad else (eU r).ad.map (·.add 0)) (aH r.l) (aH r.l) : Value)=(kS r).v:=xQ (eU r) _ hln
    repeat (first | refine GL.q (by first|(apply OQ.len (k:=(eU r).l.length) (ad:=(eU r).ad) (cap:=(eU r).cap);exact Tryd.underlying22;rfl)|(apply OQ.ug (hi:=(eU r).l.length) (mx:=(eU r).l.length) (len:=(eU r).l.length) (cap:=(eU r).cap) (ad:=(eU r).ad);exact Tryd.underlying22;exact cn;rfl;rfl;rfl;exact (Nat.le_refl _);exact (by rw [hln];exact Nat.le_trans hrw hcap))|(apply OQ.move;rfl)) rfl rfl ?_ | refine GC.seq ?_ | refine GC.region ?_)
    rw [hln,h3]
    refine GL.yield (vs:=[(kS r).v]) rfl rfl rfl hY2 ?_
    rintro e w3 ⟨hK,(⟨rfl,hJ3⟩ | ⟨rfl,hX3⟩)⟩
    · refine ⟨true,rfl,?_⟩
      repeat (first | refine GL.q (by (apply OQ.not;rfl)) rfl rfl ?_ | refine GL.nil ?_ | refine FE.c6 ?_)
      refine GC.cond rfl (fun h=>by cases h) (fun _=>?_)
      repeat (first | refine GC.skip ?_ | refine FE.aj ?_)
      exact FE.again (i:=k) (k+1) ⟨hkp,c7 rP fun b hb=>hK.same b hb,(hK.own bs hO2).trans (by rw [hnx];exact hw2),O2,hJ3,hO2⟩ (by omega) (by repeat (first | exact ax.nil | refine ax.cons _ _ _ rfl ?_))
    · refine ⟨false,rfl,?_⟩
      repeat (first | refine GL.q (by (apply OQ.not;rfl)) rfl rfl ?_ | refine GL.nil ?_ | refine FE.c6 ?_)
      refine GC.cond rfl (fun _=>?_) (fun h=>by cases h)
      refine GC.ret ?_
      repeat (first | refine FE.av ?_ | refine FE.aI ?_)
      exact FE.qm rfl ⟨⟨_,rfl⟩,O2,.inr hX3⟩
end Rw
end
section
set_option maxRecDepth 10000
open Sl bV eu
namespace Rw
def ew (s : aq) (k : Nat) : aq:=kS (cU s k)
def aD (s : aq) (k : Nat) : aq:=fT (ew s k)
def ay (s : aq) (k : Nat) : aq:=(ew s k).snd (aD s k).l.length
theorem lW (s : aq) (k : Nat) : (aD s k).l.length≤(ew s k).l.length:=by
  obtain ⟨m,h,e⟩:=mV (ew s k).l
  unfold aD fT
  dsimp only
  rw [e,List.length_take]
  omega
set_option maxHeartbeats 8000000 in
theorem qB (s : aq) (bb : Nat) (hl : s.l.length≤4611686018427387904) (W0 : World) (hs : s.ok W0) (hn : ∀ k ∈ dA s,k≠bb) {t : TypeId} (hb : W0.heap[bb]?=some (.cells #[s.v] t (0,0))) :
    qy Tryd.prog 29 #[Pt bb 0] (fun k=>#[(aD s k).v,(ay s k).v]) (fun b=>b ∈ [bb]) (dA s) (aM s.l).length W0:=by
  intro l J X W hW hst hsx hOlt hY h0
  have hbb : bb<W0.heap.size:=(Array.getElem?_eq_some_iff.1 hb).1
  have hw0 : W.heap[bb]?=some (.cells #[s.v] t (0,0)):=(hW bb hbb).trans hb
  have ok : s.ok W:=c7 hs fun k hk=>hW k (cu hs k hk)
  have hlb:=cu ok
  clear hW hb hs
  have hbb : bb<W.heap.size:=(Array.getElem?_eq_some_iff.1 hw0).1
  refine vL (n:=18) (vs:=[.func (.yield l) #[] #[],Pt bb 0]) Tryd.func29 rfl rfl rfl ?_
  refine GC.seq (GC.region ?_)
  refine GL.box rfl rfl rfl fun W1 hx1 hs1 hy1=>?_
  have hj1:=hst _ _ _ _ h0 (cW.iA hx1)
  refine GL.nil (FE.c6 (GC.seq (GC.region ?_)))
  have hc0 : ∀ u : Value,cellAt (.cells #[u] t (0,0)) 0=some u:=fun _=>rfl
  have hw1:=(hx1.block bb hbb (by simp)).trans hw0
  refine GL.q (cr rfl rfl hw1 (hc0 _)) rfl rfl ?_
  refine GL.vl (vs:=[s.v]) mW rfl rfl (oH s W1) ?_
  rintro e W2 ⟨bs,rfl,hH⟩
  refine ⟨_,rfl,?_⟩
  have hx2 : Ext W1 W2:=hH.aC
  have hbs : W1.heap.size≤bs:=((hH.all _ (List.mem_singleton.2 rfl)).2 rfl).resolve_left (by simp)
  obtain ⟨o,ho,hA⟩:=(hH.all _ (List.mem_singleton.2 rfl)).1
  have ho : W2.heap[bs]?=some (.cells #[s.v] 22 (0,0)):=by rw [ho];exact congrArg some hA
  have hbs2 : bs<W2.heap.size:=(Array.getElem?_eq_some_iff.1 ho).1
  have hj2:=hst _ _ _ _ hj1 (cW.iA hx2)
  have rP : s.ok W2:=(ok.ext hx1).ext hx2
  have hy2:=(hx2.block W.heap.size (by omega) (by simp)).trans hy1
  have hz2:=hx2.size
  clear hw0 hw1 hA hH
  refine GL.nil (FE.c6 (GC.block ?_))
  refine GC.xP (J:=J) (X:=X) (N:=(aM s.l).length) (uH s) (fun b=>b ∈ [bs]) (dA s) (dA s) [W.heap.size] (grown (grown (fun b=>b ∈ [bb]) W W1) W1 W2) rfl (enters_of Tryd.func49 (by kernel_rfl) rfl)
    (oI s bs hl W2 rP (fun k hk=>by have:=hlb k hk;omega) ho) rfl rfl hst hsx hOlt (fun b hb=>by
      obtain rfl:=List.mem_singleton.1 hb
      exact ⟨.inr ⟨hbs,hbs2⟩,hbs2⟩) (fun _ h=>h) (fun b hb=>by
      have h1:=hlb b hb
      refine ⟨?_,by omega⟩
      rintro ((h | h) | h)
      · exact hn b hb (List.mem_singleton.1 h)
      · omega
      · omega) (fun b hb=>by
      obtain rfl:=List.mem_singleton.1 hb
      refine ⟨.inl (.inr ⟨Nat.le_refl _,by omega⟩),fun h=>?_,by omega⟩
      have:=List.mem_singleton.1 h
      omega) hj2 ?_ ?_ ?_
  · intro r k O1 V hk hJ hL hC hz hO
    have hyV : V.heap[W.heap.size]?=_:=(hC _ (List.mem_singleton.2 rfl)).trans hy2
    have okV : s.ok V:=c7 rP hL
    have okl : (ew s k).ok V:=gP (fF okV k)
    have hv : uH s k=(ew s k).v:=rfl
    have ht : aD s k=fT (ew s k):=rfl
    have he : ay s k=(ew s k).snd (aD s k).l.length:=rfl
    have hle:=lW s k
    have hYk:=fun O' V' hJ'=>hY k O' V' hk hJ'
    dsimp only at hYk
    have hcap:=okl.len
    have hll : (ew s k).l.length≤4611686018427387904:=by
      show ((cU s k).l.take _).length≤_
      rw [List.length_take,iC,List.length_drop]
      omega
    rw [hv]
    rw [he] at hYk
    have htx:=sC (ew s k)
    rw [← ht] at htx
    clear he ht hv
    generalize ew s k=L at *
    generalize aD s k=T at *
    repeat (first | refine GL.q (by (apply OQ.move;rfl)) rfl rfl ?_ | refine GC.seq ?_ | refine GC.region ?_ | refine GC.block ?_)
    refine GL.aB (vs:=[L.v]) qA rfl rfl (htx V okl hll) fun V1 hx=>?_
    repeat (first | refine GL.q (by (apply OQ.assign;rfl)) rfl rfl ?_ | refine GC.seq ?_ | refine GL.nil ?_ | refine FE.c6 ?_)
    have hj3:=hst _ _ _ _ hJ (cW.iA hx)
    have hj4:=hst _ _ _ (W2:={ V1 with drawn:=V1.drawn+1 }) hj3 ⟨rfl,rfl,rfl,Nat.le_refl _,fun _ _ _=>rfl⟩
    have hyW : ({ V1 with drawn:=V1.drawn+1 } : World).heap[W.heap.size]?=some (.cells #[.func (.yield l) #[] #[]] 27 (0,0)):=(hx.block _ (Array.getElem?_eq_some_iff.1 hyV).1 (by simp)).trans hyV
    have hY4:=hYk _ _ hj4
    refine GC.tail 6 (by kernel_rfl) rfl (by kernel_rfl) ?_
    repeat (refine GQ.q (by first|(apply cr;rfl;rfl;exact hyW;rfl)|(apply OQ.len (k:=T.l.length) (ad:=T.ad) (cap:=T.cap);exact Tryd.underlying22;rfl)|(apply OQ.snd (s:=L) (m:=T.l.length);exact Tryd.underlying22;exact cn;rfl;rfl;exact hle)|(apply OQ.move;rfl)) rfl ?_)
    refine GQ.nil ?_
    refine GL.yield (vs:=[T.v,(L.snd T.l.length).v]) rfl rfl rfl hY4 ?_
    have hL4 : ∀ b ∈ dA s,b<V.heap.size:=fun b hb=>by have:=hlb b hb;have:=hx1.size;omega
    have hk0 : c5 O1 (dA s) V { V1 with drawn:=V1.drawn+1 }:=by
      have : c5 O1 (dA s) V V1:=c5.iA hx (hOlt k O1 V hJ) hL4
      exact ⟨this.size,this.own,this.same⟩
    have hsub : ∀ b,O1 b→grown (grown O1 V V1) V1 { V1 with drawn:=V1.drawn+1 } b:=fun b hb=>.inl (.inl hb)
    have hback : ∀ b,b<V.heap.size→grown (grown O1 V V1) V1 { V1 with drawn:=V1.drawn+1 } b→O1 b:=fun b hb h=>by
      have:=hx.size
      rcases h with (h | h) | h
      · exact h
      · omega
      · have : b<V1.heap.size:=h.2
        omega
    rintro e V2 ⟨hK,(⟨rfl,hJ5⟩ | ⟨rfl,hX5⟩)⟩
    · refine ⟨true,rfl,?_⟩
      have hK1 : c5 O1 (dA s) V V2:=hk0.trans ⟨hK.size,fun b hb=>hK.own b (hsub b hb),hK.same⟩
      refine GL.q (OQ.not rfl) rfl rfl (GL.nil ?_)
      repeat (refine FE.c6 ?_)
      refine GC.cond rfl (fun h=>by cases h) (fun _=>?_)
      repeat (first | refine GC.skip ?_ | refine FE.aj ?_)
      exact ⟨fun a ha=>⟨_,hK1,hsub,hback,hJ5⟩⟩
    · refine ⟨false,rfl,?_⟩
      have hK1 : c5 O1 (dA s) V V2:=hk0.trans ⟨hK.size,fun b hb=>hK.own b (hsub b hb),hK.same⟩
      refine GL.q (OQ.not rfl) rfl rfl (GL.nil ?_)
      repeat (refine FE.c6 ?_)
      refine GC.cond rfl (fun _=>?_) (fun h=>by cases h)
      refine GC.ret ?_
      repeat (refine FE.aI ?_)
      exact ⟨fun a ha=>⟨_,hK1,hsub,hX5⟩⟩
  · intro D O' W' hJ' hD hDe a' ha'
    exact gL (.inl rfl) ha' rfl hDe ⟨⟨_,rfl⟩,_,.inl (hst _ _ _ _ hJ' (cW.put _ hD))⟩
  · intro D O' W' hX' hD hDe a' ha'
    exact gL (.inr rfl) ha' rfl hDe ⟨⟨_,rfl⟩,_,.inr (hsx _ _ _ hX' (cW.put _ hD))⟩
end Rw
end
section
set_option maxRecDepth 10000
namespace Sl
section
variable {P : Program} {t tx e : TypeId}
theorem jh (w : World) (ty : TypeId) (i : TypeInfo) (ht : P.underlying t=some (.slice e)) (hk : P.underlying tx=some (.int .i64)) (hi : P.info? e=some i) (hz : i.zero=some (.int .u8 0)) (hs : i.size=1) (hb : i.bytes=1)
    (m : Nat) (hm : m≤281474976710656) (h0 : 0<m) (hfit : Builtin.nextslicecap m 0 * i.bytes≤281474976710656) :
    (Builtin.append_ #[t,tx] ty #[.slice none 0 0,N m]).run P w =
      .ok (.slice (some ⟨w.heap.size,0,none⟩) m (grownCap w m 0 e))
        (w.drew.alloc (.cells ((List.replicate m (Value.int .u8 0)).toArray++Builtin.zeroCells #[.int .u8 0] (grownCap w m 0 e - m)) e)):=by
  have h48' : ¬ (281474976710656<Builtin.nextslicecap m 0):=by rw [hb] at hfit;omega
  have hw : IntKind.i64.wrap (m : Int)=m:=iK (by omega) (by omega)
  have h1 : ¬ ((m : Int)<0):=by omega
  have h2 : ¬ ((281474976710656 : Int)<(m : Int)):=by omega
  have h3 : ¬ (m=0):=by omega
  have h63' : ¬ (9223372036854775807<(m : Int)):=by omega
  have hz' : (Value.int .u8 0).cells=#[Value.int .u8 0]:=rfl
  simp [Builtin.append_,Builtin.firstCells,run_underlying ht,run_underlying hk,sizeOf,typeInfo,zeroValue,hi,hz,hs,hb,asInt,asIntOf,N,hw,h1,h2,h3,h63',h48',Question.forced,newRow,grownCap,hz',lK]
variable {n : Nat} {w0 : World} {S : List Nat} {ops : Array Oper} {Q : Exit→Act→World→Prop} {l : List Oper} {E : Env} {M : List az} {d b : Nat} {ty : TypeId} {pos : String} {aft : Array Edge} {x y : Operand}
theorem JL.sF {m : Nat} (hu : P.underlying t=some (.slice e)) (hk : P.underlying tx=some (.int .i64)) (hi : EI P e (.int .u8 0) 1 1) (hx : ev E x=some (.slice none 0 0)) (hy : ev E y=some (N m)) (h0 : 0<m)
    (hsm : m≤140737488355328) (hd : Nat.blt d n=true)
    (kk : ∀ b' cap',JL P n w0 S ops Q l ((d,.slice (some ⟨b',0,none⟩) m cap')::E) (⟨b',Sl.Own e 1 m cap' (List.replicate m (Value.int .u8 0)),true⟩::M)) : JL P n w0 S ops Q (⟨some d,.call ⟨.builtin .append,#[x,y],#[t,tx]⟩,ty,pos,aft,none⟩::l) E M:=
  ⟨fun a w ha hw=>wpList_plain rfl fun K hK=>by
    obtain ⟨i,hi1,hi2,hi3,hi4⟩:=hi.get
    unfold Oper.wp
    simp only [execOp,resolve,invoke,builtin,Sem.run_bind,Sem.run_pure,Result.andThen_ok,List.map_toArray,List.map_cons,List.map_nil,ha.eval hx,ha.eval hy]
    have hfit:=growslice_fits (need:=m) (old:=0) (bytes:=1) (by omega) (by omega)
    rw [jh w ty i hu hk hi1 hi2 hi3 hi4 m (by omega) h0 (by rw [hi4];exact hfit)]
    have hge:=grownCap_ge w m 0 e
    generalize grownCap w m 0 e=nc at hge
    refine hK _ _ ((kk w.heap.size nc).go _ _ (ha.put d _ hd) (hw.push (.cells ((List.replicate m (Value.int .u8 0)).toArray++Builtin.zeroCells #[.int .u8 0] (nc - m)) e) ?_ rfl rfl rfl rfl))
    refine ⟨(Builtin.zeroCells #[.int .u8 0] (nc - m)).toList,by simp,?_,by rw [List.length_replicate,Nat.mul_one],hge⟩
    have h8 : (Builtin.zeroCells #[.int .u8 0] (nc - m)).size=nc - m:=by simp [Builtin.zeroCells]
    simp only [List.length_append,Array.length_toList,h8,List.length_replicate]
    omega⟩
end
end Sl
end
section
set_option maxRecDepth 10000
open Sl
abbrev Pr:=List Bt × List Bt
def pc (p : Pr) : List Value:=[Z p.1,Z p.2]
structure oJ where
  ad : Option Addr
  cap : Nat
  l : List Pr
def oJ.cells (s : oJ) : List Value:=s.l.flatMap pc
def oJ.v (s : oJ) : Value:=.slice s.ad s.l.length s.cap
structure oJ.ok (w : World) (s : oJ) : Prop where
  len : s.l.length≤s.cap
  reads : Reads w s.ad s.cells
theorem oJ.ok.holds {w0 w : World} {S : List Nat} {M : List az} {s : oJ} (h : s.ok w0) (hw : aa w0 S M w) (hS : S=[]) : s.ok w:=⟨h.len,hw.reads h.reads (fun _ a _=>by rw [hS];simp)⟩
theorem oJ.ok.ext {w w' : World} {s : oJ} (h : s.ok w) (hx : Ext w w') : s.ok w':=h.holds (⟨hx,by simp,by simp⟩ : aa w [] [] w') rfl
theorem vm : ∀ (l : List Pr) {i : Nat},i<l.length→(l.flatMap pc)[2 * i]?=some (Z (l.getD i ([],[])).1)∧(l.flatMap pc)[2 * i+1]?=some (Z (l.getD i ([],[])).2)
  | [],i,h=>by simp at h
  | p::l,0,_=>⟨rfl,rfl⟩
  | p::l,i+1,h=>by
    have:=vm l (i:=i) (by simpa using h)
    simp only [List.flatMap_cons,List.getD_cons_succ]
    rw [show 2 * (i+1)=2 * i+2 by omega]
    exact this
theorem oJ.ok.at {w : World} {s : oJ} (h : s.ok w) {i : Nat} (hi : i<s.l.length) : ∃ b j,s.ad=some ⟨b,j,none⟩∧b<w.heap.size∧w.cell? ⟨b,j+i * 2,none⟩=some (Z (s.l.getD i ([],[])).1)∧w.cell? ⟨b,j+i * 2+1,none⟩=some (Z (s.l.getD i ([],[])).2):=by
  obtain ⟨h1,h2⟩:=vm s.l hi
  obtain ⟨b,j,e1,c1⟩:=h.reads _ _ h1
  obtain ⟨b',j',e2,c2⟩:=h.reads _ _ h2
  rw [e1] at e2
  cases e2
  exact ⟨b,j,e1,block_lt_of_cell c1,by rw [Nat.mul_comm];exact c1,by rw [Nat.mul_comm,Nat.add_assoc];exact c2⟩
section
variable {P : Program} {n : Nat} {E : Env} {C : World→Prop} {dst : Option Tmp} {t t' ty : TypeId} {pos : String} {aft : Array Edge} {g : Option (Nat × Bool)} {x y : Operand} {p q : Pr}
end
end
section
set_option maxRecDepth 10000
open Sl
structure oh where
  ad : Option Addr
  cap : Nat
  l : List (List Bt)
def oh.cells (s : oh) : List Value:=s.l.map Z
def oh.v (s : oh) : Value:=.slice s.ad s.l.length s.cap
structure oh.ok (w : World) (s : oh) : Prop where
  len : s.l.length≤s.cap
  reads : Reads w s.ad s.cells
theorem oh.ok.holds {w0 w : World} {S : List Nat} {M : List az} {s : oh} (h : s.ok w0) (hw : aa w0 S M w) (hS : S=[]) : s.ok w:=⟨h.len,hw.reads h.reads (fun _ a _=>by rw [hS];simp)⟩
theorem oh.ok.ext {w w' : World} {s : oh} (h : s.ok w) (hx : Ext w w') : s.ok w':=h.holds (⟨hx,by simp,by simp⟩ : aa w [] [] w') rfl
theorem oh.ok.at {w : World} {s : oh} (h : s.ok w) (h0 : 0<s.l.length) : ∃ b j,s.ad=some ⟨b,j,none⟩∧b<w.heap.size∧∀ i,i<s.l.length→w.cell? ⟨b,j+i,none⟩=some (Z (s.l.getD i [])):=by
  obtain ⟨b,j,h1,h2⟩:=h.reads.at (by simpa [oh.cells] using h0)
  have hc : ∀ i,i<s.l.length→w.cell? ⟨b,j+i,none⟩=some (Z (s.l.getD i [])):=fun i hi=>h2 i _ (ig Z [] hi)
  exact ⟨b,j,h1,block_lt_of_cell (hc 0 h0),hc⟩
def oJ.qn (s : oJ) : List az:=match s.ad with
  | some a=>[⟨a.block,fun o=>bJ o a.off s.cells∧s.l.length≤s.cap∧a.spot=none,true⟩]
  | none=>[]
def oh.qn (s : oh) : List az:=match s.ad with
  | some a=>[⟨a.block,fun o=>bJ o a.off s.cells∧s.l.length≤s.cap∧a.spot=none,true⟩]
  | none=>[]
structure Gz (A : List (List Bt)) where
  z : oh
  h : z.l=A
  n : z.ad=none→z.l=[]
structure G2 (A : List Pr) where
  z : oJ
  h : z.l=A
  n : z.ad=none→z.l=[]
def qC (M : List az) : List az:=M.map fun e=>⟨e.b,e.A,false⟩
theorem aa.qC {w0 w : World} {S : List Nat} {M : List az} (h : aa w0 S M w) : aa w [] (qC M) w:=by
  refine ⟨jl.refl _ _,?_,fun e he=>?_⟩
  · rw [Proofs.YtbmagnpmfpfckaaDoor.qC,List.map_map]
    exact h.nodup
  · obtain ⟨q,hq,rfl⟩:=List.mem_map.1 he
    exact ⟨(h.all q hq).1,nofun⟩
end
section
set_option maxRecDepth 10000
namespace Sl
theorem kE {N M : List az} {b : Nat} {A : Obj→Prop} {wr : Bool} (h : Has M b A wr) : Has (N++M) b A wr:=by
  induction N with
  | nil=>exact h
  | cons e N ih=>exact .there ih
section
variable {P : Program} {n : Nat} {w0 : World} {S : List Nat} {ops : Array Oper} {Q : Exit→Act→World→Prop} {l : List Oper} {E : Env} {M M' M0 : List az} {d : Nat} {t e ty : TypeId} {pos : String} {aft : Array Edge} {x y : Operand}
theorem aa.perm' {w0 w : World} {S : List Nat} {M M' : List az} (hp : M.Perm M') (h : aa w0 S M w) : aa w0 S M' w:=
  h.sub ((hp.map az.b).nodup_iff.1 h.nodup) fun e he=>hp.mem_iff.2 he
theorem JL.perm (h : JL P n w0 S ops Q l E M') (hp : M.Perm M') : JL P n w0 S ops Q l E M:=⟨fun a w ha hw=>h.go a w ha (hw.perm' hp)⟩
end
end Sl
end
section
set_option maxRecDepth 10000
namespace Sl
section
variable {w0 w w' : World} {S : List Nat} {X Y M M0 : List az}
def keys (X : List az) : List Nat:=X.map az.b
theorem aa.own (h : aa w0 S (X++M0) w) : aa w (keys X) (X++qC M0) w:=by
  refine ⟨jl.refl _ _,?_,fun e he=>?_⟩
  · have : (X++qC M0).map az.b=(X++M0).map az.b:=by simp [qC,Function.comp_def]
    rw [this];exact h.nodup
  · rcases List.mem_append.1 he with he | he
    · exact ⟨(h.all e (List.mem_append_left _ he)).1,fun _=>.inl (List.mem_map_of_mem he)⟩
    · obtain ⟨q,hq,rfl⟩:=List.mem_map.1 he
      exact ⟨(h.all q (List.mem_append_right _ hq)).1,nofun⟩
theorem aa.vn (h : aa w0 S (X++M0) w) (h2 : aa w (keys X) Y w') (hX : ∀ e ∈ X,e.wr=true) (hY : ∀ e ∈ Y,e.wr=true) : aa w0 S (Y++M0) w':=by
  have hs : ∀ k ∈ keys X,k ∈ S∨w0.heap.size≤k:=fun k hk=>by
    obtain ⟨e,he,rfl⟩:=List.mem_map.1 hk
    exact (h.all e (List.mem_append_left _ he)).2 (hX e he)
  have hnd:=h.nodup
  rw [List.map_append,List.nodup_append] at hnd
  refine ⟨⟨h2.aC.os.trans h.aC.os,h2.aC.tape.trans h.aC.tape,h2.aC.output.trans h.aC.output,Nat.le_trans h.aC.size h2.aC.size,fun k hk hS=>?_⟩,?_,fun e he=>?_⟩
  · refine (h2.aC.block k (Nat.lt_of_lt_of_le hk h.aC.size) fun hm=>?_).trans (h.aC.block k hk hS)
    rcases hs k hm with h | h
    · exact hS h
    · omega
  · rw [List.map_append,List.nodup_append]
    refine ⟨h2.nodup,hnd.2.1,fun a ha b hb e=>?_⟩
    subst e
    obtain ⟨e1,he1,rfl⟩:=List.mem_map.1 ha
    obtain ⟨e2,he2,hb2⟩:=List.mem_map.1 hb
    rcases (h2.all e1 he1).2 (hY e1 he1) with hk | hk
    · exact hnd.2.2 _ hk _ hb rfl
    · have:=h.lt (List.mem_append_right X he2)
      omega
  · rcases List.mem_append.1 he with he | he
    · refine ⟨(h2.all e he).1,fun hw=>?_⟩
      rcases (h2.all e he).2 hw with hk | hk
      · exact hs _ hk
      · exact .inr (Nat.le_trans h.aC.size hk)
    · obtain ⟨⟨o,ho,hA⟩,hw⟩:=h.all e (List.mem_append_right X he)
      refine ⟨⟨o,(h2.aC.block e.b (h.lt (List.mem_append_right X he)) fun hm=>?_).trans ho,hA⟩,hw⟩
      exact hnd.2.2 _ hm _ (List.mem_map_of_mem he) rfl
end
section
variable {P : Program} {n : Nat} {w0 : World} {S : List Nat} {ops : Array Oper} {Q : Exit→Act→World→Prop} {l : List Oper} {E : Env} {M M' : List az} {C : World→Prop}
variable {dst : Option Tmp} {d b j : Nat} {op : Op} {t t' ty e : TypeId} {pos : String} {aft : Array Edge} {g : Option (Nat × Bool)} {x y : Operand} {cs : List Value}
theorem qD {t' : TypeId} {w : World} {ad : Option Addr} {dl dc sl sc sz m : Nat} {r : List Value} (hu : P.underlying t=some (.slice e)) (hz : dw P e=some sz) (ho : w.heap[b]?=some (.cells r.toArray ty (0,0)))
    (hm : min sl dl=m) (hl : cs.length=m * sz) (hr : Reads w ad cs) (h1 : ∀ v ∈ cs,v.oneCell'=true) (hj : j+m * sz≤r.length) :
    ∃ w',(Builtin.copy_ #[t,t'] 0 #[.slice (some ⟨b,j,none⟩) dl dc,.slice ad sl sc]).run P w=.ok (N m) w'∧w'.heap[b]?=some (.cells (r.take j++cs++r.drop (j+m * sz)).toArray ty (0,0))∧w'.heap.size=w.heap.size∧
      (∀ k,k≠b→w'.heap[k]?=w.heap[k]?)∧w'.os=w.os∧w'.tape=w.tape∧w'.output=w.output:=by
  obtain ⟨w',r1,r2,r3,r4,r5,r6,r7⟩:=bT (P:=P) (b:=b) (j:=j) (e:=ty) cs 0 w r h1 ho (by omega)
  refine ⟨w',?_,by rw [hl] at r2;simpa using r2,r3,r4,r5,r6,r7⟩
  have h3 : (underlying t).run P w=.ok (.slice e) w:=run_underlying hu w
  have h4:=eZ (P:=P) (m:=m) (sz:=sz) (c:=sc) hl hr sl
  have h5 : Nat.min sl dl=m:=hm
  simp only [Builtin.copy_,Sem.run_bind,Sem.run_pure,h3,Result.andThen_ok,Builtin.lenOf,aL hz,List.getElem?_toArray,List.getElem?_cons_zero,List.getElem?_cons_succ]
  rw [h5,h4]
  simp only [Result.andThen_ok,r1]
  rfl
theorem JL.wQ {t' : TypeId} {ad : Option Addr} {dl dc sl sc sz m : Nat} {A A' : Obj→Prop} {M' : List az} (hu : P.underlying t=some (.slice e)) (hz : dw P e=some sz) (hx : ev E x=some (.slice (some ⟨b,j,none⟩) dl dc)) (hy : ev E y=some (.slice ad sl sc))
    (hup : jc M b A A' M') (hm : min sl dl=m) (hl : cs.length=m * sz) (hr : ∀ w,aa w0 S M w→Reads w ad cs) (h1 : ∀ v ∈ cs,v.oneCell'=true) (hA : ∀ o,A o→∃ r te,o=.cells (List.toArray r) te (0,0)∧j+m * sz≤r.length∧A' (.cells (r.take j++cs++r.drop (j+m * sz)).toArray te (0,0))) (hd : Nat.blt d n=true)
    (k : JL P n w0 S ops Q l ((d,N m)::E) M') : JL P n w0 S ops Q (⟨some d,.call ⟨.builtin .copy,#[x,y],#[t,t']⟩,ty,pos,aft,none⟩::l) E M:=
  ⟨fun a w ha hw=>wpList_plain rfl fun K hK=>by
    obtain ⟨o,ho,hAo⟩:=hw.get hup.has
    obtain ⟨r,te,rfl,hj,hA'⟩:=hA o hAo
    obtain ⟨w',r1,r2,r3,r4,r5,r6,r7⟩:=qD (P:=P) (t':=t') (dc:=dc) (sc:=sc) (ty:=te) hu hz ho hm hl (hr w hw) h1 hj
    have r1' : (Builtin.copy_ #[t,t'] ty #[.slice (some ⟨b,j,none⟩) dl dc,.slice ad sl sc]).run P w=.ok (N m) w':=r1
    unfold Oper.wp
    simp only [execOp,resolve,invoke,builtin,Sem.run_bind,Sem.run_pure,Result.andThen_ok,List.map_toArray,List.map_cons,List.map_nil,ha.eval hx,ha.eval hy,r1']
    exact hK _ _ (k.go _ _ (ha.put d _ hd) (hw.write hup hA' r2 r3 r4 r5 r6 r7))⟩
theorem JL.vM {z : Value} {by' sz k lo cap : Nat} {xs : List Value} (hu : P.underlying t=some (.slice e)) (hi : EI P e z sz by') (hzz : z.cells.size=sz) (hz1 : ∀ v ∈ z.cells.toList,v.oneCell'=true) (h0 : 0<sz)
    (hx : ev E x=some (.slice (if cap=lo then some ⟨b,0,none⟩ else (some ⟨b,0,none⟩ : Option Addr).map (·.add (lo * sz))) (k - lo) (cap - lo))) (hlo : lo≤k)
    (hup : jc M b (Sl.Own e sz k cap xs) (Sl.Own e sz lo cap (xs.take (lo * sz))) M') (hk : JL P n w0 S ops Q l E M') : JL P n w0 S ops Q (⟨none,.call ⟨.builtin .clear,#[x],#[t]⟩,ty,pos,aft,none⟩::l) E M:=
  ⟨fun a w ha hw=>wpList_plain rfl fun K hK=>by
    obtain ⟨o,ho,sp,rfl,h1,h2,h3⟩:=hw.get hup.has
    obtain ⟨i,hi1,hi2,hi3,hi4⟩:=hi.get
    have hu3 : (underlying t).run P w=.ok (.slice e) w:=run_underlying hu w
    have hzv : (zeroValue e).run P w=.ok z w:=by simp [zeroValue,typeInfo,Sem.run_bind,hi1,hi2]
    unfold Oper.wp
    by_cases hkl : k - lo=0
    · have hke : lo=k:=by omega
      have hrun : (Builtin.clear_ #[t] ty #[a.eval x]).run P w=.ok (.tuple #[]) w:=by
        rw [ha.eval hx,hkl]
        simp only [Builtin.clear_,List.getElem?_toArray,List.getElem?_cons_zero,Sem.run_bind,hu3,Result.andThen_ok]
        split <;> simp_all
      simp only [execOp,resolve,invoke,builtin,Sem.run_bind,Sem.run_pure,Result.andThen_ok,List.map_toArray,List.map_cons,List.map_nil,hrun]
      refine hK _ _ (hk.go _ _ (ha.gx _) (hw.write hup (o':=.cells (xs++sp).toArray e (0,0)) ?_ ho rfl (fun _ _=>rfl) rfl rfl rfl))
      refine ⟨sp,?_,?_,?_,by omega⟩
      · rw [List.take_of_length_le (by rw [h2,hke];exact Nat.le_refl _)]
      · rw [List.take_of_length_le (by rw [h2,hke];exact Nat.le_refl _)];exact h1
      · rw [List.take_of_length_le (by rw [h2,hke];exact Nat.le_refl _),h2,hke]
    · have hc : ¬ cap=lo:=by omega
      have hzc : (Builtin.zeroCells z.cells (k - lo)).size=(k - lo) * sz:=by simp [Builtin.zeroCells,hzz]
      have hle : lo * sz+(k - lo) * sz=xs.length:=by rw [h2,← Nat.add_mul];congr 1;omega
      obtain ⟨w',r1,r2,r3,r4,r5,r6,r7⟩:=bT (P:=P) (b:=b) (j:=lo * sz) (e:=e) (Builtin.zeroCells z.cells (k - lo)).toList 0 w (xs++sp) (fun v hv=>by
        obtain ⟨q,hq,rfl⟩ : ∃ a,a<(k - lo) * z.cells.size∧z.cells[a % z.cells.size]! = v:=by simpa [Builtin.zeroCells] using hv
        have hlt : q % z.cells.size<z.cells.size:=Nat.mod_lt _ (by omega)
        rw [getElem!_pos z.cells _ hlt]
        exact hz1 _ (by simp)) ho (by rw [List.length_append,Array.length_toList,hzc];omega)
      have hrun : (Builtin.clear_ #[t] ty #[a.eval x]).run P w=.ok (.tuple #[]) w':=by
        rw [ha.eval hx,if_neg hc]
        simp only [Builtin.clear_,List.getElem?_toArray,List.getElem?_cons_zero,Sem.run_bind,hu3,Result.andThen_ok,Option.map_some,bh,Nat.zero_add]
        obtain ⟨m,hm⟩ : ∃ m,k - lo=m+1:=⟨k - lo - 1,by omega⟩
        rw [hm] at r1 ⊢
        simp only [Sem.run_bind,hzv,Result.andThen_ok,r1]
        rfl
      simp only [execOp,resolve,invoke,builtin,Sem.run_bind,Sem.run_pure,Result.andThen_ok,List.map_toArray,List.map_cons,List.map_nil,hrun]
      refine hK _ _ (hk.go _ _ (ha.gx _) (hw.write hup ?_ r2 r3 r4 r5 r6 r7))
      have hzl : (Builtin.zeroCells z.cells (k - lo)).toList.length=(k - lo) * sz:=by rw [Array.length_toList,hzc]
      rw [Nat.add_zero,hzl,List.take_append_of_le_length (by omega),hle,List.drop_left]
      generalize (Builtin.zeroCells z.cells (k - lo)).toList=zs at hzl ⊢
      refine ⟨zs++sp,by rw [List.append_assoc],?_,by rw [List.length_take];rw [Nat.min_eq_left (by omega)],by omega⟩
      rw [List.length_append] at h1
      simp only [List.length_append,List.length_take]
      rw [Nat.min_eq_left (by omega)]
      omega⟩
theorem mX {b hi cap : Nat} : Value.slice (if cap=0 then some ⟨b,0,none⟩ else (some ⟨b,0,none⟩ : Option Addr).map (·.add 0)) hi cap=.slice (some ⟨b,0,none⟩) hi cap:=by
  split <;> simp [Addr.add]
theorem JL.wR {A : Obj→Prop} {wr : Bool} {F : Prop} (hM : Has M b A wr) (hA : ∀ o,A o→F) (k : F→JL P n w0 S ops Q l E M) : JL P n w0 S ops Q l E M:=
  ⟨fun a w ha hw=>by obtain ⟨o,_,h⟩:=hw.get hM;exact (k (hA o h)).go a w ha hw⟩
theorem OQ.vN {ad : Option Addr} {k cap : Nat} (hu : P.underlying t=some (.slice e)) (hx : ev E x=some (.slice ad k cap)) : OQ P n E C ⟨dst,.call ⟨.builtin .cap,#[x],#[t]⟩,ty,pos,aft,g⟩ (N cap):=
  OQ.run fun a hk w _=>by
    have h1:=hk.eval hx
    have h3 : (underlying t).run P w=.ok (.slice e) w:=run_underlying hu w
    simp [execOp,h1,resolve,invoke,builtin,Builtin.cap_,Sem.run_bind,h3,goInt]
structure ya (P : Program) (f : FuncId) (tS tR : TypeId) : Prop where
  go : ∃ fn,P.funcs[f]?=some fn∧(fn.name == "runtime.NumGoroutine")=false∧fn.body.isNone=true∧Extern.findNext fn=none∧Extern.find fn=some (Extern.SlicesOverlaps.overlaps #[tS,tS] #[tR])
end
end Sl
end
section
set_option maxRecDepth 10000
open Sl
namespace Rw
theorem bX : fM Tryd.prog 22=true:=by kernel_rfl
theorem bY : dw Tryd.prog 22=some 1:=by kernel_rfl
theorem jU : aR Tryd.prog 36:=⟨_,Tryd.func36,rfl,by kernel_rfl⟩
theorem cV : aR Tryd.prog 20:=⟨_,Tryd.func20,rfl,by kernel_rfl⟩
theorem sG {e : TypeId} {k cap : Nat} {xs : List Value} : ∀ o,Sl.Own e 1 k cap xs o→Sl.Own e 1 0 cap [] o:=by
  rintro o ⟨sp,rfl,h1,h2,h3⟩
  exact ⟨xs++sp,rfl,by simpa using h1,rfl,Nat.zero_le _⟩
set_option maxHeartbeats 4000000 in
theorem qE (m : Nat) (h0 : 0<m) (hm : m≤1000000000) (w : World) :
    Calls Tryd.prog 36 [.slice none 0 0,N m].toArray w fun e w'=>∃ x : Nat × Nat,e=.returned (.slice (some ⟨x.1,0,none⟩) 0 x.2)∧aa w [] [⟨x.1,Sl.Own 5 1 0 x.2 [],true⟩] w':=by
  refine enter (n:=27) Tryd.func36 rfl rfl rfl (aa.start w []) ?_
  repeat (first | refine JL.q (by first|(apply OQ.jD (a:=m) (b:=0);rfl;rfl;exact (by omega))|(apply OQ.move;rfl)|(apply OQ.assign;rfl)) rfl ?_ | refine JC.seq ?_ | refine JC.region ?_ | refine JL.nil ?_ | refine JE.next ?_)
  refine JC.cond_false rfl rfl ?_
  repeat (first | refine JL.q (by first|(apply OQ.vN (k:=0) (cap:=0) (ad:=none);exact Tryd.underlying22;rfl)|(apply OQ.len (k:=0) (cap:=0) (ad:=none);exact Tryd.underlying22;rfl)|(apply OQ.lJ (a:=0) (b:=0);rfl;rfl;exact (by decide);exact (by decide))|(apply OQ.lJ (a:=m) (b:=0);rfl;rfl;exact (by omega);exact (by omega))|(apply OQ.vA (a:=m - 0) (b:=0);rfl;rfl;exact (by omega))|(apply OQ.move;rfl)|(apply OQ.assign;rfl)) rfl ?_ | refine JC.seq ?_ | refine JC.region ?_ | refine JC.skip ?_ | refine JL.nil ?_ | refine JE.next ?_)
  refine JC.cond_true rfl rfl ?_
  repeat (first | refine JL.q (by first|(apply OQ.vN (k:=0) (cap:=0) (ad:=none);exact Tryd.underlying22;rfl)|(apply OQ.jB (hi:=0) (len:=0) (cap:=0) (ad:=none);exact Tryd.underlying22;exact cn;rfl;rfl;exact (by decide))|(apply OQ.move;rfl)) rfl ?_ | refine JC.region ?_)
  refine JL.sF (m:=m - 0) Tryd.underlying22 Tryd.underlying3 eD rfl rfl (by omega) (by omega) rfl fun b cap=>?_
  rw [Nat.sub_zero]
  refine JL.wR (b:=b) .here (fun ob hA=>by obtain ⟨sp,_,_,_,h3⟩:=hA;exact h3) fun hcap=>?_
  repeat (first | refine JL.q (by first|(apply OQ.len (k:=0) (cap:=0) (ad:=none);exact Tryd.underlying22;rfl)|(apply OQ.to;exact (OQ.jB (ad:=some ⟨b,0,none⟩) (len:=m) (cap:=cap) (hi:=0) Tryd.underlying22 cn rfl rfl (Nat.zero_le _));exact mX)|(apply OQ.move;rfl)|(apply OQ.assign;rfl)) rfl ?_ | refine JC.seq ?_ | refine JC.region ?_ | refine JL.nil ?_ | refine JE.next ?_)
  exact JC.ret (JE.aJ rfl (RV.tmp rfl) fun w' hw=>⟨(b,cap),rfl,hw.weak (.keep _ _ _ _ _ _ sG (.nil _))⟩)
def bM (rs : List aq) (i : Nat) : List Bt:=((rs.take i).map aq.l).flatten
theorem kT {rs : List aq} {i : Nat} {s : aq} (h : rs[i]?=some s) : bM rs (i+1)=bM rs i++s.l:=by
  obtain ⟨hi,rfl⟩:=List.getElem?_eq_some_iff.1 h
  unfold bM
  rw [List.take_succ_eq_append_getElem hi,List.map_append,List.flatten_append]
  simp
theorem uI (rs : List aq) (i : Nat) : (bM rs i).length≤(bM rs rs.length).length:=by
  unfold bM
  rw [List.take_length]
  conv=>rhs;rw [← List.take_append_drop i rs,List.map_append,List.flatten_append,List.length_append]
  exact Nat.le_add_right _ _
set_option maxHeartbeats 8000000 in
theorem eL (s : gr) (w : World) (hs : s.ok w) (h0 : 0<(bM s.rs s.rs.length).length) (hl : (bM s.rs s.rs.length).length≤1000000000) (hn9 : s.rs.length≤1000000000) :
    Calls Tryd.prog 20 [s.v].toArray w fun e w'=>∃ x : Nat × Nat,e=.returned (.slice (some ⟨x.1,0,none⟩) (bM s.rs s.rs.length).length x.2)∧aa w [] [⟨x.1,Sl.Own 5 1 (bM s.rs s.rs.length).length x.2 ((bM s.rs s.rs.length).map U8),true⟩] w':=by
  obtain ⟨n,hn⟩ : ∃ n,s.rs.length=n:=⟨_,rfl⟩
  have hn0 : 0<n:=by
    rcases Nat.eq_zero_or_pos n with h | h
    · rw [hn,h] at h0
      exact absurd h0 (by unfold bM;simp)
    · exact h
  have hat : ∀ i,i<n→∃ b j x,s.ad=some ⟨b,j,none⟩∧s.rs[i]?=some x∧x.ok w∧w.cell? ⟨b,j+i,none⟩=some x.v∧x ∈ s.rs:=fun i hi=>by
    have hx : s.rs[i]?=some s.rs[i]:=List.getElem?_eq_getElem (by omega)
    obtain ⟨b,j,h1,h2⟩:=hs.reads i s.rs[i].v (by rw [List.getElem?_map,hx];rfl)
    exact ⟨b,j,_,h1,hx,hs.all _ (List.getElem_mem _),h2,List.getElem_mem _⟩
  obtain ⟨ba,ja,_,had,_⟩:=hat 0 hn0
  have hsv : s.v=.slice (some ⟨ba,ja,none⟩) n s.cap:=by unfold gr.v;rw [had,hn]
  rw [hn] at h0 hl hn9 ⊢
  rw [hsv]
  have hle:=uI s.rs
  rw [hn] at hle
  refine enter (n:=36) Tryd.func20 rfl rfl rfl (aa.start w []) ?_
  repeat (first | refine JL.q (by first|(apply OQ.len (k:=n);exact Tryd.underlying31;rfl)|(apply OQ.move;rfl)|(apply OQ.assign;rfl)) rfl ?_ | refine JC.seq ?_ | refine JC.region ?_ | refine JC.block ?_ | refine JL.nil ?_ | refine JE.next ?_)
  refine JC.loop (fun i : Nat=>[(0,.slice (some ⟨ba,ja,none⟩) n s.cap),(3,N (bM s.rs i).length),(9,.slice (some ⟨ba,ja,none⟩) n s.cap),(10,N n),(11,N i)]) (fun _=>[]) (fun i=>n - i) (fun i=>i≤n) 0 (Nat.zero_le _) (by repeat (first | exact ax.nil | refine ax.cons _ _ _ rfl ?_)) (aA.refl _) ?_
  intro i hi
  repeat (first | refine JL.q (by (apply OQ.ij (a:=i) (b:=n);rfl;rfl)) rfl ?_ | refine JC.seq ?_ | refine JC.region ?_ | refine JL.nil ?_ | refine JE.next ?_)
  refine JC.cond rfl (fun h=>?_) (fun h=>?_)
  · have hi' : i<n:=of_decide_eq_true h
    clear h
    obtain ⟨b,j,x,hb,hx,xok,hc,_⟩:=hat i hi'
    rw [had] at hb
    cases hb
    have hle:=hle (i+1)
    have hln : (bM s.rs (i+1)).length=(bM s.rs i).length+x.l.length:=by rw [kT hx,List.length_append]
    repeat (first | refine JL.q (by first|(apply OQ.bZ (i:=i) (b:=ba) (j:=ja);exact Tryd.underlying31;exact bY;rfl;rfl;exact hi')|(apply OQ.cA (v:=x.v);exact bX;rfl;exact (block_lt_of_cell hc);exact (by simp);exact hc)|(apply OQ.len (k:=x.l.length) (ad:=x.ad) (cap:=x.cap);exact Tryd.underlying22;rfl)|(apply OQ.bH (a:=(bM s.rs i).length) (b:=x.l.length);rfl;rfl;exact (by omega))|(apply OQ.jD (a:=(bM s.rs i).length+x.l.length) (b:=0);rfl;rfl;exact (by omega))|(apply OQ.move;rfl)|(apply OQ.assign;rfl)) rfl ?_ | refine JC.seq ?_ | refine JC.region ?_ | refine JC.block ?_ | refine JC.skip ?_ | refine JL.nil ?_ | refine JE.next ?_)
    refine JC.cond_false rfl rfl ?_
    repeat (first | refine JL.q (by first|(apply OQ.bH (a:=i) (b:=1);rfl;rfl;exact (by omega))|(apply OQ.move;rfl)) rfl ?_ | refine JC.region ?_ | refine JC.skip ?_ | refine JL.nil ?_ | refine JE.next ?_ | refine JE.aj ?_)
    rw [← hln]
    exact JE.again (i:=i) (i+1) hi' (by omega) (by repeat (first | exact ax.nil | refine ax.cons _ _ _ rfl ?_)) (aA.refl _)
  · have hi' : i=n:=by have:=of_decide_eq_false h;omega
    subst hi'
    clear h hi
    repeat (first | refine JL.q (by (apply OQ.move;rfl)) rfl ?_ | refine JC.seq ?_ | refine JC.region ?_ | refine JC.exit ?_ | refine JE.next ?_ | refine JE.aS ?_ | refine JE.bE ?_)
    refine JL.bC (ι:=Nat × Nat) (vs:=[.slice none 0 0,N (bM s.rs i).length]) (fun x=>.slice (some ⟨x.1,0,none⟩) 0 x.2) (fun x=>[⟨x.1,Sl.Own 5 1 0 x.2 [],true⟩]) jU rfl rfl (fun i=>by simp) (fun w' hw'=>qE _ h0 (by omega) w') ?_
    rintro ⟨bx,cap⟩
    try dsimp only
    repeat (first | refine JL.q (by first|(apply OQ.len (k:=i);exact Tryd.underlying31;rfl)|(apply OQ.move;rfl)|(apply OQ.assign;rfl)) rfl ?_ | refine JC.seq ?_ | refine JC.region ?_ | refine JC.block ?_ | refine JL.nil ?_ | refine JE.next ?_)
    refine JC.loop (fun z : Nat × Nat × Nat=>[(0,.slice (some ⟨ba,ja,none⟩) i s.cap),(6,.slice (some ⟨z.2.1,0,none⟩) (bM s.rs z.1).length z.2.2),(25,.slice (some ⟨ba,ja,none⟩) i s.cap),(26,N i),(27,N z.1)]) (fun z=>[⟨z.2.1,Sl.Own 5 1 (bM s.rs z.1).length z.2.2 ((bM s.rs z.1).map U8),true⟩]) (fun z=>i - z.1) (fun z=>z.1≤i) (0,bx,cap) (Nat.zero_le _) (by repeat (first | exact ax.nil | refine ax.cons _ _ _ rfl ?_)) (aA.refl _) ?_
    rintro ⟨k,bx,cap⟩ hk
    dsimp only at hk ⊢
    repeat (first | refine JL.q (by (apply OQ.ij (a:=k) (b:=i);rfl;rfl)) rfl ?_ | refine JC.seq ?_ | refine JC.region ?_ | refine JL.nil ?_ | refine JE.next ?_)
    refine JC.cond rfl (fun h=>?_) (fun h=>?_)
    · have hk' : k<i:=of_decide_eq_true h
      clear h
      obtain ⟨b,j,x,hb,hx,xok,hc,_⟩:=hat k hk'
      rw [had] at hb
      cases hb
      have hle:=hle (k+1)
      have hcs:=kT hx
      have hln : (bM s.rs (k+1)).length=(bM s.rs k).length+x.l.length:=by rw [hcs,List.length_append]
      repeat (first | refine JL.q (by first|(apply OQ.bZ (i:=k) (b:=ba) (j:=ja);exact Tryd.underlying31;exact bY;rfl;rfl;exact hk')|(apply OQ.cA (v:=x.v);exact bX;rfl;exact (block_lt_of_cell hc);exact (by simp);exact hc)|(apply OQ.move;rfl)|(apply OQ.assign;rfl)) rfl ?_ | refine JC.seq ?_ | refine JC.region ?_ | refine JC.block ?_ | refine JC.skip ?_ | refine JL.nil ?_ | refine JE.next ?_)
      refine JL.append (cs:=x.l.map U8) (m:=x.l.length) (ad:=x.ad) (sc:=x.cap) (fun b' cap'=>[⟨b',Sl.Own 5 1 ((bM s.rs k).length+x.l.length) cap' ((bM s.rs k).map U8++x.l.map U8),true⟩]) Tryd.underlying22 eD rfl rfl (by intro _ _;repeat (first | exact dI.here | apply dI.there)) (by rw [List.length_map,Nat.mul_one]) (fun w' hw'=>(xok.holds hw' rfl).reads) (fun v hv=>by obtain ⟨q,_,rfl⟩:=List.mem_map.1 hv;rfl) rfl (by decide) (by omega) (by omega) rfl fun b' cap'=>?_
      rw [← List.map_append,← hcs,← hln]
      repeat (first | refine JL.q (by first|(apply OQ.bH (a:=k) (b:=1);rfl;rfl;exact (by omega))|(apply OQ.move;rfl)|(apply OQ.assign;rfl)) rfl ?_ | refine JC.region ?_ | refine JL.nil ?_ | refine JE.next ?_ | refine JE.aj ?_)
      exact JE.again (ι:=Nat × Nat × Nat) (i:=(k,bx,cap)) (k+1,b',cap') hk' (by omega) (by repeat (first | exact ax.nil | refine ax.cons _ _ _ rfl ?_)) (aA.refl _)
    · have hk' : k=i:=by have:=of_decide_eq_false h;omega
      subst hk'
      clear h hk
      repeat (first | refine JL.q (by first|(apply OQ.move;rfl)|(apply OQ.assign;rfl)) rfl ?_ | refine JC.seq ?_ | refine JC.region ?_ | refine JC.exit ?_ | refine JL.nil ?_ | refine JE.next ?_ | refine JE.aS ?_ | refine JE.bE ?_)
      refine JC.ret (JE.aJ rfl (RV.tmp rfl) fun w' hw=>⟨(bx,cap),rfl,hw⟩)
end Rw
end
section
set_option maxRecDepth 10000
open Sl bV eu
namespace Rw
theorem OQ.wS {P : Program} {n : Nat} {E : Env} {C : World→Prop} {dst : Option Tmp} {t t' ty : TypeId} {pos : String} {aft : Array Edge} {g : Option (Nat × Bool)} {x y : Operand} {a b : Int} (hx : ev E x=some (I a)) (hy : ev E y=some (I b)) (h : ¬ b=0) : OQ P n E C ⟨dst,.binOp .rem t x y t',ty,pos,aft,g⟩ (I (a.tmod b)):=
  OQ.bin hx hy rfl fun w=>by
    have h7 : Op.intDiv .rem .i64 a b=(Pure.pure (.int .i64 (a.tmod b)) : Sem Value):=by simp only [Op.intDiv,if_neg h]
    show Sem.run P (Op.intDiv .rem .i64 a b) w=_
    rw [h7];rfl
def cE (c : Bt) : Bool:=decide (c=32) || decide (c=9)
theorem cF : aR Tryd.prog 32:=⟨_,Tryd.func32,rfl,by kernel_rfl⟩
theorem fG (c : Bt) (w : World) : Calls Tryd.prog 32 [U8 c].toArray w fun e w'=>e=.returned (.bool (cE c))∧Ext w w':=by
  refine enter (n:=9) Tryd.func32 rfl rfl rfl (aa.start w []) ?_
  unfold cE
  cases h : decide (c=32)
  · have h8 : decide ((c.toNat : Int)=32)=false:=decide_eq_false fun e=>of_decide_eq_false h (BitVec.eq_of_toNat_eq (by show c.toNat=32;omega))
    repeat (first | refine JL.q (by first|(apply OQ.aU (b:=32);rfl;rfl;exact h8)|(apply OQ.x8 (b:=9);rfl;rfl)|(apply OQ.bz;rfl;rfl)|(apply OQ.move;rfl)|(apply OQ.assign;rfl)) rfl ?_ | refine JC.seq ?_ | refine JC.region ?_ | refine JL.nil ?_ | refine JE.next ?_ | refine JL.aN rfl rfl ?_)
    exact JC.ret (JE.aJ rfl (RV.tmp rfl) fun w' hw=>⟨rfl,hw.aC⟩)
  · have h8 : decide ((c.toNat : Int)=32)=true:=decide_eq_true (by rw [of_decide_eq_true h];rfl)
    repeat (first | refine JL.q (by first|(apply OQ.aU (b:=32);rfl;rfl;exact h8)|(apply OQ.aP;rfl;rfl)|(apply OQ.move;rfl)|(apply OQ.assign;rfl)) rfl ?_ | refine JC.seq ?_ | refine JC.region ?_ | refine JL.nil ?_ | refine JE.next ?_ | refine JL.cj rfl rfl rfl rfl ?_)
    exact JC.ret (JE.aJ rfl (RV.tmp rfl) fun w' hw=>⟨rfl,hw.aC⟩)
theorem aV : aR Tryd.prog 19:=⟨_,Tryd.func19,rfl,by kernel_rfl⟩
theorem qF (a : Int) (b : Nat) (hb : 0<b) : a % b=if a.tmod b<0 then a.tmod b+b else a.tmod b:=by
  have h1:=Int.lt_tmod_of_pos a (b:=(b : Int)) (by omega)
  have h2 : a.tmod b<b:=Int.tmod_lt_of_pos a (by omega)
  have h3 : a % b=(a.tmod b) % b:=by rw [Int.tmod_def,Int.sub_mul_emod_self_left]
  rw [h3]
  split
  · rw [← Int.add_emod_right]
    exact Int.emod_eq_of_lt (by omega) (by omega)
  · exact Int.emod_eq_of_lt (by omega) (by omega)
theorem bf (a : Int) (b : Nat) (hb : 0<b) (hb2 : b<4611686018427387904) (w : World) : Calls Tryd.prog 19 [I a,N b].toArray w fun e w'=>e=.returned (I (a % b))∧Ext w w':=by
  refine enter (n:=15) Tryd.func19 rfl rfl rfl (aa.start w []) ?_
  have h1:=Int.lt_tmod_of_pos a (b:=(b : Int)) (by omega)
  have h2 : a.tmod b<b:=Int.tmod_lt_of_pos a (by omega)
  rw [qF a b hb]
  by_cases hneg : a.tmod b<0
  · have hg : decide (a.tmod b<0)=true:=decide_eq_true hneg
    rw [if_pos hneg]
    repeat (first | refine JL.q (by first|(apply OQ.wS (a:=a) (b:=(b : Int));rfl;rfl;exact (by omega))|(apply OQ.kz (a:=a.tmod b) (b:=0);rfl;rfl;exact hg)|(apply OQ.move;rfl)|(apply OQ.assign;rfl)) rfl ?_ | refine JC.seq ?_ | refine JC.region ?_ | refine JL.nil ?_ | refine JE.next ?_)
    refine JC.cond_true rfl rfl ?_
    repeat (first | refine JL.q (by first|(apply OQ.wG (a:=a.tmod b) (b:=(b : Int));rfl;rfl;exact (by omega);exact (by omega))|(apply OQ.move;rfl)|(apply OQ.assign;rfl)) rfl ?_ | refine JC.seq ?_ | refine JC.region ?_ | refine JL.nil ?_ | refine JE.next ?_)
    exact JC.ret (JE.aJ rfl (RV.tmp rfl) fun w' hw=>⟨rfl,hw.aC⟩)
  · have hg : decide (a.tmod b<0)=false:=decide_eq_false hneg
    rw [if_neg hneg]
    repeat (first | refine JL.q (by first|(apply OQ.wS (a:=a) (b:=(b : Int));rfl;rfl;exact (by omega))|(apply OQ.kz (a:=a.tmod b) (b:=0);rfl;rfl;exact hg)|(apply OQ.move;rfl)|(apply OQ.assign;rfl)) rfl ?_ | refine JC.seq ?_ | refine JC.region ?_ | refine JL.nil ?_ | refine JE.next ?_)
    refine JC.cond_false rfl rfl ?_
    repeat (first | refine JL.q (by first|(apply OQ.move;rfl)|(apply OQ.assign;rfl)) rfl ?_ | refine JC.seq ?_ | refine JC.region ?_ | refine JC.skip ?_ | refine JL.nil ?_ | refine JE.next ?_)
    exact JC.ret (JE.aJ rfl (RV.tmp rfl) fun w' hw=>⟨rfl,hw.aC⟩)
def jV (bits : Int) (p : Nat) : Bool:=decide (bits / 2 ^ (p % 16) % 2=1)
theorem jW : aR Tryd.prog 39:=⟨_,Tryd.func39,rfl,by kernel_rfl⟩
theorem pW (bits : Int) (p : Nat) (w : World) : Calls Tryd.prog 39 [I bits,N p].toArray w fun e w'=>e=.returned (.bool (jV bits p))∧Ext w w':=by
  refine enter (n:=11) Tryd.func39 rfl rfl rfl (aa.start w []) ?_
  have h1 : p % 16<16:=Nat.mod_lt _ (by decide)
  have hb : jV bits p=decide (bits / 2 ^ (p % 16) % 2=1):=rfl
  rw [hb]
  obtain ⟨k,hk⟩ : ∃ k,p % 16=k:=⟨_,rfl⟩
  have hk1 : N (p % 16)=N k:=by rw [hk]
  rw [hk] at h1 ⊢
  obtain ⟨m,hm⟩ : ∃ m : Int,(2 : Int) ^ k=m:=⟨_,rfl⟩
  rw [hm]
  repeat (first | refine JL.q (by first|(apply OQ.to;exact (OQ.xw (a:=p) (b:=16) rfl rfl (by decide));exact hk1)|(apply OQ.xG (a:=bits) (k:=k);exact hm;exact (by omega);rfl;rfl)|(apply OQ.xH (k:=1) (a:=bits / m) (m:=1) (r:=2);exact (by decide);exact (by decide);exact (by decide);rfl;rfl)|(apply OQ.aU (b:=1);rfl;rfl;rfl)|(apply OQ.move;rfl)|(apply OQ.assign;rfl)) rfl ?_ | refine JC.seq ?_ | refine JC.region ?_ | refine JL.nil ?_ | refine JE.next ?_)
  refine JC.ret ?_
  exact JE.aJ rfl (RV.tmp rfl) fun w' hw=>⟨rfl,hw.aC⟩
end Rw
end
section
set_option maxRecDepth 10000
open Sl bV eu
namespace Rw
theorem fH {w0 w : World} {S : List Nat} {M : List az} {b : Nat} {l : List Bt} {wr : Bool} (hw : aa w0 S M w) (hM : Has M b (vB 5 (l.map U8)) wr) : aq.ok w ⟨some ⟨b,0,none⟩,l.length,l⟩:=by
  obtain ⟨o,ho,hA⟩:=hw.get hM
  exact ⟨Nat.le_refl _,Reads.block ho (vB.all _ hA)⟩
def oK (c : Bt) (s : aq) : aq:=if fi c s.l<s.l.length then s.fst (fi c s.l) else s
theorem sH (c : Bt) (s : aq) : (oK c s).l=s.l.takeWhile (· != c):=by
  unfold oK
  split
  · show s.l.take (fi c s.l)=_
    unfold fi
    exact (List.prefix_iff_eq_take.1 (List.takeWhile_prefix _)).symm
  · rename_i h
    exact ((List.takeWhile_prefix (p:=fun x=>x != c) (l:=s.l)).eq_of_length_le (Nat.le_of_not_lt h)).symm
theorem uJ {c : Bt} {s : aq} {w : World} (h : s.ok w) : (oK c s).ok w:=by
  unfold oK
  split
  · exact h.fst _
  · exact h
def aQ (l : List Bt) : List Bt:=if fi 58 (l.takeWhile (· != 10))<(l.takeWhile (· != 10)).length then (l.takeWhile (· != 10)).takeWhile (· != 58) else []
theorem ey : aR Tryd.prog 24:=⟨_,Tryd.func24,rfl,by kernel_rfl⟩
set_option maxHeartbeats 4000000 in
theorem fm (s : aq) (w : World) (hs : s.ok w) (hl : s.l.length≤4611686018427387904) :
    Calls Tryd.prog 24 [s.v].toArray w fun e w'=>e=.returned (Z (aQ s.l))∧Ext w w':=by
  refine enter (n:=28) Tryd.func24 rfl rfl rfl (aa.start w []) ?_
  repeat (first | refine JL.q (by first|(apply OQ.move;rfl)|(apply OQ.assign;rfl)) rfl ?_ | refine JC.seq ?_ | refine JC.region ?_ | refine JL.nil ?_ | refine JE.next ?_)
  refine JL.gA (v:=U8 (10 : BitVec 8)) Tryd.underlying22 eD rfl rfl rfl rfl fun bl _=>?_
  have c1:=fun (w' : World) (h1 : s.ok w') (h2 : aq.ok w' ⟨some ⟨bl,0,none⟩,1,[10]⟩)=>jM s bl 1 10 w' (by omega) h1 h2
  obtain ⟨f,hf⟩ : ∃ f,oK 10 s=f:=⟨_,rfl⟩
  have fl : f.l=s.l.takeWhile (· != 10):=hf ▸ sH 10 s
  have fok : ∀ {w' : World},s.ok w'→f.ok w':=fun h=>hf ▸ uJ h
  have hfl : f.l.length≤4611686018427387904:=by rw [fl];exact Nat.le_trans (List.takeWhile_sublist _).length_le hl
  obtain ⟨b1,v1,hv1⟩ : ∃ (b1 : Bool) (v1 : Value),lQ 10 s=.tuple #[f.v,v1,.bool b1]:=by
    rw [← hf]
    unfold lQ oK
    split
    · exact ⟨_,_,rfl⟩
    · exact ⟨_,_,rfl⟩
  rw [hv1] at c1
  have hnm : aQ s.l=if fi 58 f.l<f.l.length then f.l.takeWhile (· != 58) else []:=by rw [fl];rfl
  rw [hnm]
  repeat (first | refine JL.q (by first|(apply OQ.aB (vs:=[s.v,.slice (some ⟨bl,0,none⟩) 1 1]);exact fD;rfl;exact (fun w' hw'=>c1 w' (hs.holds hw' rfl) (eJ (l:=[10]) hw' .here)))|(apply OQ.extract;rfl;rfl)|(apply OQ.move;rfl)|(apply OQ.assign;rfl)) rfl ?_ | refine JC.seq ?_ | refine JC.region ?_ | refine JL.nil ?_ | refine JE.next ?_)
  refine JL.gA (v:=U8 (58 : BitVec 8)) Tryd.underlying22 eD rfl rfl rfl rfl fun b2 _=>?_
  refine JL.mark (r:=[U8 (58 : BitVec 8)]) (te:=5) Tryd.underlying22 Tryd.underlying5 rfl .here rfl ?_
  have c2:=fun (w' : World) (h1 : f.ok w') (h2 : aq.ok w' ⟨some ⟨b2,0,none⟩,1,[58]⟩)=>jM f b2 1 58 w' (by omega) h1 h2
  by_cases h : fi 58 f.l<f.l.length
  · rw [show lQ 58 f=_ from if_pos h] at c2
    rw [if_pos h]
    have hg : (f.fst (fi 58 f.l)).l=f.l.takeWhile (· != 58):=by
      have:=sH 58 f
      rw [show oK 58 f=_ from if_pos h] at this
      exact this
    rw [← hg]
    have gok : ∀ {w' : World},s.ok w'→(f.fst (fi 58 f.l)).ok w':=fun h=>(fok h).fst _
    generalize f.fst (fi 58 f.l)=g at *
    repeat (first | refine JL.q (by first|(apply OQ.aB (vs:=[f.v,.slice (some ⟨b2,0,none⟩) 1 1]);exact fD;rfl;exact (fun w' hw'=>c2 w' (fok (hs.holds hw' rfl)) (fH (l:=[58]) hw' .here)))|(apply OQ.extract;rfl;rfl)|(apply OQ.not;rfl)|(apply OQ.move;rfl)|(apply OQ.assign;rfl)) rfl ?_ | refine JC.seq ?_ | refine JC.region ?_ | refine JL.nil ?_ | refine JE.next ?_)
    refine JC.cond_false rfl rfl ?_
    repeat (first | refine JL.q (by first|(apply OQ.wJ (s:=g);exact Tryd.underlying22;exact Tryd.underlying5;exact Tryd.underlying9;rfl;exact (fun w' hw'=>gok (hs.holds hw' rfl)))|(apply OQ.move;rfl)|(apply OQ.assign;rfl)) rfl ?_ | refine JC.seq ?_ | refine JC.region ?_ | refine JC.skip ?_ | refine JL.nil ?_ | refine JE.next ?_)
    refine JC.ret ?_
    skip
    exact JE.aJ rfl (RV.tmp rfl) fun w' hw=>⟨rfl,hw.aC⟩
  · rw [show lQ 58 f=_ from if_neg h] at c2
    rw [if_neg h]
    repeat (first | refine JL.q (by first|(apply OQ.aB (vs:=[f.v,.slice (some ⟨b2,0,none⟩) 1 1]);exact fD;rfl;exact (fun w' hw'=>c2 w' (fok (hs.holds hw' rfl)) (fH (l:=[58]) hw' .here)))|(apply OQ.extract;rfl;rfl)|(apply OQ.not;rfl)|(apply OQ.move;rfl)|(apply OQ.assign;rfl)) rfl ?_ | refine JC.seq ?_ | refine JC.region ?_ | refine JL.nil ?_ | refine JE.next ?_)
    refine JC.cond_true rfl rfl ?_
    repeat (first | refine JL.q (by (apply OQ.assign;rfl)) rfl ?_ | refine JC.seq ?_ | refine JC.region ?_ | refine JL.nil ?_ | refine JE.next ?_)
    refine JC.ret ?_
    repeat (refine JE.av ?_)
    exact JE.aJ rfl (RV.tmp rfl) fun w' hw=>⟨rfl,hw.aC⟩
def bq (bits : Int) (k : Nat) (c : Bt) : Bt:=
  let d:=c ||| 32
  if d.toNat<97∨122<d.toNat then c else if jV bits k then (c ||| 32) &&& ~~~ 32 else c ||| 32
def ji (bits : Int) (l : List Bt) : Nat→List Bt
  | 0=>l
  | k+1=>(ji bits l k).set k (bq bits k ((ji bits l k).getD k 0))
theorem gQ (bits : Int) (l : List Bt) : ∀ k,(ji bits l k).length=l.length
  | 0=>rfl
  | k+1=>by rw [ji,List.length_set,gQ bits l k]
def bP (bits : Int) (l : List Bt) : List Bt:=ji bits l (aQ l).length
theorem lX (l : List Bt) : (aQ l).length≤l.length:=by
  unfold aQ
  split
  · exact Nat.le_trans (List.takeWhile_sublist _).length_le (List.takeWhile_sublist _).length_le
  · exact Nat.zero_le _
theorem OQ.uK {P : Program} {n : Nat} {E : Env} {C : World→Prop} {dst : Option Tmp} {t t' ty : TypeId} {pos : String} {aft : Array Edge} {g : Option (Nat × Bool)} {x y : Operand} {a b : BitVec 8} (hx : ev E x=some (U8 a)) (hy : ev E y=some (U8 b)) : OQ P n E C ⟨dst,.binOp .andNot t x y t',ty,pos,aft,g⟩ (U8 (a &&& ~~~ b)):=
  OQ.bin hx hy rfl fun _=>fP (k:=.u8) (show IntKind.u8.wrap ((BitVec.ofInt 8 (a.toNat : Int) &&& ~~~ BitVec.ofInt 8 (b.toNat : Int)).toNat : Int)=_ by rw [gz,gz,rK])
theorem sI {l : List Bt} {k : Nat} : l.set k (l.getD k 0)=l:=by
  apply List.ext_getElem?
  intro i
  rw [List.getElem?_set]
  split
  · rename_i h
    subst h
    split
    · rename_i h2
      rw [List.getD_eq_getElem?_getD,List.getElem?_eq_getElem h2]
      rfl
    · rename_i h2
      rw [List.getElem?_eq_none (by omega)]
  · rfl
theorem JL.cG {P : Program} {n : Nat} {w0 : World} {S : List Nat} {ops : Array Oper} {Q : Exit→Act→World→Prop} {l : List Oper} {E : Env} {M M' : List az} {b j k cap : Nat} {t e ty : TypeId} {pos : String} {aft : Array Edge} {v : Value} {x y : Operand} {xs xs' : List Value}
    (hz : dw P t=some 1) (hx : ev E x=some (.pointer (some ⟨b,j,none⟩))) (hy : ev E y=some v) (hv : v.oneCell'=true) (hcl : v.cells=#[v]) (hu : jc M b (Sl.Own e 1 k cap xs) (Sl.Own e 1 k cap xs') M') (hj : j<xs.length) (he : xs.set j v=xs')
    (kk : JL P n w0 S ops Q l E M') : JL P n w0 S ops Q (⟨none,.store t x y,ty,pos,aft,none⟩::l) E M:=
  JL.store hx hy hz hv hcl hu (by
    rintro o ⟨sp,rfl,h2,h3,h4⟩
    subst he
    refine ⟨_,_,rfl,by simp only [List.size_toArray,List.length_append];omega,sp,?_,by simpa using h2,by simpa using h3,h4⟩
    simp only [List.setIfInBounds_toArray]
    rw [List.set_append_left _ _ hj]) kk
theorem oL : aR Tryd.prog 22:=⟨_,Tryd.func22,rfl,by kernel_rfl⟩
set_option maxHeartbeats 8000000 in
theorem qG (s : aq) (bits : Int) (w : World) (hs : s.ok w) (hl : s.l.length≤4294967296) :
    Calls Tryd.prog 22 [s.v,I bits].toArray w fun e w'=>∃ q : {q : Acc // q=none→s.l=[]},e=.returned (ak q.1 s.l.length)∧aa w [] (an 5 q.1 ((bP bits s.l).map U8)) w':=by
  refine enter (n:=44) Tryd.func22 rfl rfl rfl (aa.start w []) ?_
  have hnl:=lX s.l
  repeat (first | refine JL.q (by first|(apply OQ.move;rfl)|(apply OQ.assign;rfl)) rfl ?_ | refine JC.seq ?_ | refine JC.region ?_ | refine JL.nil ?_ | refine JE.next ?_)
  refine JL.bC (ι:={q : Acc // q=none→s.l=[]}) (vs:=[s.v]) (fun q=>ak q.1 s.l.length) (fun q=>an 5 q.1 (s.l.map U8)) oz rfl rfl (fun q=>aT _ _ _) (fun w' hw'=>(kN s w' (hs.holds hw' rfl) hl).mono fun _ _ ⟨q,e,hq,h⟩=>⟨⟨q,hq⟩,e,h⟩) fun q=>?_
  rw [List.append_nil]
  repeat (first | refine JL.q (by first|(apply OQ.aB (vs:=[s.v]);exact ey;rfl;exact (fun w' hw'=>fm s w' (hs.holds hw' rfl) (by omega)))|(apply OQ.jf (l:=aQ s.l);exact Tryd.underlying9;rfl)|(apply OQ.move;rfl)|(apply OQ.assign;rfl)) rfl ?_ | refine JC.seq ?_ | refine JC.region ?_ | refine JC.block ?_ | refine JL.nil ?_ | refine JE.next ?_)
  refine JC.loop (fun k : Nat=>[(0,s.v),(1,I bits),(5,ak q.1 s.l.length),(12,N (aQ s.l).length),(13,N k)]) (fun k=>an 5 q.1 ((ji bits s.l k).map U8)) (fun k=>(aQ s.l).length - k) (fun k=>k≤(aQ s.l).length) 0 (Nat.zero_le _) (by repeat (first | exact ax.nil | refine ax.cons _ _ _ rfl ?_)) (aA.refl _) ?_
  intro k hk
  repeat (first | refine JL.q (by (apply OQ.ij;rfl;rfl)) rfl ?_ | refine JC.seq ?_ | refine JC.region ?_ | refine JL.nil ?_ | refine JE.next ?_)
  refine JC.cond rfl (fun h=>?_) (fun h=>?_)
  rotate_left
  · have hk2 : k=(aQ s.l).length:=by have:=of_decide_eq_false h;omega
    subst hk2
    repeat (first | refine JL.q (by first|(apply OQ.move;rfl)|(apply OQ.assign;rfl)) rfl ?_ | refine JC.seq ?_ | refine JC.region ?_ | refine JC.exit ?_ | refine JL.nil ?_ | refine JE.next ?_ | refine JE.aS ?_ | refine JE.bE ?_)
    refine JC.ret ?_
    skip
    exact JE.aJ rfl (RV.tmp rfl) fun w' hw=>⟨q,rfl,hw⟩
  have hk2 : k<(aQ s.l).length:=by have:=of_decide_eq_true h;omega
  clear h
  obtain ⟨q,hq⟩:=q
  cases q with
  | none=>
    have h0 : s.l.length=0:=by rw [hq rfl];rfl
    omega
  | some r=>
  have hcl:=gQ bits s.l k
  have hnx : ji bits s.l (k+1)=(ji bits s.l k).set k (bq bits k ((ji bits s.l k).getD k 0)):=rfl
  generalize ji bits s.l k=L at *
  have hkl : k<L.length:=by omega
  obtain ⟨c,hc⟩ : ∃ c,L.getD k 0=c:=⟨_,rfl⟩
  rw [hc] at hnx
  have hget : (L.map U8)[k]?=some (U8 c):=by rw [List.getElem?_map,← hc,List.getD_eq_getElem?_getD,List.getElem?_eq_getElem hkl];rfl
  have hkv : ak (some r) s.l.length=.slice (some ⟨r.1,0,none⟩) s.l.length r.2:=rfl
  have hca : bq bits k c=if (c ||| 32#8).toNat<97∨122<(c ||| 32#8).toNat then c else if jV bits k then (c ||| 32#8) &&& ~~~ 32#8 else c ||| 32#8:=rfl
  dsimp only
  rw [hkv]
  obtain ⟨g1,hg1⟩ : ∃ g,decide (((c ||| 32#8).toNat : Int)<97)=g:=⟨_,rfl⟩
  obtain ⟨g2,hg2⟩ : ∃ g,decide ((122 : Int)<((c ||| 32#8).toNat : Int))=g:=⟨_,rfl⟩
  have stay : bq bits k c=c→L.set k (bq bits k c)=L:=fun h=>by rw [h,← hc];exact sI
  have hll : s.l.length=(L.map U8).length:=by rw [List.length_map];exact hcl.symm
  rw [hll] at hkv
  cases g1
  case true=>
    have hst:=stay (by rw [hca,if_pos (.inl (by have:=of_decide_eq_true hg1;omega))])
    repeat (first | refine JL.q (by first|(apply OQ.kJ (i:=k) (len:=s.l.length) (cap:=r.2) (b:=r.1);exact Tryd.underlying22;exact cn;rfl;rfl;exact (by omega))|(apply OQ.load;exact og;rfl;exact .here;exact (Sl.Own.cell hget))|(apply OQ.xh (b:=32#8);rfl;rfl)|(apply OQ.kz (b:=97);rfl;rfl;exact hg1)|(apply OQ.aP;rfl;rfl)|(apply OQ.move;rfl)|(apply OQ.assign;rfl)) rfl ?_ | refine JC.seq ?_ | refine JC.region ?_ | refine JC.block ?_ | refine JC.skip ?_ | refine JL.nil ?_ | refine JE.next ?_ | refine JL.cj rfl rfl rfl rfl ?_)
    refine JC.cond_true rfl rfl ?_
    repeat (first | refine JL.q (by first|(apply OQ.move;rfl)|(apply OQ.bH;rfl;rfl;exact (by (try simp only []);omega))) rfl ?_ | refine JC.region ?_ | refine JC.exit ?_ | refine JL.nil ?_ | refine JE.next ?_ | refine JE.aS ?_ | refine JE.bE ?_)
    rw [hst] at hnx
    exact JE.again (i:=k) (k+1) (by omega) (by omega) (by repeat (first | exact ax.nil | refine ax.cons _ _ _ rfl ?_)) (by rw [hnx];exact aA.refl _)
  cases g2
  case true=>
    have hst:=stay (by rw [hca,if_pos (.inr (by have:=of_decide_eq_true hg2;omega))])
    repeat (first | refine JL.q (by first|(apply OQ.kJ (i:=k) (len:=s.l.length) (cap:=r.2) (b:=r.1);exact Tryd.underlying22;exact cn;rfl;rfl;exact (by omega))|(apply OQ.load;exact og;rfl;exact .here;exact (Sl.Own.cell hget))|(apply OQ.xh (b:=32#8);rfl;rfl)|(apply OQ.kz (b:=97);rfl;rfl;exact hg1)|(apply OQ.eo (b:=122);rfl;rfl;exact hg2)|(apply OQ.bz;rfl;rfl)|(apply OQ.move;rfl)|(apply OQ.assign;rfl)) rfl ?_ | refine JC.seq ?_ | refine JC.region ?_ | refine JC.block ?_ | refine JC.skip ?_ | refine JL.nil ?_ | refine JE.next ?_ | refine JL.aN rfl rfl ?_)
    refine JC.cond_true rfl rfl ?_
    repeat (first | refine JL.q (by first|(apply OQ.move;rfl)|(apply OQ.bH;rfl;rfl;exact (by (try simp only []);omega))) rfl ?_ | refine JC.region ?_ | refine JC.exit ?_ | refine JL.nil ?_ | refine JE.next ?_ | refine JE.aS ?_ | refine JE.bE ?_)
    rw [hst] at hnx
    exact JE.again (i:=k) (k+1) (by omega) (by omega) (by repeat (first | exact ax.nil | refine ax.cons _ _ _ rfl ?_)) (by rw [hnx];exact aA.refl _)
  have hin : ¬ ((c ||| 32#8).toNat<97∨122<(c ||| 32#8).toNat):=by
    have h1:=of_decide_eq_false hg1
    have h2:=of_decide_eq_false hg2
    omega
  rw [if_neg hin] at hca
  have hs1 : (L.map U8).set k (U8 (c ||| 32#8))=(L.set k (c ||| 32#8)).map U8:=by rw [List.map_set]
  have hl1 : (L.set k (c ||| 32#8)).length=L.length:=List.length_set
  have hget1 : ((L.set k (c ||| 32#8)).map U8)[k]?=some (U8 (c ||| 32#8)):=by rw [List.getElem?_map,List.getElem?_set_self hkl];rfl
  have hs2 : ((L.set k (c ||| 32#8)).map U8).set k (U8 ((c ||| 32#8) &&& ~~~ 32#8))=(L.set k ((c ||| 32#8) &&& ~~~ 32#8)).map U8:=by rw [← List.map_set,List.set_set]
  have hbit:=fun (w' : World)=>pW bits k w'
  repeat (first | refine JL.q (by first|(apply OQ.kJ (i:=k) (len:=s.l.length) (cap:=r.2) (b:=r.1);exact Tryd.underlying22;exact cn;rfl;rfl;exact (by omega))|(apply OQ.load;exact og;rfl;exact .here;exact (Sl.Own.cell hget))|(apply OQ.xh (b:=32#8);rfl;rfl)|(apply OQ.kz (b:=97);rfl;rfl;exact hg1)|(apply OQ.eo (b:=122);rfl;rfl;exact hg2)|(apply OQ.bz;rfl;rfl)|(apply OQ.move;rfl)|(apply OQ.assign;rfl)) rfl ?_ | refine JC.seq ?_ | refine JC.region ?_ | refine JC.block ?_ | refine JC.skip ?_ | refine JL.nil ?_ | refine JE.next ?_ | refine JL.aN rfl rfl ?_)
  refine JC.cond_false rfl rfl ?_
  repeat (first | refine JL.q (by first|(apply OQ.kJ (i:=k) (len:=s.l.length) (cap:=r.2) (b:=r.1);exact Tryd.underlying22;exact cn;rfl;rfl;exact (by omega))|(apply OQ.load;exact og;rfl;exact .here;exact (Sl.Own.cell hget))|(apply OQ.xh (b:=32#8);rfl;rfl)|(apply OQ.move;rfl)) rfl ?_ | refine JC.seq ?_ | refine JC.region ?_ | refine JC.skip ?_ | refine JE.next ?_)
  refine JL.cG cn rfl rfl rfl rfl .here (by rw [List.length_map];exact hkl) hs1 ?_
  obtain ⟨g3,hg3⟩ : ∃ g,jV bits k=g:=⟨_,rfl⟩
  rw [hg3] at hca
  cases g3
  case false=>
    repeat (first | refine JL.q (by first|(apply OQ.aB (vs:=[I bits,N k]);exact jW;rfl;exact (fun w' _=>hg3 ▸ hbit w'))|(apply OQ.move;rfl)) rfl ?_ | refine JC.seq ?_ | refine JC.region ?_ | refine JL.nil ?_ | refine JE.next ?_)
    refine JC.cond_false rfl rfl ?_
    repeat (first | refine JL.q (by first|(apply OQ.move;rfl)|(apply OQ.bH;rfl;rfl;exact (by (try simp only []);omega))) rfl ?_ | refine JC.region ?_ | refine JC.skip ?_ | refine JL.nil ?_ | refine JE.next ?_ | refine JE.aj ?_)
    rw [hca,if_neg (by decide)] at hnx
    exact JE.again (i:=k) (k+1) (by omega) (by omega) (by repeat (first | exact ax.nil | refine ax.cons _ _ _ rfl ?_)) (by rw [hnx];unfold an;rw [List.length_map,List.length_map,hl1];exact aA.refl _)
  case true=>
    repeat (first | refine JL.q (by first|(apply OQ.aB (vs:=[I bits,N k]);exact jW;rfl;exact (fun w' _=>hg3 ▸ hbit w'))|(apply OQ.move;rfl)) rfl ?_ | refine JC.seq ?_ | refine JC.region ?_ | refine JL.nil ?_ | refine JE.next ?_)
    refine JC.cond_true rfl rfl ?_
    repeat (first | refine JL.q (by first|(apply OQ.kJ (i:=k) (len:=s.l.length) (cap:=r.2) (b:=r.1);exact Tryd.underlying22;exact cn;rfl;rfl;exact (by omega))|(apply OQ.load;exact og;rfl;exact .here;exact (Sl.Own.cell hget1))|(apply OQ.uK (b:=32#8);rfl;rfl)|(apply OQ.move;rfl)) rfl ?_ | refine JC.region ?_)
    refine JL.cG cn rfl rfl rfl rfl .here (by rw [List.length_map,hl1];exact hkl) hs2 ?_
    repeat (first | refine JL.q (by first|(apply OQ.move;rfl)|(apply OQ.bH;rfl;rfl;exact (by (try simp only []);omega))) rfl ?_ | refine JC.region ?_ | refine JL.nil ?_ | refine JE.next ?_ | refine JE.aj ?_)
    rw [hca,if_pos rfl] at hnx
    exact JE.again (i:=k) (k+1) (by omega) (by omega) (by repeat (first | exact ax.nil | refine ax.cons _ _ _ rfl ?_)) (by rw [hnx];unfold an;rw [List.length_map,List.length_map,List.length_set];exact aA.refl _)
end Rw
end
end Go.Proofs.YtbmagnpmfpfckaaDoor
