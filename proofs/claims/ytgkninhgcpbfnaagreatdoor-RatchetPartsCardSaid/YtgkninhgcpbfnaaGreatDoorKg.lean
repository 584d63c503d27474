/-
  Of no statement by itself: the texts RatV, RatZ, RatL, RatK, RatDp, RatTl, Slna, RatPl, Plain, Elm, RatX, FraR in one.
  Conditions: each theorem's own.
-/
import Derived.Test.YtgkninhgcpbfnaaGreatDoorKf
import Derived.DeepKeys
import Derived.Test.YtgkninhgcpbfnaaGreatDoorProg
import Derived.Test.YtgkninhgcpbfnaaGreatDoorRows
import Derived.ProofKit
import Derived.OpenShut
import Derived.Below
import Derived.Stop.Joined
import Derived.ChangeMaps5
import Derived.Deep.Slices
import Derived.Deep.SlicePairs
import Derived.Test.YtgkninhgcpbfnaaGreatDoorTie
import Derived.SevenTiedAt
import Derived.LaidMore
import Derived.Lay
import Derived.Lib.LaidTab
set_option linter.unusedSimpArgs false
set_option linter.unusedVariables false
namespace Go.Proofs.YtgkninhgcpbfnaaGreatDoor
section
set_option maxRecDepth 10000
open Sl g5 lz dO mP
open pT (Bk)
theorem xW (s : bA) (k : mV) (hs : s.ok) (he : k.l=s.kept) (hk0 : s.kept.length≤1000000) (hst : s.sent≤2147483648) (hpv : s.prev≤2147483648) (side p : aM) (hsl : side.l.length≤1000000) (hpl : p.l.length≤1000000) (w : World) (hG : g7 w) (hQ : GQ w) (hk : k.ok w) (hside : side.ok w) (hp : p.ok w) :
    Calls Tryz.prog 18 [.agg (sec s k.v).toArray,side.v,p.v].toArray w fun e w'=>∃ r : KV (jt s side.l p.l),e=.returned (.tuple #[.agg (sec (jt s side.l p.l).1 (aC r.q (jt s side.l p.l).1.kept.length)).toArray,aC r.x (jt s side.l p.l).2.1.length,N (jt s side.l p.l).2.2])∧ah w [] [] w':=
  (xO s k hs he hk0 hst hpv side p hsl hpl w hG hQ hk hside hp).mono fun _ _ ⟨r,e,h⟩=>⟨r,e,h.weak (aq.nil _)⟩
def xX : mV:=⟨none,0,[]⟩
theorem oQ (w : World) : xX.ok w:=⟨Nat.le_refl _,Reads.nil _ _,nofun⟩
def sN : Bk:=5::List.replicate 31 0
def mN : Bk:=1::List.replicate 31 0
theorem tf : aK Tryz.prog 6:=⟨_,Tryz.func6,rfl,by kernel_rfl⟩
set_option maxHeartbeats 16000000 in
theorem vO (w : World) (hG : g7 w) (hQ : GQ w) : Calls Tryz.prog 6 ([] : List Value).toArray w fun e w'=>e=.returned (.bool true)∧Ext w w':=by
  have c1:=fun w'=>sj mN rfl w'
  have hY : (aN mN (qt 9)).length=32:=iL _
  generalize aN mN (qt 9)=Y at c1 hY
  have c2:=fun w'=>sI sN mN Y rfl rfl hY w'
  have c3:=fun (w' : World) (h1 : g7 w')=>uv sN mN Y Y rfl rfl hY hY w' h1
  have s2:=nQ sN mN rfl rfl
  have s1:=pK sN mN Y rfl hY
  have e2 : jt (fJ sN mN) [] []=(fJ sN mN,[],13):=EP rfl _ _
  have e1 : jt (ep sN mN Y) [] [1]=(xD (ep sN mN Y),vD (ep sN mN Y) [] [1],0):=vL rfl (by show ¬ 2147483647≤0;decide) _ _
  have hl1 : (vD (ep sN mN Y) [] [1]).length=73:=by
    rw [vD,List.length_append,mu (show (sn (ep sN mN Y)).chain.length=32 from iO _)]
    show 40+(qf _ _ xC _ _).length=73
    rw [j8]
    rfl
  have s3:=vE s1
  have d2:=fun (w' : World) (h1 : g7 w') (h2 : GQ w')=>xW (fJ sN mN) xX s2 rfl (by show (0 : Nat)≤_;decide) (by show (0 : Nat)≤_;decide) (by show (0 : Nat)≤_;decide) iR iR (by show (0 : Nat)≤_;decide) (by show (0 : Nat)≤_;decide) w' h1 h2 (oQ _) (mj _) (mj _)
  have d1:=fun (b : Nat) (w' : World) (h1 : g7 w') (h2 : GQ w') (h3 : aM.ok w' ⟨some ⟨b,0,none⟩,1,[1]⟩)=>xW (ep sN mN Y) xX s1 rfl (by show (0 : Nat)≤_;decide) (by show (0 : Nat)≤_;decide) (by show (0 : Nat)≤_;decide) iR ⟨some ⟨b,0,none⟩,1,[1]⟩ (by show (0 : Nat)≤_;decide) (by show (1 : Nat)≤_;decide) w' h1 h2 (oQ _) (mj _) h3
  have n2:=fun (v : Value)=>ay s2 v
  have n3:=fun (v : Value)=>ay s3 v
  have n1:=ay s1 aR
  have i1:=Hu (a:=mN) (b:=Y) rfl
  have lY : (Y.map U8).length=32:=by rw [List.length_map,hY]
  rw [show iR.l=[] from rfl,e2] at d2
  dsimp only at d1
  rw [show iR.l=[] from rfl,e1] at d1
  clear e1 e2
  have k2 : (fJ sN mN).kept.length=0:=rfl
  have k3 : (xD (ep sN mN Y)).kept.length=0:=rfl
  simp only [k2] at d2
  simp only [k3,hl1] at d1
  generalize fJ sN mN=S2 at *
  generalize xD (ep sN mN Y)=S3 at *
  generalize ep sN mN Y=S1 at *
  generalize vD S1 [] [1]=Z at *
  refine enter (n:=47) Tryz.func6 rfl rfl rfl (ah.start w []) ?_
  repeat (first | refine JL.q (by (apply OQ.assign;rfl)) rfl ?_ | refine JC.seq ?_ | refine JC.region ?_ | refine JL.nil ?_ | refine JE.next ?_)
  refine JL.q (OQ.pure (v:=.agg (mN.map U8).toArray) rfl rfl (by kernel_rfl)) rfl ?_
  repeat (refine JL.q (by (apply OQ.au (vs:=[.agg (mN.map U8).toArray]);exact pJ;rfl;exact (fun w' _=>c1 w'))) rfl ?_)
  refine JL.alloc I3 rfl fun b1 _=>?_
  refine JL.ag (cs:=(mN++Y).map U8) xA rfl rfl (by rw [List.length_map,List.length_append,hY];rfl) (aV _) .here rfl ?_
  repeat (first | refine JC.seq ?_ | refine JC.region ?_ | refine JL.nil ?_ | refine JE.next ?_)
  refine JL.q (OQ.pure (v:=.agg (sN.map U8).toArray) rfl rfl (by kernel_rfl)) rfl ?_
  have lP : ((mN++Y).map U8).length=64:=by rw [List.length_map,List.length_append,hY];rfl
  repeat (refine JL.q (by first|(apply OQ.af (cs:=(mN++Y).map U8);exact Em;exact xA;rfl;exact .here;exact lP;exact Row.all)|(apply OQ.au (vs:=[.agg (sN.map U8).toArray,.agg ((mN++Y).map U8).toArray]);exact qm;rfl;exact (fun w' _=>c2 w'))) rfl ?_)
  refine JL.alloc uk rfl fun b2 _=>?_
  refine JL.ag (cs:=sec S2 aR) dB rfl rfl (n2 _) (bw rfl) .here (ay br _) ?_
  repeat (first | refine JL.q (by (apply OQ.af (cs:=sec S2 aR);exact gK;exact dB;rfl;exact .here;exact (n2 _);exact Row.all)) rfl ?_ | refine JC.seq ?_ | refine JC.region ?_ | refine JL.nil ?_ | refine JE.next ?_)
  refine JL.bX (ι:=KV (S2,[],13)) (vs:=[.agg (sec S2 aR).toArray,iR.v,iR.v]) (fun r=>.tuple #[.agg (sec S2 (aC r.q 0)).toArray,aC r.x 0,N 13]) (fun _=>[]) pQ rfl rfl (fun _=>nofun) (fun w' hw'=>d2 w' (hG.aL hw'.aL (by simp)) (hQ.aL hw'.aL (by simp))) ?_
  rintro ⟨q2,x2,_,_⟩
  try dsimp only
  simp only [List.nil_append]
  obtain ⟨v2,hv2,hvo2⟩ : ∃ v,aC q2 0=v∧v.oneCell'=true:=⟨_,rfl,by cases q2 <;> rfl⟩
  rw [hv2]
  repeat (refine JL.q (by first|(apply OQ.extract;rfl;rfl)|(apply OQ.move;rfl)) rfl ?_)
  refine JL.alloc uk rfl fun b3 _=>?_
  refine JL.ag (cs:=sec S2 v2) dB rfl rfl (n2 _) (bw hvo2) .here (ay br _) ?_
  repeat (first | refine JL.q (by (apply OQ.assign;rfl)) rfl ?_ | refine JC.seq ?_ | refine JC.region ?_ | refine JL.nil ?_ | refine JE.next ?_)
  refine JL.q (OQ.pure (v:=.agg (sN.map U8).toArray) rfl rfl (by kernel_rfl)) rfl ?_
  repeat (refine JL.q (by first|(apply OQ.af (cs:=(mN++Y).map U8);exact Em;exact xA;rfl;exact (.there (.there .here));exact lP;exact Row.all)|(apply OQ.af (cs:=Y.map U8);exact aP;exact aB;rfl;exact (.there (.there .here));exact lY;exact (Row.cells i1))|(apply OQ.au (vs:=[.agg (sN.map U8).toArray,.agg ((mN++Y).map U8).toArray,.agg (Y.map U8).toArray]);exact sH;rfl;exact (fun w' hw'=>c3 w' (hG.aL hw'.aL (by simp))))|(apply OQ.bM;rfl;rfl;rfl;exact (by decide);rfl)) rfl ?_)
  refine JL.fC (v:=U8 (1 : BitVec 8)) Tryz.underlying27 zS rfl rfl rfl rfl fun bl _=>?_
  refine JL.bX (ι:=KV (S3,Z,0)) (vs:=[.agg (sec S1 aR).toArray,iR.v,.slice (some ⟨bl,0,none⟩) 1 1]) (fun r=>.tuple #[.agg (sec S3 (aC r.q 0)).toArray,aC r.x 73,N 0]) (fun _=>[]) pQ rfl rfl (fun _=>nofun) (fun w' hw'=>d1 bl w' (hG.aL hw'.aL (by simp)) (hQ.aL hw'.aL (by simp)) (fL (l:=[1]) hw' .here rfl (Nat.le_refl _))) ?_
  rintro ⟨q3,x3,_,hx3⟩
  try dsimp only
  simp only [List.nil_append]
  obtain ⟨v3,hv3,hvo3⟩ : ∃ v,aC q3 0=v∧v.oneCell'=true:=⟨_,rfl,by cases q3 <;> rfl⟩
  rw [hv3]
  obtain ⟨a2,c2',hy2⟩ : ∃ a c,aC x2 0=.slice a 0 c:=by cases x2 <;> exact ⟨_,_,rfl⟩
  obtain ⟨a3,c3',hy3⟩ : ∃ a c,aC x3 73=.slice a 73 c:=by
    cases x3 with
    | none=>exact absurd (hx3 rfl) (fun h=>by have h' : Z=[]:=h;rw [h'] at hl1;cases hl1)
    | some r=>exact ⟨_,_,rfl⟩
  rw [hy2,hy3]
  repeat (refine JL.q (by first|(apply OQ.extract;rfl;rfl)|(apply OQ.move;rfl)) rfl ?_)
  refine JL.alloc uk rfl fun b6 _=>?_
  refine JL.ag (cs:=sec S3 v3) dB rfl rfl (n3 _) (bw hvo3) .here (ay br _) ?_
  repeat (first | refine JL.q (by first|(apply OQ.GH;rfl;rfl;rfl)|(apply OQ.len (k:=0);exact Tryz.underlying27;rfl)|(apply OQ.len (k:=73);exact Tryz.underlying27;rfl)|(apply OQ.eP;rfl;rfl)|(apply OQ.move;rfl)|(apply OQ.assign;rfl)) rfl ?_ | refine JC.seq ?_ | refine JC.region ?_ | refine JL.nil ?_ | refine JE.next ?_ | refine JL.aU rfl rfl ?_)
  exact JC.ret (JE.aQ rfl (RV.tmp rfl) fun w' hw=>⟨rfl,hw.aL⟩)
end
section
set_option maxRecDepth 10000
open Sl g5 lz dO mP
open pT (Bk)
theorem Hx (a b c d : BitVec 8) : ia.cU [a,b,c,d]=16777216 * a.toNat+65536 * b.toNat+256 * c.toNat+d.toNat:=by
  simp only [ia.cU,List.foldl]
  omega
theorem sJ : aK Tryz.prog 24:=⟨_,Tryz.func24,rfl,by kernel_rfl⟩
set_option maxHeartbeats 8000000 in
theorem ux (s : aM) (h4 : s.l.length=4) (w : World) (hs : s.ok w) : Calls Tryz.prog 24 [s.v].toArray w fun e w'=>e=.returned (N (ia.cU s.l))∧Ext w w':=by
  obtain ⟨b,j,eA,cA⟩:=hs.reads.at (by rw [List.length_map];omega)
  obtain ⟨ad,cap,l⟩:=s
  dsimp only at h4 eA cA
  subst eA
  match l,h4 with
  | [a0,a1,a2,a3],_=>
  have g0:=cA 0 _ rfl
  have g1:=cA 1 _ rfl
  have g2:=cA 2 _ rfl
  have g3:=cA 3 _ rfl
  have hb : b<w.heap.size:=block_lt_of_cell g0
  have b0:=a0.isLt
  have b1:=a1.isLt
  have b2:=a2.isLt
  have b3:=a3.isLt
  rw [Hx]
  refine enter (n:=25) Tryz.func24 rfl rfl rfl (ah.start w []) ?_
  repeat (first | refine JL.q (by (apply OQ.assign;rfl)) rfl ?_ | refine JC.seq ?_ | refine JC.region ?_ | refine JL.nil ?_ | refine JE.next ?_)
  refine JC.quiet gr (by kernel_rfl) ?_
  repeat (first | refine JQ.q (by first|(apply OQ.gN (i:=0) (len:=4) (cap:=cap) (b:=b) (j:=j);exact Tryz.underlying27;exact kM;rfl;rfl;exact (by decide))|(apply OQ.gN (i:=1) (len:=4) (cap:=cap) (b:=b) (j:=j);exact Tryz.underlying27;exact kM;rfl;rfl;exact (by decide))|(apply OQ.gN (i:=2) (len:=4) (cap:=cap) (b:=b) (j:=j);exact Tryz.underlying27;exact kM;rfl;rfl;exact (by decide))|(apply OQ.gN (i:=3) (len:=4) (cap:=cap) (b:=b) (j:=j);exact Tryz.underlying27;exact kM;rfl;rfl;exact (by decide))|(apply OQ.bQ;exact GL;rfl;exact hb;exact (by simp);exact g0)|(apply OQ.bQ;exact GL;rfl;exact hb;exact (by simp);exact g1)|(apply OQ.bQ;exact GL;rfl;exact hb;exact (by simp);exact g2)|(apply OQ.bQ;exact GL;rfl;exact hb;exact (by simp);exact g3)|(apply OQ.zQ;exact Tryz.underlying5;exact Tryz.underlying3;rfl)|(apply OQ.iB (a:=16777216) (b:=a0.toNat);rfl;rfl;exact (by omega))|(apply OQ.iB (a:=65536) (b:=a1.toNat);rfl;rfl;exact (by omega))|(apply OQ.iB (a:=256) (b:=a2.toNat);rfl;rfl;exact (by omega))|(apply OQ.move;rfl)|(apply OQ.assign;rfl)|(apply OQ.aY;rfl;rfl;exact (by (try simp only []);omega))) rfl ?_ | refine JQ.nil ?_ | refine JE.next ?_)
  refine JC.ret (JE.aQ rfl (RV.tmp rfl) ?_)
  exact fun w' hw=>⟨rfl,hw.aL⟩
theorem Hy {s : aM} {lo k hi : Nat} (h : hi≤s.l.length) (hk : lo+k=hi) : aM.v ⟨(s.snd lo).ad,(s.snd lo).cap,(s.l.drop lo).take k⟩=.slice (if s.cap=lo then s.ad else s.ad.map (·.add (lo * 1))) (hi - lo) (s.cap - lo):=by
  show Value.slice _ ((s.l.drop lo).take k).length _=_
  rw [List.length_take,List.length_drop,Nat.min_eq_left (by omega),show hi - lo=k by omega]
  rfl
theorem EU {s : aM} {w : World} (h : s.ok w) {lo k : Nat} (hl : lo≤s.l.length) : aM.ok w ⟨(s.snd lo).ad,(s.snd lo).cap,(s.l.drop lo).take k⟩:=by
  have h1:=h.snd lo hl
  refine ⟨Nat.le_trans (by show ((s.l.drop lo).take k).length≤(s.l.drop lo).length;rw [List.length_take];omega) h1.len,fun i v hv=>h1.reads i v ?_⟩
  rw [List.map_take,List.getElem?_take] at hv
  split at hv
  · exact hv
  · cases hv
theorem Co (p m : Nat) : Tryz.prog.built 32 ([1,2].zip [N p,N m])=some (hdc ⟨dN,p,m⟩).toArray:=by
  have h : Tryz.prog.built 32 ([1,2].zip [N p,N m])=Instr.fill (fun i=>#[(0,32),(32,1),(33,1)][i]?) (hdc bN).toArray [(1,N p),(2,N m)]:=by kernel_rfl
  rw [h,dy (off:=32) (sz:=1) (cs:=[N p]) rfl rfl rfl (by simp [hdc,bN,dN]),dy (off:=33) (sz:=1) (cs:=[N m]) rfl rfl rfl (by simp [hdc,bN,dN])]
  rfl
def Cp (z : Bk) (i : Nat) : Bk:=z.take i++List.replicate (32 - i) 0
theorem AV {z : Bk} {i : Nat} (hz : 32≤z.length) (hi : i≤32) : (Cp z i).length=32:=by
  unfold Cp
  rw [List.length_append,List.length_take,List.length_replicate,Nat.min_eq_left (by omega)]
  omega
theorem Gt {z : Bk} {i : Nat} (hz : 32≤z.length) (hi : i<32) (p m : Nat) : (hdc ⟨Cp z i,p,m⟩).set (0+i) (U8 (z.getD i 0))=hdc ⟨Cp z (i+1),p,m⟩:=by
  have hl:=AV hz (Nat.le_of_lt hi)
  have e : (Cp z i).set i (z.getD i 0)=Cp z (i+1):=by
    unfold Cp
    have h1 : (z.take i).length=i:=by rw [List.length_take,Nat.min_eq_left (by omega)]
    rw [show 32 - i=(32 - (i+1))+1 by omega,List.replicate_succ,List.set_append_right _ _ (by omega),h1,Nat.sub_self,List.set_cons_zero,List.take_add_one,List.getElem?_eq_getElem (by omega),List.getD_eq_getElem?_getD,List.getElem?_eq_getElem (by omega)]
    simp only [Option.getD_some,Option.toList_some,List.append_assoc,List.singleton_append,List.cons_append,List.nil_append]
  unfold hdc
  dsimp only
  rw [Nat.zero_add,List.set_append_left _ _ (by rw [List.length_map,hl];exact hi),← e,List.map_set]
theorem zD : aK Tryz.prog 10:=⟨_,Tryz.func10,rfl,by kernel_rfl⟩
set_option maxHeartbeats 16000000 in
theorem Cq (z : aM) (w : World) (hz : z.ok w) (hl : z.l.length≤1000000) :
    Calls Tryz.prog 10 [z.v].toArray w fun e w'=>∃ q : xN (di z.l),e=.returned (.tuple #[.agg (hdc (ef z.l)).toArray,aC q.1 (di z.l).length,N (eg z.l)])∧ah w [] (bR 5 q.1 ((di z.l).map U8)) w':=by
  have hz34 : (hdc bN).length=34:=rfl
  refine enter (n:=43) Tryz.func10 rfl rfl rfl (ah.start w []) ?_
  repeat (first | refine JC.seq ?_ | refine JC.region ?_)
  refine JL.alloc I5 rfl fun b2 _=>?_
  by_cases h40 : z.l.length<40
  · have hv : dI z.l=none:=by rw [dI,if_pos h40]
    have e1 : ef z.l=bN:=by rw [ef,hv]
    have e2 : di z.l=[]:=by rw [di,hv]
    have e3 : eg z.l=3:=by rw [eg,hv]
    rw [e1,e2,e3]
    repeat (first | refine JL.q (by first|(apply OQ.len (k:=z.l.length) (ad:=z.ad) (cap:=z.cap);exact Tryz.underlying27;rfl)|(apply OQ.g9 (a:=z.l.length) (b:=40);rfl;rfl;exact h40)|(apply OQ.move;rfl)|(apply OQ.assign;rfl)) rfl ?_ | refine JC.seq ?_ | refine JC.region ?_ | refine JL.nil ?_ | refine JE.next ?_)
    refine JC.cond_true rfl rfl ?_
    repeat (first | refine JC.seq ?_ | refine JC.region ?_)
    refine JL.q (OQ.pure (v:=.agg (hdc bN).toArray) rfl rfl (by kernel_rfl)) rfl ?_
    refine JL.ag (cs:=hdc bN) ql rfl rfl hz34 (fq _) .here hz34 ?_
    repeat (first | refine JL.q (by (apply OQ.assign;rfl)) rfl ?_ | refine JL.nil ?_ | refine JE.next ?_)
    refine JC.ret ?_
    repeat (refine JE.aH ?_)
    exact JE.jy rfl (RV.av B2 ql rfl .here hz34 Row.all) (RV.tmp rfl) (RV.tmp rfl) fun w' hw=>⟨⟨none,fun _=>rfl⟩,rfl,hw.weak (.nil _)⟩
  repeat (first | refine JL.q (by first|(apply OQ.len (k:=z.l.length) (ad:=z.ad) (cap:=z.cap);exact Tryz.underlying27;rfl)|(apply OQ.gu (a:=z.l.length) (b:=40);rfl;rfl;exact h40)|(apply OQ.move;rfl)|(apply OQ.assign;rfl)) rfl ?_ | refine JC.seq ?_ | refine JC.region ?_ | refine JL.nil ?_ | refine JE.next ?_)
  refine JC.cond_false rfl rfl ?_
  repeat (first | refine JC.seq ?_ | refine JC.skip ?_ | refine JE.next ?_)
  have v1:=Hy (s:=z) (lo:=32) (k:=4) (hi:=36) (by omega) rfl
  have v2:=Hy (s:=z) (lo:=36) (k:=4) (hi:=40) (by omega) rfl
  have o1:=fun (w' : World) (h : z.ok w')=>EU h (lo:=32) (k:=4) (by omega)
  have o2:=fun (w' : World) (h : z.ok w')=>EU h (lo:=36) (k:=4) (by omega)
  have c1:=fun (w' : World) (h : z.ok w')=>ux _ (by show ((z.l.drop 32).take 4).length=4;rw [List.length_take,List.length_drop];omega) w' (o1 w' h)
  have c2:=fun (w' : World) (h : z.ok w')=>ux _ (by show ((z.l.drop 36).take 4).length=4;rw [List.length_take,List.length_drop];omega) w' (o2 w' h)
  rw [v1] at c1
  rw [v2] at c2
  dsimp only at c1 c2
  have hcap:=hz.len
  have hv : dI z.l=if 2147483647<ia.cU ((z.l.drop 32).take 4)∨2147483647<ia.cU ((z.l.drop 36).take 4) then none else some (⟨z.l.take 32,ia.cU ((z.l.drop 32).take 4),ia.cU ((z.l.drop 36).take 4)⟩,z.l.drop 40):=by rw [dI,if_neg h40]
  generalize hp : ia.cU ((z.l.drop 32).take 4)=p at *
  generalize hm : ia.cU ((z.l.drop 36).take 4)=m at *
  have hhb:=Co p m
  have hz34p : (hdc ⟨dN,p,m⟩).length=34:=rfl
  let vs : Nat→Nat→Value:=fun j y=>match j with
    | 0=>z.v
    | 1=>.slice (if z.cap=32 then z.ad else z.ad.map (·.add (32 * 1))) (36 - 32) (z.cap - 32)
    | 2=>N p
    | 3=>z.v
    | 4=>.slice (if z.cap=36 then z.ad else z.ad.map (·.add (36 * 1))) (40 - 36) (z.cap - 36)
    | 5=>N m
    | 6=>.agg (hdc ⟨dN,p,m⟩).toArray
    | 7=>Pt y 0
    | _=>N 0
  let Ms : Nat→Nat→List aG:=fun j y=>match j with
    | 7=>[⟨y,Row 32 (hdc bN),true⟩]
    | 8=>[⟨y,Row 32 (hdc ⟨dN,p,m⟩),true⟩]
    | 9=>[⟨b2,Row 32 (hdc bN),true⟩]
    | _=>[]
  refine JC.grow (g:=⟨[(0,z.v),(2,Pt b2 0)],10,vs,Ms,(fun j=>match j with | 1=>[(0,11)] | 2=>[(1,12)] | 4=>[(3,14)] | 5=>[(4,15)] | 6=>[(2,13),(5,16)] | 8=>[(7,5),(6,17)] | _=>[]),(fun j=>match j with | 8=>[7] | _=>[]),(fun j=>match j with | 8=>[7] | _=>[]),(fun j=>match j with | 8=>some 7 | _=>none)⟩) [(7,5)] [8,9] gr (by repeat (first | exact ai.nil | refine ai.cons _ _ _ rfl ?_)) ?_ (by kernel_rfl) (by kernel_rfl) (by kernel_rfl) ?_ ?_
  · exact aq.refl _
  · refine ⟨?_,?_,?_,?_,?_,?_,?_,?_,?_,trivial⟩
    · (intro xx EF MF Q kk;(try refine JL.aU rfl rfl ?_);exact JL.q (OQ.move rfl) rfl (JL.nil (kk default nofun)))
    · (intro xx EF MF Q kk;(try refine JL.aU rfl rfl ?_);exact JL.q (OQ.oh (sz:=1) (lo:=32) (hi:=36) (len:=z.l.length) (cap:=z.cap) (ad:=z.ad) Tryz.underlying27 kM rfl rfl rfl (by decide) (by omega)) rfl (JL.nil (kk default nofun)))
    · (intro xx EF MF Q kk;(try refine JL.aU rfl rfl ?_);exact JL.q (OQ.au (vs:=[.slice (if z.cap=32 then z.ad else z.ad.map (·.add (32 * 1))) (36 - 32) (z.cap - 32)]) sJ rfl (fun w' hw'=>c1 w' (hz.holds hw' rfl))) rfl (JL.nil (kk default nofun)))
    · (intro xx EF MF Q kk;(try refine JL.aU rfl rfl ?_);exact JL.q (OQ.move rfl) rfl (JL.nil (kk default nofun)))
    · (intro xx EF MF Q kk;(try refine JL.aU rfl rfl ?_);exact JL.q (OQ.oh (sz:=1) (lo:=36) (hi:=40) (len:=z.l.length) (cap:=z.cap) (ad:=z.ad) Tryz.underlying27 kM rfl rfl rfl (by decide) (by omega)) rfl (JL.nil (kk default nofun)))
    · (intro xx EF MF Q kk;(try refine JL.aU rfl rfl ?_);exact JL.q (OQ.au (vs:=[.slice (if z.cap=36 then z.ad else z.ad.map (·.add (36 * 1))) (40 - 36) (z.cap - 36)]) sJ rfl (fun w' hw'=>c2 w' (hz.holds hw' rfl))) rfl (JL.nil (kk default nofun)))
    · (intro xx EF MF Q kk;(try refine JL.aU rfl rfl ?_);exact JL.q (OQ.l9 (cs:=hdc ⟨dN,p,m⟩) [1,2] [.tmp 13,.tmp 16] (vs:=[N p,N m]) rfl rfl hhb) rfl (JL.nil (kk default nofun)))
    · (intro xx EF MF Q kk;exact JL.alloc I5 rfl fun b0 _=>JL.nil (kk b0 nofun))
    · (intro xx EF MF Q kk;exact JL.ag (cs:=hdc ⟨dN,p,m⟩) ql rfl rfl hz34p (fq _) .here hz34 (JL.nil (kk (xx 7) (fun k h=>by cases h;rfl))))
  · intro xx hx
    have e8 : xx 8=xx 7:=hx 8 7 (by decide) rfl
    show JE _ _ _ _ _ [(5,Pt (xx 7) 0),(0,z.v),(2,Pt b2 0)] [⟨xx 8,Row 32 (hdc ⟨dN,p,m⟩),true⟩,⟨b2,Row 32 (hdc bN),true⟩]
    rw [e8]
    generalize xx 7=b5
    clear hx e8 xx vs Ms c1 c2 o1 o2 v1 v2
    repeat (first | refine JL.q (by (apply OQ.assign;rfl)) rfl ?_ | refine JC.seq ?_ | refine JC.region ?_ | refine JC.block ?_ | refine JL.nil ?_ | refine JE.next ?_)
    obtain ⟨bz,jz,eZ,cZ⟩:=hz.reads.at (by rw [List.length_map];omega)
    have vZ : z.v=.slice (some ⟨bz,jz,none⟩) z.l.length z.cap:=by rw [← eZ];rfl
    have hbz : bz<w.heap.size:=by
      obtain ⟨v,hv⟩ : ∃ v,(z.l.map U8)[0]?=some v:=⟨_,List.getElem?_eq_getElem (by rw [List.length_map];omega)⟩
      exact block_lt_of_cell (cZ 0 v hv)
    have h32 : (32 : Nat)≤z.l.length:=by omega
    rw [vZ]
    refine JC.loop (fun i : Nat=>[(0,.slice (some ⟨bz,jz,none⟩) z.l.length z.cap),(2,Pt b2 0),(5,Pt b5 0),(6,N i)]) (fun i=>[⟨b5,Row 32 (hdc ⟨Cp z.l i,p,m⟩),true⟩,⟨b2,Row 32 (hdc bN),true⟩]) (fun i=>32 - i) (fun i=>i≤32) 0 (Nat.zero_le _) (by repeat (first | exact ai.nil | refine ai.cons _ _ _ rfl ?_)) (aq.refl _) ?_
    intro i hi
    repeat (first | refine JL.q (by first|(apply OQ.bJ (a:=i) (b:=32);rfl;rfl)|(apply OQ.move;rfl)) rfl ?_ | refine JC.seq ?_ | refine JC.region ?_ | refine JL.nil ?_ | refine JE.next ?_)
    refine JC.cond rfl (fun hc=>?_) (fun hc=>?_)
    · have hi' : i<32:=of_decide_eq_true hc
      clear hc
      have hil : i<z.l.length:=by omega
      have g0 : (z.l.map U8)[i]?=some (U8 (z.l.getD i 0)):=by rw [List.getElem?_map,List.getElem?_eq_getElem hil,List.getD_eq_getElem?_getD,List.getElem?_eq_getElem hil];rfl
      have g1:=cZ i _ g0
      have hset:=Gt h32 hi' p m
      have hlc:=j3 (h:=⟨Cp z.l i,p,m⟩) (AV h32 hi)
      repeat (first | refine JL.q (by first|(apply OQ.gN (i:=i) (len:=z.l.length) (cap:=z.cap) (b:=bz) (j:=jz);exact Tryz.underlying27;exact kM;rfl;rfl;exact hil)|(apply OQ.JG (i:=i) (len:=32) (b:=b5) (j:=0);exact Tryz.underlying23;exact kM;rfl;rfl;exact hi')|(apply OQ.bQ;exact GL;rfl;exact hbz;exact (by simp);exact g1)|(apply OQ.move;rfl)|(apply OQ.bM;rfl;rfl;rfl;exact (by decide);rfl)) rfl ?_ | refine JC.seq ?_ | refine JC.region ?_ | refine JC.block ?_ | refine JC.skip ?_ | refine JE.next ?_)
      refine JL.az (r:=hdc ⟨Cp z.l i,p,m⟩) (r':=hdc ⟨Cp z.l (i+1),p,m⟩) kM rfl rfl rfl rfl .here (by rw [hlc];omega) hset ?_
      repeat (first | refine JL.q (by first|(apply OQ.aY (a:=i) (b:=1);rfl;rfl;exact (by omega))|(apply OQ.move;rfl)|(apply OQ.assign;rfl)) rfl ?_ | refine JC.region ?_ | refine JL.nil ?_ | refine JE.next ?_ | refine JE.an ?_)
      exact JE.again (i:=i) (i+1) hi' (by show 32 - (i+1)<32 - i;omega) (by repeat (first | exact ai.nil | refine ai.cons _ _ _ rfl ?_)) (aq.refl _)
    have hi' : i=32:=by have:=of_decide_eq_false hc;omega
    subst hi'
    clear hc hi
    have hch : Cp z.l 32=z.l.take 32:=by unfold Cp;simp
    rw [hch]
    have hlc : (z.l.take 32).length=32:=by rw [List.length_take,Nat.min_eq_left (by omega)]
    generalize hcc : z.l.take 32=c at *
    have hr1 : ∀ o,Row 32 (hdc ⟨c,p,m⟩) o→cellAt o 32=some (I p):=Row.cell (lq hlc)
    have hr2 : ∀ o,Row 32 (hdc ⟨c,p,m⟩) o→cellAt o 33=some (I m):=Row.cell (j4 hlc)
    have hl34:=j3 (h:=⟨c,p,m⟩) hlc
    rw [← vZ]
    obtain ⟨g1,hg1⟩ : ∃ g,decide ((2147483647 : Int)<(p : Int))=g:=⟨_,rfl⟩
    obtain ⟨g2,hg2⟩ : ∃ g,decide ((2147483647 : Int)<(m : Int))=g:=⟨_,rfl⟩
    obtain ⟨gg,hgg⟩ : ∃ g,(g1 || g2)=g:=⟨_,rfl⟩
    cases gg
    case true=>
      have hv2 : dI z.l=none:=by
        rw [hv,if_pos]
        rcases g1 with _ | _
        · obtain rfl : g2=true:=hgg
          have:=of_decide_eq_true hg2
          exact .inr (by omega)
        · have:=of_decide_eq_true hg1
          exact .inl (by omega)
      have e1 : ef z.l=bN:=by rw [ef,hv2]
      have e2 : di z.l=[]:=by rw [di,hv2]
      have e3 : eg z.l=3:=by rw [eg,hv2]
      rw [e1,e2,e3]
      cases g1
      case' false=>
        obtain rfl : g2=true:=hgg
      all_goals
        repeat (first | refine JL.q (by first|(apply OQ.load;exact bB;rfl;exact .here;exact hr1)|(apply OQ.load;exact bB;rfl;exact .here;exact hr2)|(apply OQ.jA (b:=2147483647);rfl;rfl;exact hg1)|(apply OQ.jA (b:=2147483647);rfl;rfl;exact hg2)|(apply OQ.eP;rfl;rfl)|(apply OQ.dK;rfl;rfl)|(apply OQ.move;rfl)|(apply OQ.bM;rfl;rfl;rfl;exact (by decide);rfl)) rfl ?_ | refine JC.seq ?_ | refine JC.region ?_ | refine JC.exit ?_ | refine JL.nil ?_ | refine JE.next ?_ | refine JE.ax ?_ | refine JE.aA ?_ | refine JL.aU rfl rfl ?_ | refine JL.iX rfl rfl rfl rfl ?_)
        refine JC.cond_true rfl rfl ?_
        repeat (first | refine JC.seq ?_ | refine JC.region ?_)
        refine JL.q (OQ.pure (v:=.agg (hdc bN).toArray) rfl rfl (by kernel_rfl)) rfl ?_
        refine JL.ag (cs:=hdc bN) ql rfl rfl hz34 (fq _) (.there .here) hz34 ?_
        repeat (first | refine JL.q (by (apply OQ.assign;rfl)) rfl ?_ | refine JL.nil ?_ | refine JE.next ?_)
        refine JC.ret ?_
        repeat (refine JE.aH ?_)
        exact JE.jy rfl (RV.av B2 ql rfl (.there .here) hz34 Row.all) (RV.tmp rfl) (RV.tmp rfl) fun w' hw=>⟨⟨none,fun _=>rfl⟩,rfl,hw.weak (.nil _)⟩
    obtain ⟨rfl,rfl⟩ : g1=false∧g2=false:=by simpa using hgg
    have hv2 : dI z.l=some (⟨c,p,m⟩,z.l.drop 40):=by rw [hv,if_neg (by have:=of_decide_eq_false hg1;have:=of_decide_eq_false hg2;omega)]
    have e1 : ef z.l=⟨c,p,m⟩:=by rw [ef,hv2]
    have e2 : di z.l=z.l.drop 40:=by rw [di,hv2]
    have e3 : eg z.l=0:=by rw [eg,hv2]
    rw [e1,e2,e3]
    have zo:=hz.snd 40 (by omega)
    have zl : (z.snd 40).l=z.l.drop 40:=rfl
    rw [← zl]
    have zll : (z.snd 40).l.length≤1000000:=by rw [zl,List.length_drop];omega
    repeat (first | refine JL.q (by first|(apply OQ.load;exact bB;rfl;exact .here;exact hr1)|(apply OQ.load;exact bB;rfl;exact .here;exact hr2)|(apply OQ.jA (b:=2147483647);rfl;rfl;exact hg1)|(apply OQ.jA (b:=2147483647);rfl;rfl;exact hg2)|(apply OQ.dK;rfl;rfl)|(apply OQ.move;rfl)|(apply OQ.bM;rfl;rfl;rfl;exact (by decide);rfl)) rfl ?_ | refine JC.seq ?_ | refine JC.region ?_ | refine JC.exit ?_ | refine JL.nil ?_ | refine JE.next ?_ | refine JE.ax ?_ | refine JE.aA ?_ | refine JL.aU rfl rfl ?_)
    refine JC.cond_false rfl rfl ?_
    repeat (first | refine JC.seq ?_ | refine JC.skip ?_ | refine JE.next ?_)
    let vs : Nat→(Nat × Nat)→Value:=fun j y=>match j with
      | 0=>.agg (hdc ⟨c,p,m⟩).toArray
      | 1=>.slice (some ⟨y.1,0,none⟩) 0 0
      | 2=>z.v
      | 3=>(z.snd 40).v
      | 4=>.slice (some ⟨y.1,0,none⟩) (z.snd 40).l.length y.2
      | 6=>.slice (some ⟨y.1,0,none⟩) (z.snd 40).l.length y.2
      | 7=>N 0
      | _=>N 0
    let Ms : Nat→(Nat × Nat)→List aG:=fun j y=>match j with
      | 1=>[⟨y.1,Sl.aE 5 1 0 0 [],true⟩]
      | 4=>[⟨y.1,Sl.aE 5 1 (z.snd 40).l.length y.2 ((z.snd 40).l.map U8),true⟩]
      | 5=>[⟨b2,Row 32 (hdc ⟨c,p,m⟩),true⟩]
      | 8=>[⟨b5,Row 32 (hdc ⟨c,p,m⟩),true⟩]
      | 9=>[⟨b2,Row 32 (hdc bN),true⟩]
      | _=>[]
    refine JC.grow (g:=⟨[(0,z.v),(2,Pt b2 0),(5,Pt b5 0)],10,vs,Ms,(fun j=>match j with | 3=>[(2,40)] | 4=>[(1,39),(3,41)] | 5=>[(0,38)] | 6=>[(4,42)] | _=>[]),(fun j=>match j with | 0=>[8] | 4=>[1] | 5=>[9] | _=>[]),(fun j=>match j with | 4=>[1] | 5=>[9] | _=>[]),(fun j=>match j with | 6=>some 4 | _=>none)⟩) [(6,3),(7,4)] [5,4] gr (by repeat (first | exact ai.nil | refine ai.cons _ _ _ rfl ?_)) ?_ (by kernel_rfl) (by kernel_rfl) (by kernel_rfl) ?_ ?_
    · exact aq.refl _
    · refine ⟨?_,?_,?_,?_,?_,?_,?_,?_,trivial⟩
      · (intro xx EF MF Q kk;(try refine JL.aU rfl rfl ?_);exact JL.q (OQ.af (cs:=hdc ⟨c,p,m⟩) B2 ql rfl .here hl34 Row.all) rfl (JL.nil (kk default nofun)))
      · (intro xx EF MF Q kk;exact JL.CR Tryz.underlying27 zS rfl fun b0 _=>JL.nil (kk (b0,0) nofun))
      · (intro xx EF MF Q kk;(try refine JL.aU rfl rfl ?_);exact JL.q (OQ.move rfl) rfl (JL.nil (kk default nofun)))
      · (intro xx EF MF Q kk;(try refine JL.aU rfl rfl ?_);exact JL.q (OQ.snd (s:=z) (m:=40) Tryz.underlying27 kM rfl rfl (by omega)) rfl (JL.nil (kk default nofun)))
      · (intro xx EF MF Q kk;exact JL.append (cs:=(z.snd 40).l.map U8) (m:=(z.snd 40).l.length) (ad:=(z.snd 40).ad) (sc:=(z.snd 40).cap) (xs:=[]) (fun b' cap'=>⟨b',Sl.aE 5 1 (0+(z.snd 40).l.length) cap' ([]++(z.snd 40).l.map U8),true⟩::MF) Tryz.underlying27 zS rfl rfl (fun _ _=>.here) (by rw [List.length_map,Nat.mul_one]) (fun w' hw'=>(zo.holds hw' rfl).reads) (fun v hv=>by obtain ⟨q,_,rfl⟩:=List.mem_map.1 hv;rfl) rfl (by decide) (by omega) (by omega) rfl fun b' cap'=>by simp only [Nat.zero_add];exact JL.nil (kk (b',cap') nofun))
      · (intro xx EF MF Q kk;exact JL.ag (cs:=hdc ⟨c,p,m⟩) ql rfl rfl hl34 (fq _) .here hz34 (JL.nil (kk default nofun)))
      · (intro xx EF MF Q kk;(try refine JL.aU rfl rfl ?_);exact JL.q (OQ.assign rfl) rfl (JL.nil (kk (xx 4) (fun k h=>by cases h;rfl))))
      · (intro xx EF MF Q kk;(try refine JL.aU rfl rfl ?_);exact JL.q (OQ.assign rfl) rfl (JL.nil (kk default nofun)))
    · intro xx hx
      have e6 : xx 6=xx 4:=hx 6 4 (by decide) rfl
      show JE _ _ _ _ _ [(3,.slice (some ⟨(xx 6).1,0,none⟩) (z.snd 40).l.length (xx 6).2),(4,N 0),(0,z.v),(2,Pt b2 0),(5,Pt b5 0)] [⟨b2,Row 32 (hdc ⟨c,p,m⟩),true⟩,⟨(xx 4).1,Sl.aE 5 1 (z.snd 40).l.length (xx 4).2 ((z.snd 40).l.map U8),true⟩]
      rw [e6]
      generalize xx 4=x
      obtain ⟨bx,cx⟩:=x
      clear hx e6 xx vs Ms
      try dsimp only
      repeat (refine JE.next ?_)
      refine JC.ret ?_
      skip
      refine JE.jy rfl (RV.av B2 ql rfl .here hl34 Row.all) (RV.tmp rfl) (RV.tmp rfl) fun w' hw=>⟨⟨some (bx,cx),nofun⟩,rfl,?_⟩
      show ah w [] [⟨bx,Sl.aE 5 1 ((z.snd 40).l.map U8).length cx ((z.snd 40).l.map U8),true⟩] w'
      rw [List.length_map]
      exact hw.weak (.drop _ _ _ (aq.refl _))
end
section
set_option maxRecDepth 10000
open Sl g5 lz dO mP
open pT (Bk)
structure xY (l : List Kp) where
  b : Nat
  off : Nat
  cap : Nat
def xY.v {l : List Kp} (r : xY l) : Value:=.slice (some ⟨r.b,r.off,none⟩) l.length r.cap
def xY.K {l : List Kp} (r : xY l) : mV:=⟨some ⟨r.b,r.off,none⟩,r.cap,l⟩
def xY.ct {l : List Kp} (r : xY l) : List aG:=[⟨r.b,fun o=>bD o r.off (aX l).flatten∧l.length≤r.cap,true⟩]
theorem xY.ok {l : List Kp} {r : xY l} (hl : ∀ k ∈ l,k.ok) {w0 w : World} {S : List Nat} {M : List aG} (hw : ah w0 S (r.ct++M) w) : r.K.ok w:=by
  obtain ⟨o,ho,h1,h2⟩:=hw.get (.here (M:=M))
  exact ⟨h2,Reads.block ho h1,hl⟩
theorem xY.wr {l : List Kp} (r : xY l) : ∀ e ∈ r.ct,e.wr=true:=fun e he=>by
  simp only [xY.ct,List.mem_singleton] at he
  rw [he]
theorem Gu {e : TypeId} {cap j : Nat} {l : List Kp} (hl : ∀ k ∈ l,k.ok) {o : Obj} (h : Sl.aE e 65 l.length cap (aX l).flatten o) (hj : j≤l.length) : bD o (j * 65) (aX (l.drop j)).flatten∧(l.drop j).length≤cap - j:=by
  obtain ⟨sp,rfl,h1,h2,h3⟩:=h
  refine ⟨⟨_,_,_,rfl,fun i hi=>?_⟩,by rw [List.length_drop];omega⟩
  have hd : (aX (l.drop j)).flatten=(aX l).flatten.drop (j * 65):=by rw [fM (fE hl)];simp [aX,List.map_drop]
  rw [hd,List.length_drop] at hi
  rw [hd,List.getElem?_drop]
  simp only [List.getElem?_toArray]
  rw [List.getElem?_append_left (by omega)]
theorem Cr (c k : Bk) (m : Nat) (hc : c.length=32) (hk : k.length=32) : Tryz.prog.built 57 ([0,1,2].zip [.agg (c.map U8).toArray,N m,.agg (k.map U8).toArray])=some (dU ⟨c,m,k⟩).toArray:=by
  have h : Tryz.prog.built 57 ([0,1,2].zip [.agg (c.map U8).toArray,N m,.agg (k.map U8).toArray])=Instr.fill (fun i=>#[(0,32),(32,1),(33,32)][i]?) (dU mQ).toArray [(0,.agg (c.map U8).toArray),(1,N m),(2,.agg (k.map U8).toArray)]:=by kernel_rfl
  rw [h,dy (off:=0) (sz:=32) (cs:=c.map U8) rfl rfl (by simp [hc]) (by simp [dU,mQ]),dy (off:=32) (sz:=1) (cs:=[N m]) rfl rfl rfl (by simp [dU,mQ,hc])]
  have hp:=sO (a:=c.map U8) (b:=[N 0]) (c:=dN.map U8) (j:=32) (k:=1) [N m] (by simp [hc]) rfl
  have hp2:=EG (m:=m) hc hk
  have h0 : ((dU mQ).take 0++c.map U8++(dU mQ).drop (0+32))=c.map U8++([N 0]++dN.map U8):=rfl
  rw [h0,hp]
  have e : c.map U8++([N m]++dN.map U8)=dU ⟨c,m,dN⟩:=rfl
  have hl:=ij (k:=⟨c,m,dN⟩) ⟨hc,rfl⟩
  rw [e,dy (off:=33) (sz:=32) (cs:=k.map U8) rfl rfl (by simp [hk]) (by rw [hl];decide)]
  rw [List.length_map,hk] at hp2
  rw [hp2]
  rfl
theorem ji : aK Tryz.prog 29:=⟨_,Tryz.func29,rfl,by kernel_rfl⟩
set_option maxHeartbeats 32000000 in
theorem uy (s : bA) (k : mV) (hs : s.ok) (to : Nat) (h : leave s to=none) (w : World) (hto : to≤2147483648) (htk : s.taken≤2147483648) :
    Calls Tryz.prog 29 [.agg (sec s k.v).toArray,N to].toArray w fun e w'=>e=.returned (.tuple #[.agg (sec s k.v).toArray,.bool false])∧Ext w w':=by
  have h1 : 1000<to - s.taken:=by
    rw [leave] at h
    split at h
    · assumption
    · cases h
  have hn:=ay hs k.v
  have htr : ∀ o,Row 26 (sec s k.v) o→cellAt o 163=some (N s.taken):=Row.cell (dG hs _)
  have e1 : decide ((1000 : Int)<((to - s.taken : Nat) : Int))=true:=decide_eq_true (by omega)
  refine enter (n:=52) Tryz.func29 rfl rfl rfl (ah.start w []) ?_
  repeat (first | refine JC.seq ?_ | refine JC.region ?_)
  refine JL.box (r:=sec s k.v) rfl rfl rfl fun b2 _=>?_
  refine JL.alloc uk rfl fun b4 _=>?_
  repeat (first | refine JL.q (by first|(apply OQ.load;exact bB;rfl;exact (.there .here);exact htr)|(apply OQ.jk (a:=to) (b:=s.taken);rfl;rfl;exact (by omega);exact (by omega))|(apply OQ.jA (b:=1000);rfl;rfl;exact e1)|(apply OQ.move;rfl)|(apply OQ.assign;rfl)|(apply OQ.bM;rfl;rfl;rfl;exact (by decide);rfl)) rfl ?_ | refine JC.seq ?_ | refine JC.region ?_ | refine JL.nil ?_ | refine JE.next ?_)
  refine JC.cond_true rfl rfl ?_
  repeat (first | refine JL.q (by (apply OQ.af (cs:=sec s k.v);exact gK;exact dB;rfl;exact (.there .here);exact hn;exact Row.all)) rfl ?_ | refine JC.seq ?_ | refine JC.region ?_)
  refine JL.ag (cs:=sec s k.v) dB rfl rfl hn (bw rfl) .here (ay br _) ?_
  repeat (first | refine JL.q (by (apply OQ.assign;rfl)) rfl ?_ | refine JL.nil ?_ | refine JE.next ?_)
  refine JC.ret ?_
  repeat (refine JE.aH ?_)
  exact JE.gp rfl (RV.av gK dB rfl .here hn Row.all) (RV.tmp rfl) fun w' hw=>⟨rfl,hw.aL⟩
set_option maxHeartbeats 32000000 in
theorem sK (s : bA) (k : mV) (hs : s.ok) (he : k.l=s.kept) (hkl : s.kept.length≤2000) (to : Nat) (n : bA) (h : leave s to=some n) (w : World) (hto : to≤2147483648) (htk : s.taken≤2147483648) (hk : k.ok w) :
    Calls Tryz.prog 29 [.agg (sec s k.v).toArray,N to].toArray w fun e w'=>∃ r : xY n.kept,e=.returned (.tuple #[.agg (sec n r.v).toArray,.bool true])∧ah w [] r.ct w':=by
  have h1 : ¬ 1000<to - s.taken:=fun h1=>by rw [su h1] at h;cases h
  have hn : n=trim (mL s (to - s.taken)):=by rw [nR h1] at h;exact (Option.some.inj h).symm
  clear h
  have hl:=ay hs k.v
  have htr : ∀ o,Row 26 (sec s k.v) o→cellAt o 163=some (N s.taken):=Row.cell (dG hs _)
  have hkr : ∀ o,Row 26 (sec s k.v) o→cellAt o 165=some k.v:=Row.cell (gO hs _)
  have e1 : decide ((1000 : Int)<(to : Int) - (s.taken : Int))=false:=decide_eq_false (by omega)
  have hfl : ((aX k.l).flatten).length=k.l.length * 65:=by rw [dQ (fE hk.all),dV]
  have hkl' : k.l.length≤2000:=by rw [he];exact hkl
  refine enter (n:=52) Tryz.func29 rfl rfl rfl (ah.start w []) ?_
  repeat (first | refine JC.seq ?_ | refine JC.region ?_)
  refine JL.box (r:=sec s k.v) rfl rfl rfl fun b2 _=>?_
  refine JL.alloc uk rfl fun b4 _=>?_
  repeat (first | refine JL.q (by first|(apply OQ.load;exact bB;rfl;exact (.there .here);exact htr)|(apply OQ.od (a:=(to : Int)) (b:=(s.taken : Int));rfl;rfl;exact (by omega);exact (by omega))|(apply OQ.jA (b:=1000);rfl;rfl;exact e1)|(apply OQ.move;rfl)|(apply OQ.assign;rfl)|(apply OQ.bM;rfl;rfl;rfl;exact (by decide);rfl)) rfl ?_ | refine JC.seq ?_ | refine JC.region ?_ | refine JL.nil ?_ | refine JE.next ?_)
  refine JC.cond_false rfl rfl ?_
  repeat (first | refine JC.seq ?_ | refine JC.region ?_ | refine JC.skip ?_ | refine JE.next ?_)
  refine JL.uF Tryz.underlying24 B3 rfl fun b0 _=>?_
  repeat (refine JL.q (by first|(apply OQ.load;exact iV;rfl;exact (.there (.there .here));exact hkr)|(apply OQ.bM;rfl;rfl;rfl;exact (by decide);rfl)) rfl ?_)
  refine JL.append (cs:=(aX k.l).flatten) (m:=k.l.length) (ad:=k.ad) (sc:=k.cap) (xs:=[]) (fun b' cap'=>[⟨b',Sl.aE 57 65 (0+k.l.length) cap' ([]++(aX k.l).flatten),true⟩,⟨b4,Row 26 (sec dh aR),true⟩,⟨b2,Row 26 (sec s k.v),true⟩]) Tryz.underlying24 B3 rfl rfl (by intro _ _;repeat (first | exact aZ.here | apply aZ.there)) hfl (fun w' hw'=>(hk.holds hw' rfl).reads) (iA k.l) rfl (by decide) (by omega) (by omega) rfl fun b1 cap1=>?_
  rw [Nat.zero_add,List.nil_append]
  generalize hkv : k.v=kv at *
  have hkv1 : kv.oneCell'=true:=by rw [← hkv];rfl
  rw [he] at hfl ⊢
  clear hkv hk
  repeat (first | refine JL.q (by (apply OQ.assign;rfl)) rfl ?_ | refine JC.seq ?_ | refine JC.block ?_ | refine JL.nil ?_ | refine JE.next ?_)
  obtain ⟨k0,hk0⟩ : ∃ k,to - s.taken=k:=⟨_,rfl⟩
  rw [hk0] at hn
  refine JC.loop (fun z : Nat × Nat × Nat=>[(1,N to),(2,Pt b2 0),(4,Pt b4 0),(6,.slice (some ⟨z.2.1,0,none⟩) (mL s z.1).kept.length z.2.2)]) (fun z=>[⟨z.2.1,Sl.aE 57 65 (mL s z.1).kept.length z.2.2 (aX (mL s z.1).kept).flatten,true⟩,⟨b4,Row 26 (sec dh aR),true⟩,⟨b2,Row 26 (sec (mL s z.1) kv),true⟩]) (fun z=>k0 - z.1) (fun z=>z.1≤k0) (0,b1,cap1) (Nat.zero_le _) (by dsimp only;rw [lQ];exact (by repeat (first | exact ai.nil | refine ai.cons _ _ _ rfl ?_))) (by dsimp only;rw [lQ];exact aq.refl _) ?_
  rintro ⟨i,b6,cap⟩ hi
  dsimp only at hi ⊢
  have hsi:=zq hs i
  have hst:=AQ s i
  have htn : (mL s i).taken=s.taken+i:=rfl
  have hln : (mL s i).kept.length=s.kept.length+i:=by show (s.kept++BZ _ i _ _).length=_;rw [List.length_append,vF]
  obtain ⟨u,hu⟩ : ∃ u,mL s i=u:=⟨_,rfl⟩
  rw [hu] at hsi hst htn hln ⊢
  have htr2 : ∀ o,Row 26 (sec u kv) o→cellAt o 163=some (N u.taken):=Row.cell (dG hsi _)
  by_cases hc : i<k0
  · have hlt : u.taken<to:=by omega
    have lt : (u.take.map U8).length=32:=by rw [List.length_map];exact hsi.take
    have lo : (u.other.map U8).length=32:=by rw [List.length_map];exact hsi.other
    have cst : ∀ (w' : World),Calls Tryz.prog 32 [.agg (u.take.map U8).toArray].toArray w' fun e w''=>e=.returned (.tuple #[.agg ((mU u.take).map U8).toArray,.agg ((kD u.take).map U8).toArray])∧Ext w' w'':=fun w'=>sA u.take hsi.take w'
    have x1 : ({ u with take:=mU u.take } : bA).ok:=⟨hsi.root,hsi.own,hsi.other,hsi.send,rfl,hsi.kept⟩
    have p1:=fX hsi kv (mU u.take) rfl
    have p2:=fF x1 kv (u.taken+1)
    have hn1:=ay hsi kv
    have hn2:=ay x1 kv
    have hkb:=Cr u.other (kD u.take) u.taken hsi.other rfl
    have hk65:=ij (k:=⟨u.other,u.taken,kD u.take⟩) ⟨hsi.other,rfl⟩
    have ln : ((mU u.take).map U8).length=32:=rfl
    have lm : ((kD u.take).map U8).length=32:=rfl
    have htr3 : ∀ o,Row 26 (sec { u with take:=mU u.take } kv) o→cellAt o 163=some (N u.taken):=Row.cell (dG x1 _)
    have q1 : sec (mL s (i+1)) kv=sec { u with take:=mU u.take,taken:=u.taken+1 } kv:=by rw [hst];rfl
    have q2 : (aX (mL s (i+1)).kept).flatten=(aX u.kept).flatten++dU ⟨u.other,u.taken,kD u.take⟩:=by rw [hst];simp [aX]
    have q3 : (mL s (i+1)).kept.length=u.kept.length+1:=by rw [hst];simp
    clear hst
    generalize mU u.take=nx at *
    generalize hms : kD u.take=ms at *
    repeat (first | refine JL.q (by first|(apply OQ.load;exact bB;rfl;exact (.there (.there .here));exact htr2)|(apply OQ.g9 (a:=u.taken) (b:=to);rfl;rfl;exact hlt)|(apply OQ.move;rfl)|(apply OQ.bM;rfl;rfl;rfl;exact (by decide);rfl)) rfl ?_ | refine JC.seq ?_ | refine JC.region ?_ | refine JL.nil ?_ | refine JE.next ?_)
    refine JC.cond_true rfl rfl ?_
    repeat (first | refine JL.q (by first|(apply OQ.af (cs:=u.take.map U8);exact aP;exact aB;rfl;exact (.there (.there .here));exact lt;exact (Row.cells (lg hsi _)))|(apply OQ.au (vs:=[.agg (u.take.map U8).toArray]);exact qb;rfl;exact (fun w' _=>cst w'))|(apply OQ.extract;rfl;rfl)|(apply OQ.move;rfl)|(apply OQ.bM;rfl;rfl;rfl;exact (by decide);rfl)) rfl ?_ | refine JC.seq ?_ | refine JC.region ?_ | refine JC.block ?_ | refine JC.skip ?_ | refine JE.next ?_)
    refine JL.alloc gR rfl fun b7 _=>?_
    refine JL.alloc gR rfl fun b8 _=>?_
    refine JL.ag (cs:=nx.map U8) aB rfl rfl ln (aV _) (.there .here) (by simp) ?_
    refine JL.ag (cs:=ms.map U8) aB rfl rfl lm (aV _) .here (by simp) ?_
    repeat (first | refine JL.q (by first|(apply OQ.af (cs:=u.other.map U8);exact aP;exact aB;rfl;exact (.there (.there (.there (.there .here))));exact lo;exact (Row.cells (dW hsi _)))|(apply OQ.load;exact bB;rfl;exact (.there (.there (.there (.there .here))));exact htr2)|(apply OQ.af (cs:=ms.map U8);exact aP;exact aB;rfl;exact .here;exact lm;exact Row.all)|(apply OQ.move;rfl)|(apply OQ.bM;rfl;rfl;rfl;exact (by decide);rfl)) rfl ?_ | refine JC.seq ?_ | refine JC.region ?_ | refine JL.nil ?_ | refine JE.next ?_)
    refine JL.q (OQ.l9 (cs:=dU ⟨u.other,u.taken,ms⟩) [0,1,2] [.tmp 31,.tmp 33,.tmp 34] (vs:=[.agg (u.other.map U8).toArray,N u.taken,.agg (ms.map U8).toArray]) rfl rfl hkb) rfl ?_
    refine JL.HH (cs:=dU ⟨u.other,u.taken,ms⟩) Tryz.underlying24 B3 rfl (by decide) (by decide) rfl hk65 rfl fun bl _=>?_
    refine JL.append (cs:=dU ⟨u.other,u.taken,ms⟩) (m:=1) (k:=u.kept.length) (cap:=cap) (ad:=some ⟨bl,0,none⟩) (sc:=1) (xs:=(aX u.kept).flatten) (fun b' cap'=>[⟨bl,Row 57 (dU ⟨u.other,u.taken,ms⟩),true⟩,⟨b8,Row 23 (ms.map U8),true⟩,⟨b7,Row 23 (nx.map U8),true⟩,⟨b',Sl.aE 57 65 (u.kept.length+1) cap' ((aX u.kept).flatten++dU ⟨u.other,u.taken,ms⟩),true⟩,⟨b4,Row 26 (sec dh aR),true⟩,⟨b2,Row 26 (sec u kv),true⟩]) Tryz.underlying24 B3 rfl rfl (by intro _ _;repeat (first | exact aZ.here | apply aZ.there)) hk65 (fun w' hw'=>by obtain ⟨o,ho,hA⟩:=hw'.get .here;exact Reads.block ho (Row.all _ hA)) (fun v hv=>iA [⟨u.other,u.taken,ms⟩] v (by simpa [aX] using hv)) rfl (by decide) (by omega) (by omega) rfl fun b' cap'=>?_
    repeat (first | refine JL.q (by first|(apply OQ.af (cs:=nx.map U8);exact aP;exact aB;rfl;exact (.there (.there .here));exact ln;exact Row.all)|(apply OQ.assign;rfl)|(apply OQ.bM;rfl;rfl;rfl;exact (by decide);rfl)) rfl ?_ | refine JC.seq ?_ | refine JC.region ?_ | refine JL.nil ?_ | refine JE.next ?_)
    refine JL.aW (r:=sec u kv) (r':=sec { u with take:=nx } kv) aB rfl rfl ln (aV _) (.there (.there (.there (.there (.there .here))))) (by rw [hn1,ln];decide) p1 ?_
    repeat (first | refine JL.q (by first|(apply OQ.load;exact bB;rfl;exact (.there (.there (.there (.there (.there .here)))));exact htr3)|(apply OQ.aY (a:=u.taken) (b:=1);rfl;rfl;exact (by omega))|(apply OQ.bM;rfl;rfl;rfl;exact (by decide);rfl)) rfl ?_ | refine JC.region ?_ | refine JL.nil ?_ | refine JE.next ?_)
    refine JL.az (r:=sec { u with take:=nx } kv) (r':=sec { u with take:=nx,taken:=u.taken+1 } kv) nt rfl rfl rfl rfl (.there (.there (.there (.there (.there .here))))) (by rw [hn2];decide) p2 ?_
    repeat (first | refine JL.nil ?_ | refine JE.an ?_)
    refine JE.again (i:=((i,b6,cap) : Nat × Nat × Nat)) (i+1,b',cap') (by show i+1≤k0;omega) (by show k0 - (i+1)<k0 - i;omega) ?_ ?_
    · dsimp only
      rw [q3]
      exact (by repeat (first | exact ai.nil | refine ai.cons _ _ _ rfl ?_))
    · dsimp only
      rw [q1,q2,q3]
      exact .drop _ _ _ (.drop _ _ _ (.drop _ _ _ (aq.refl _)))
  · obtain rfl : i=k0:=by omega
    have hge : ¬ u.taken<to:=by omega
    have hL : u.kept.length≤3000:=by omega
    rw [hu] at hn
    have hn1:=ay hsi kv
    clear hst hln
    obtain ⟨L,hLe⟩ : ∃ L,u.kept.length=L:=⟨_,rfl⟩
    rw [hLe] at hL
    rw [hLe]
    refine JC.fact (b:=b6) (A:=Sl.aE 57 65 L cap (aX u.kept).flatten) (wr:=true) .here (fun o ⟨sp,_,_,_,h⟩=>h) fun hcap=>?_
    repeat (first | refine JL.q (by first|(apply OQ.load;exact bB;rfl;exact (.there (.there .here));exact htr2)|(apply OQ.gu (a:=u.taken) (b:=to);rfl;rfl;exact hge)|(apply OQ.move;rfl)|(apply OQ.bM;rfl;rfl;rfl;exact (by decide);rfl)) rfl ?_ | refine JC.seq ?_ | refine JC.region ?_ | refine JL.nil ?_ | refine JE.next ?_)
    refine JC.cond_false rfl rfl ?_
    repeat (first | refine JC.seq ?_ | refine JC.block ?_ | refine JC.exit ?_ | refine JE.next ?_ | refine JE.ax ?_ | refine JE.aA ?_)
    refine JC.loop (fun j : Nat=>[(1,N to),(2,Pt b2 0),(4,Pt b4 0),(6,.slice (some ⟨b6,j * 65,none⟩) (L - j) (cap - j))]) (fun _=>[⟨b6,Sl.aE 57 65 L cap (aX u.kept).flatten,true⟩,⟨b4,Row 26 (sec dh aR),true⟩,⟨b2,Row 26 (sec u kv),true⟩]) (fun j=>L - j) (fun j=>j≤L - 2000) 0 (Nat.zero_le _) (by rw [Nat.zero_mul];exact (by repeat (first | exact ai.nil | refine ai.cons _ _ _ rfl ?_))) (aq.refl _) ?_
    intro j hj
    by_cases hc2 : 2000<L - j
    · have e3 : decide ((2000 : Int)<((L - j : Nat) : Int))=true:=decide_eq_true (by omega)
      have e4 : Value.slice (if cap - j=1 then some ⟨b6,j * 65,none⟩ else (some (⟨b6,j * 65,none⟩ : Addr)).map (·.add (1 * 65))) (L - j - 1) (cap - j - 1)=.slice (some ⟨b6,(j+1) * 65,none⟩) (L - (j+1)) (cap - (j+1)):=by
        rw [if_neg (by omega),Nat.add_mul j 1 65,Nat.sub_add_eq,Nat.sub_add_eq]
        rfl
      repeat (first | refine JL.q (by first|(apply OQ.len (k:=L - j) (ad:=some ⟨b6,j * 65,none⟩) (cap:=cap - j);exact Tryz.underlying24;rfl)|(apply OQ.jA (b:=2000);rfl;rfl;exact e3)|(apply OQ.move;rfl)) rfl ?_ | refine JC.seq ?_ | refine JC.region ?_ | refine JL.nil ?_ | refine JE.next ?_)
      refine JC.cond_true rfl rfl ?_
      repeat (first | refine JL.q (by first|(apply OQ.to;exact (OQ.nv (lo:=1) (len:=L - j) (cap:=cap - j) (ad:=some ⟨b6,j * 65,none⟩) Tryz.underlying24 ta rfl rfl (by omega));exact e4)|(apply OQ.move;rfl)|(apply OQ.assign;rfl)) rfl ?_ | refine JC.region ?_ | refine JC.block ?_ | refine JC.skip ?_ | refine JL.nil ?_ | refine JE.next ?_ | refine JE.an ?_)
      exact JE.again (i:=j) (j+1) (by show j+1≤L - 2000;omega) (by show L - (j+1)<L - j;omega) (by repeat (first | exact ai.nil | refine ai.cons _ _ _ rfl ?_)) (aq.refl _)
    · obtain rfl : j=L - 2000:=by omega
      have e3 : decide ((2000 : Int)<((L - (L - 2000) : Nat) : Int))=false:=decide_eq_false (by omega)
      have p3:=fo hsi kv u.kept (.slice (some ⟨b6,(L - 2000) * 65,none⟩) (L - (L - 2000)) (cap - (L - 2000)))
      have hn3:=ay hsi (.slice (some ⟨b6,(L - 2000) * 65,none⟩) (L - (L - 2000)) (cap - (L - 2000)))
      repeat (first | refine JL.q (by first|(apply OQ.len (k:=L - (L - 2000)) (ad:=some ⟨b6,(L - 2000) * 65,none⟩) (cap:=cap - (L - 2000));exact Tryz.underlying24;rfl)|(apply OQ.jA (b:=2000);rfl;rfl;exact e3)|(apply OQ.move;rfl)) rfl ?_ | refine JC.seq ?_ | refine JC.region ?_ | refine JL.nil ?_ | refine JE.next ?_)
      refine JC.cond_false rfl rfl ?_
      repeat (first | refine JL.q (by first|(apply OQ.move;rfl)|(apply OQ.bM;rfl;rfl;rfl;exact (by decide);rfl)) rfl ?_ | refine JC.seq ?_ | refine JC.region ?_ | refine JC.exit ?_ | refine JE.next ?_ | refine JE.ax ?_ | refine JE.aA ?_)
      refine JL.az (r:=sec u kv) (r':=sec u (.slice (some ⟨b6,(L - 2000) * 65,none⟩) (L - (L - 2000)) (cap - (L - 2000)))) B4 rfl rfl rfl rfl (.there (.there .here)) (by rw [hn1];decide) p3 ?_
      repeat (first | refine JL.q (by (apply OQ.af (cs:=sec u (.slice (some ⟨b6,(L - 2000) * 65,none⟩) (L - (L - 2000)) (cap - (L - 2000))));exact gK;exact dB;rfl;exact (.there (.there .here));exact hn3;exact Row.all)) rfl ?_ | refine JC.seq ?_ | refine JC.region ?_ | refine JL.nil ?_ | refine JE.next ?_)
      refine JL.ag (cs:=sec u (.slice (some ⟨b6,(L - 2000) * 65,none⟩) (L - (L - 2000)) (cap - (L - 2000)))) dB rfl rfl hn3 (bw rfl) (.there .here) (ay br _) ?_
      repeat (first | refine JL.q (by (apply OQ.assign;rfl)) rfl ?_ | refine JL.nil ?_ | refine JE.next ?_)
      refine JC.ret ?_
      skip
      have hnk : n.kept=u.kept.drop (L - 2000):=by rw [hn,pM,oL,hLe]
      have hnl : n.kept.length=L - (L - 2000):=by rw [hnk,List.length_drop,hLe]
      refine JE.gp rfl (RV.av gK dB rfl (.there .here) hn3 Row.all) (RV.tmp rfl) fun w' hw=>⟨⟨b6,(L - 2000) * 65,cap - (L - 2000)⟩,?_,?_⟩
      · unfold xY.v
        rw [hnl,hn]
        rfl
      · refine hw.weak (.keep _ _ _ _ _ _ (fun o ho=>?_) (aq.nil _))
        rw [← hLe] at ho ⊢
        have:=Gu hsi.kept ho (j:=u.kept.length - 2000) (by omega)
        dsimp only
        rw [hnk,← hLe]
        exact this
end
section
set_option maxRecDepth 10000
open Sl g5 lz dO mP
open pT (Bk)
theorem AW {l : Bk} (h : l.length=4) : b4 (ia.cU l)=l:=by
  match l,h with
  | [a,b,c,d],_=>
  have ha:=a.isLt
  have hb:=b.isLt
  have hc:=c.isLt
  have hd:=d.isLt
  rw [Hx,ES _ (by omega)]
  have e : ∀ (x : BitVec 8) (n : Nat),n % 256=x.toNat→BitVec.ofNat 8 n=x:=fun x n h=>BitVec.eq_of_toNat_eq (by rw [BitVec.toNat_ofNat];exact h)
  rw [e a _ (by omega),e b _ (by omega),e c _ (by omega),e d _ (by omega)]
theorem head_take {z r : Bk} {h : Hd} (e : dI z=some (h,r)) : z.take 40=dP h:=by
  obtain ⟨_,_,_,_,h40,hc⟩:=kH e
  rw [dI,if_neg (by omega)] at e
  split at e
  · cases e
  · have e:=(Prod.mk.inj (Option.some.inj e)).1
    rw [← e]
    show z.take 40=z.take 32++b4 (ia.cU ((z.drop 32).take 4))++b4 (ia.cU ((z.drop 36).take 4))
    rw [AW (by rw [List.length_take,List.length_drop];omega),AW (by rw [List.length_take,List.length_drop];omega)]
    rw [show z.drop 36=(z.drop 32).drop 4 by rw [List.drop_drop],List.append_assoc,← List.take_add,← List.take_add]
theorem Gv {h : Hd} {l : List Kp} {i : Nat} (hi : i<l.length) (h1 : sv h (l.getD i mQ)=true) (h2 : ∀ j,j<i→sv h (l.getD j mQ)=false) : sw h l=some i:=by
  have g : ∀ j (hj : j<l.length),l.getD j mQ=l[j]:=fun j hj=>by rw [List.getD_eq_getElem?_getD,List.getElem?_eq_getElem hj];rfl
  rw [sw,List.findIdx?_eq_some_iff_getElem]
  refine ⟨hi,by rw [← g i hi];exact h1,fun j hj=>?_⟩
  rw [← g j (by omega),h2 j hj]
  decide
theorem Gw {h : Hd} {l : List Kp} (h2 : ∀ j,j<l.length→sv h (l.getD j mQ)=false) : sw h l=none:=by
  rw [sw,List.findIdx?_eq_none_iff]
  intro x hx
  obtain ⟨j,hj,rfl⟩:=List.mem_iff_getElem.1 hx
  have:=h2 j hj
  rwa [List.getD_eq_getElem?_getD,List.getElem?_eq_getElem hj] at this
theorem EV {l : List Kp} (hl : ∀ k ∈ l,k.ok) (i : Nat) : (aX (l.take i)).flatten=(aX l).flatten.take (i * 65):=by
  have h:=fM (fE hl) i
  have h1 : (aX l).flatten=(aX (l.take i)).flatten++(aX (l.drop i)).flatten:=by rw [← List.flatten_append];unfold aX;rw [← List.map_append,List.take_append_drop]
  have h2 : (aX l).flatten.drop (i * 65)=(aX (l.drop i)).flatten:=by rw [h];simp [aX,List.map_drop]
  have h3:=List.take_append_drop (i * 65) (aX l).flatten
  rw [h2] at h3
  have h4:=h1.symm.trans h3.symm
  exact List.append_cancel_right h4
theorem Gx {l : List Kp} (hl : ∀ k ∈ l,k.ok) (i : Nat) : (aX (l.drop i)).flatten=(aX l).flatten.drop (i * 65):=by
  rw [fM (fE hl)]
  simp [aX,List.map_drop]
theorem tg {w : World} {ba ja cap i : Nat} {l : List Kp} (hl : ∀ k ∈ l,k.ok) (h : Reads w (some ⟨ba,ja,none⟩) (aX l).flatten) (hc : l.length≤cap) : Reads w (if cap=i then some ⟨ba,ja,none⟩ else (some (⟨ba,ja,none⟩ : Addr)).map (·.add (i * 65))) (aX (l.drop i)).flatten:=by
  by_cases e : cap=i
  · rw [List.drop_of_length_le (by omega)]
    exact Reads.nil _ _
  · rw [if_neg e,Gx hl]
    intro m v hv
    rw [List.getElem?_drop] at hv
    obtain ⟨b,j,e1,hc⟩:=h _ _ hv
    cases e1
    exact ⟨ba,ja+i * 65,by simp [Addr.add],by rw [Nat.add_assoc];exact hc⟩
theorem Je {l : List Kp} (hl : ∀ k ∈ l,k.ok) {w0 w : World} {S : List Nat} {M : List aG} {b cap : Nat} {wr : Bool} (hw : ah w0 S M w) (hM : Has M b (Sl.aE 57 65 l.length cap (aX l).flatten) wr) : mV.ok w ⟨some ⟨b,0,none⟩,cap,l⟩:=by
  obtain ⟨o,ho,hA⟩:=hw.get hM
  have hh:=Sl.aE.cells _ hA
  obtain ⟨sp,rfl,h2,h3,h4⟩:=hA
  exact ⟨h4,Reads.block ho hh,hl⟩
structure Jf where
  n : bA
  K : mV
  es : List aG
structure MU (w : World) (o : Option bA) (r : Jf) : Prop where
  on : o=some r.n
  ok : r.n.ok
  l : r.K.l=r.n.kept
  Jw : ∀ w',ah w [] r.es w'→r.K.ok w'
  len : r.n.kept.length≤2000
  tk : r.n.taken≤2147483648
theorem Mu (a b : aG) (A B : List aG) : (a::(A++b::B)).Perm (b::(a::A)++B):=by
  show (a::(A++b::B)).Perm (b::a::(A++B))
  exact ((List.perm_middle).cons a).trans (List.Perm.swap b a _)
structure Jx (o : bA × Bk × Nat) (k : mV) where
  K : mV
  x : aM
  es : List aG
  l : K.l=o.1.kept
  xl : x.l=o.2.1
  Jw : K=k∨∀ {w0 w : World} {T : List Nat} {M : List aG},ah w0 T (es++M) w→K.ok w
  Ng : ∀ {w0 w : World} {T : List Nat} {M : List aG},ah w0 T (es++M) w→x.ok w
  wr : ∀ e ∈ es,e.wr=true
def Jx.err {s : bA} {k : mV} (he : k.l=s.kept) (c : Nat) : Jx (s,[],c) k:=⟨k,iR,[],he,rfl,.inl rfl,fun _=>mj _,nofun⟩
theorem zE : aK Tryz.prog 13:=⟨_,Tryz.func13,rfl,by kernel_rfl⟩
set_option maxHeartbeats 64000000 in
theorem Cs (s : bA) (k : mV) (hs : s.ok) (he : k.l=s.kept) (hk0 : s.kept.length≤2000) (ht0 : s.taken≤2147483647) (side z : aM) (hsl : side.l.length≤1000000) (hzl : z.l.length≤1000000) (fresh : Bk) (hf : fresh.length=32) (w : World) (hk : k.ok w) (hside : side.ok w) (hz : z.ok w) :
    Calls Tryz.prog 13 [.agg (sec s k.v).toArray,side.v,z.v,.agg (fresh.map U8).toArray].toArray w fun e w'=>∃ r : Jx (fG s side.l z.l fresh) k,e=.returned (.tuple #[.agg (sec (fG s side.l z.l fresh).1 r.K.v).toArray,r.x.v,N (fG s side.l z.l fresh).2.2])∧ah w [] r.es w':=by
  have hlf : (fresh.map U8).length=32:=by rw [List.length_map];exact hf
  have hn:=fun v=>ay hs v
  have herr : ∀ {c : Nat} {e : Ending} {w' : World},fG s side.l z.l fresh=(s,[],c)→e=.returned (.tuple #[.agg (sec s k.v).toArray,iR.v,N c])→ah w [] [] w'→(∃ r : Jx (fG s side.l z.l fresh) k,e=.returned (.tuple #[.agg (sec (fG s side.l z.l fresh).1 r.K.v).toArray,r.x.v,N (fG s side.l z.l fresh).2.2])∧ah w [] r.es w'):=fun {c e w'} h1 h2 h3=>by
    rw [h1]
    exact ⟨Jx.err he c,h2,h3⟩
  refine enter (n:=201) Tryz.func13 rfl rfl rfl (ah.start w []) ?_
  repeat (first | refine JC.seq ?_ | refine JC.region ?_)
  refine JL.box (r:=sec s k.v) rfl rfl rfl fun b4 _=>?_
  refine JL.box (r:=fresh.map U8) rfl rfl rfl fun b7 _=>?_
  refine JL.alloc uk rfl fun b8 _=>?_
  repeat (first | refine JL.q (by first|(apply OQ.move;rfl)|(apply OQ.assign;rfl)) rfl ?_ | refine JC.seq ?_ | refine JC.region ?_ | refine JL.nil ?_ | refine JE.next ?_)
  refine JL.bX (ι:=xN (di z.l)) (vs:=[z.v]) (fun q=>.tuple #[.agg (hdc (ef z.l)).toArray,aC q.1 (di z.l).length,N (eg z.l)]) (fun q=>bR 5 q.1 ((di z.l).map U8)) zD rfl rfl (fun q=>jX _ _ _) (fun w' hw'=>Cq z w' (hz.holds hw' rfl) hzl) ?_
  rintro ⟨qh,hqh⟩
  dsimp only
  cases hv : dI z.l with
  | none=>
    have e1 : ef z.l=bN:=by rw [ef,hv]
    have e2 : di z.l=[]:=by rw [di,hv]
    have e3 : eg z.l=3:=by rw [eg,hv]
    have hl34 : (hdc bN).length=34:=rfl
    have hd:=oN (s:=s) (side:=side.l) (fresh:=fresh) hv
    rw [e1,e2,e3]
    repeat (refine JL.q (by first|(apply OQ.extract;rfl;rfl)|(apply OQ.move;rfl)) rfl ?_)
    refine JL.alloc I5 rfl fun b11 _=>?_
    refine JL.ag (cs:=hdc bN) ql rfl rfl hl34 (fq _) .here hl34 ?_
    repeat (first | refine JL.q (by first|(apply OQ.qo (a:=3) (b:=0) (c:=false);rfl;rfl;rfl)|(apply OQ.move;rfl)|(apply OQ.assign;rfl)) rfl ?_ | refine JC.seq ?_ | refine JC.region ?_ | refine JL.nil ?_ | refine JE.next ?_)
    refine JC.cond_true rfl rfl ?_
    repeat (first | refine JL.q (by first|(apply OQ.af (cs:=sec s k.v);exact gK;exact dB;rfl;exact (.there (sG _ (.there (.there .here))));exact (hn _);exact Row.all)|(apply OQ.move;rfl)) rfl ?_ | refine JC.seq ?_ | refine JC.region ?_)
    refine JL.dz (M':=⟨b8,Row 26 (sec dh aR),true⟩::(⟨b11,Row 32 (hdc bN),true⟩::bR 5 qh (([] : Bk).map U8))++[⟨b7,Row 23 (fresh.map U8),true⟩,⟨b4,Row 26 (sec s k.v),true⟩]) (Mu _ _ _ _) ?_
    refine JL.ag (cs:=sec s k.v) dB rfl rfl (hn _) (bw rfl) .here (ay br _) ?_
    repeat (first | refine JL.q (by (apply OQ.assign;rfl)) rfl ?_ | refine JL.nil ?_ | refine JE.next ?_)
    refine JC.ret ?_
    repeat (refine JE.aH ?_)
    exact JE.jy rfl (RV.av gK dB rfl .here (hn _) Row.all) (RV.tmp rfl) (RV.tmp rfl) fun w' hw=>herr hd rfl (hw.weak (aq.nil _))
  | some hr=>
  obtain ⟨h,rest⟩:=hr
  have e1 : ef z.l=h:=by rw [ef,hv]
  have e2 : di z.l=rest:=by rw [di,hv]
  have e3 : eg z.l=0:=by rw [eg,hv]
  obtain ⟨hc,hp,hm,hre,hz40,_⟩:=kH hv
  have hrl : rest.length≤1000000:=by rw [hre,List.length_drop];omega
  have hl34:=j3 hc
  have hz34 : (hdc bN).length=34:=rfl
  have hBl:=mu hc
  have hcl : (h.chain.map U8).length=32:=by rw [List.length_map];exact hc
  rw [e1,e2,e3]
  rw [e2] at hqh
  clear e1 e2 e3
  repeat (refine JL.q (by first|(apply OQ.extract;rfl;rfl)|(apply OQ.move;rfl)) rfl ?_)
  refine JL.dz (M':=⟨b8,Row 26 (sec dh aR),true⟩::⟨b7,Row 23 (fresh.map U8),true⟩::⟨b4,Row 26 (sec s k.v),true⟩::bR 5 qh (rest.map U8)) (List.perm_append_comm (l₂:=[_,_,_])) ?_
  refine JL.alloc I5 rfl fun b11 _=>?_
  refine JL.ag (cs:=hdc h) ql rfl rfl hl34 (fq _) .here hz34 ?_
  repeat (first | refine JL.q (by first|(apply OQ.qo (a:=0) (b:=0) (c:=true);rfl;rfl;rfl)|(apply OQ.move;rfl)|(apply OQ.assign;rfl)) rfl ?_ | refine JC.seq ?_ | refine JC.region ?_ | refine JL.nil ?_ | refine JE.next ?_)
  refine JC.cond_false rfl rfl ?_
  have hft : (z.fst 40).l=dP h:=head_take hv
  have zf:=hz.fst 40
  have cj:=fun (w' : World) (h1 : side.ok w') (h2 : (z.fst 40).ok w')=>ER side (z.fst 40) w' h1 h2 (by rw [hft,hBl];omega)
  rw [hft] at cj
  obtain ⟨W,hW⟩ : ∃ W,side.l++dP h=W:=⟨_,rfl⟩
  have hWl : W.length=side.l.length+40:=by rw [← hW,List.length_append,hBl]
  rw [hW] at cj
  repeat (first | refine JL.q (by first|(apply OQ.fst (s:=z) (m:=40);exact Tryz.underlying27;exact kM;rfl;rfl;exact hz40;exact hz.len)|(apply OQ.move;rfl)) rfl ?_ | refine JC.seq ?_ | refine JC.region ?_ | refine JC.skip ?_ | refine JE.next ?_)
  refine JL.bX (ι:=Nat × Nat) (vs:=[side.v,(z.fst 40).v]) (fun x=>.slice (some ⟨x.1,0,none⟩) W.length x.2) (fun x=>[⟨x.1,Sl.aE 5 1 W.length x.2 (W.map U8),true⟩]) Cm rfl rfl (fun i=>by simp) (fun w' hw'=>cj w' (hside.holds hw' rfl) (zf.holds hw' rfl)) ?_
  rintro ⟨bj,kj⟩
  try dsimp only
  clear cj zf
  repeat (first | refine JL.q (by (apply OQ.assign;rfl)) rfl ?_ | refine JC.seq ?_ | refine JC.region ?_ | refine JC.block ?_ | refine JL.nil ?_ | refine JE.next ?_)
  refine JC.loop (fun i : Nat=>[(1,side.v),(2,z.v),(4,Pt b4 0),(7,Pt b7 0),(8,Pt b8 0),(11,Pt b11 0),(12,aC qh rest.length),(14,.slice (some ⟨bj,0,none⟩) W.length kj),(15,N i)]) (fun _=>⟨bj,Sl.aE 5 1 W.length kj (W.map U8),true⟩::⟨b11,Row 32 (hdc h),true⟩::⟨b8,Row 26 (sec dh aR),true⟩::⟨b7,Row 23 (fresh.map U8),true⟩::⟨b4,Row 26 (sec s k.v),true⟩::bR 5 qh (rest.map U8)) (fun i=>k.l.length - i) (fun i=>i≤k.l.length∧∀ j,j<i→sv h (k.l.getD j mQ)=false) 0 ⟨Nat.zero_le _,fun j hj=>absurd hj (Nat.not_lt_zero _)⟩ (by repeat (first | exact ai.nil | refine ai.cons _ _ _ rfl ?_)) (aq.refl _) ?_
  rintro i ⟨hi,hin⟩
  have hkp : ∀ o,Row 26 (sec s k.v) o→cellAt o 165=some k.v:=Row.cell (gO hs _)
  have hkl : k.l.length≤2000:=by rw [he];exact hk0
  by_cases hlt : i<k.l.length
  · have et : decide ((i : Int)<((k.l.length : Nat) : Int))=true:=decide_eq_true (by omega)
    repeat (first | refine JL.q (by first|(apply OQ.load;exact iV;rfl;exact (.there (.there (.there (.there .here))));exact hkp)|(apply OQ.len (k:=k.l.length) (ad:=k.ad) (cap:=k.cap);exact Tryz.underlying24;rfl)|(apply OQ.g9 (a:=i) (b:=k.l.length);rfl;rfl;exact hlt)|(apply OQ.move;rfl)|(apply OQ.bM;rfl;rfl;rfl;exact (by decide);rfl)) rfl ?_ | refine JC.seq ?_ | refine JC.region ?_ | refine JL.nil ?_ | refine JE.next ?_)
    refine JC.cond_true rfl rfl ?_
    obtain ⟨ba,ja,eA,la,cA⟩:=hk.at hlt
    have hok:=hk.all _ (mV.mem hlt)
    have vA : k.v=.slice (some ⟨ba,ja,none⟩) k.l.length k.cap:=by rw [← eA];rfl
    have hkp2 : ∀ o,Row 26 (sec s k.v) o→cellAt o 165=some (.slice (some ⟨ba,ja,none⟩) k.l.length k.cap):=by rw [← vA];exact hkp
    obtain ⟨x,hx⟩ : ∃ x,k.l.getD i mQ=x:=⟨_,rfl⟩
    rw [hx] at hok cA
    have cN:=cA 32 (N x.num) (by simp [dU,hok.c])
    have cC : ∀ m u,(x.chain.map U8)[m]?=some u→w.cell? ⟨ba,ja+i * 65+m,none⟩=some u:=fun m u hu=>by
      refine cA m u ?_
      have hm : m<(x.chain.map U8).length:=(List.getElem?_eq_some_iff.1 hu).1
      rw [dU,List.getElem?_append_left hm]
      exact hu
    have lC : (x.chain.map U8).length=32:=by rw [List.length_map];exact hok.c
    have hr3 : ∀ o,Row 32 (hdc h) o→cellAt o 33=some (N h.num):=Row.cell (j4 hc)
    obtain ⟨g1,he1⟩ : ∃ e,decide (x.chain=h.chain)=e:=⟨_,rfl⟩
    obtain ⟨g2,he2⟩ : ∃ e,decide ((x.num : Int)=(h.num : Int))=e:=⟨_,rfl⟩
    have hit : sv h x=(g1 && g2):=by
      rw [sv,he1,← he2]
      congr 1
      exact decide_eq_decide.2 (by omega)
    refine JC.skip (JE.next ?_)
    refine JC.seq (JC.block ?_)
    refine JC.seq ?_
    refine JC.quiet gr (by kernel_rfl) ?_
    cases g1
    case' true=>cases g2
    case true.true=>
      have hix : sw h s.kept=some i:=by rw [← he];exact Gv hlt (by rw [hx,hit];rfl) hin
      have hmk:=xF (fresh:=fresh) hix
      rw [← he,hx] at hmk
      have lK : (x.key.map U8).length=32:=by rw [List.length_map];exact hok.k
      have cK : ∀ m u,(x.key.map U8)[m]?=some u→w.cell? ⟨ba,ja+i * 65+33+m,none⟩=some u:=fun m u hu=>by
        rw [Nat.add_assoc _ 33 m]
        refine cA (33+m) u ?_
        rw [dU,List.getElem?_append_right (by rw [lC];omega),lC,show 33+m - 32=m+1 by omega,List.getElem?_cons_succ]
        exact hu
      have hdy:=oO (side:=side.l) (fresh:=fresh) hv hmk
      have hdn:=sx (side:=side.l) (fresh:=fresh) hv hmk
      rw [hW] at hdy hdn
      obtain ⟨o,hoe⟩ : ∃ o,gZ x.key W rest=o:=⟨_,rfl⟩
      rw [hoe] at hdy hdn
      have hoK : gP (k1 x.key) (k2 x.key) xC W rest=o:=hoe
      have hzS:=uH qh rest
      have hzl2:=uI hqh
      repeat (first | refine JQ.q (by first|(apply OQ.load;exact iV;rfl;exact (.there (.there (.there (.there .here))));exact hkp2)|(apply OQ.jS (i:=i) (len:=k.l.length) (cap:=k.cap) (b:=ba) (j:=ja);exact Tryz.underlying24;exact ta;rfl;rfl;exact hlt)|(apply OQ.bQ;exact bB;rfl;exact la;exact (by simp);exact cN)|(apply OQ.cO (cs:=x.chain.map U8);exact aP;rfl;exact (lC ▸ aB);exact la;exact (by simp);exact cC)|(apply OQ.af (cs:=h.chain.map U8);exact aP;exact aB;rfl;exact (.there .here);exact hcl;exact (Row.cells (eG hc)))|(apply OQ.load;exact bB;rfl;exact (.there .here);exact hr3)|(apply OQ.KY;exact hok.c;exact hc;rfl;rfl;exact he1)|(apply OQ.K1;rfl;rfl;exact he2)|(apply OQ.eP;rfl;rfl)|(apply OQ.move;rfl)|(apply OQ.bM;rfl;rfl;rfl;exact (by decide);rfl)) rfl ?_ | refine JQ.nil ?_ | refine JE.next ?_ | refine JQ.aU rfl rfl ?_)
      refine JC.cond_true rfl rfl ?_
      repeat (first | refine JL.q (by first|(apply OQ.load;exact iV;rfl;exact (.there (.there (.there (.there .here))));exact hkp2)|(apply OQ.jS (i:=i) (len:=k.l.length) (cap:=k.cap) (b:=ba) (j:=ja);exact Tryz.underlying24;exact ta;rfl;rfl;exact hlt)|(apply OQ.cO (cs:=x.key.map U8);exact aP;rfl;exact (lK ▸ aB);exact la;exact (by simp);exact cK)|(apply OQ.move;rfl)|(apply OQ.bM;rfl;rfl;rfl;exact (by decide);rfl)) rfl ?_ | refine JC.seq ?_ | refine JC.region ?_)
      refine JL.q (OQ.pure (v:=.agg (xC.map U8).toArray) rfl rfl (by kernel_rfl)) rfl ?_
      repeat (refine JL.q (by (apply OQ.move;rfl)) rfl ?_)
      refine JL.bX (ι:=Gl o.1) (vs:=[.agg (x.key.map U8).toArray,.agg (xC.map U8).toArray,.slice (some ⟨bj,0,none⟩) W.length kj,aC qh rest.length]) (fun i=>.tuple #[i.1.v,N o.2]) (fun i=>i.1.ct) sE rfl rfl (fun i=>aM.ig _) (fun w' hw'=>sF (s:=⟨some ⟨bj,0,none⟩,kj,W⟩) (z:=uG qh rest) rfl hzS (by rw [hzl2];exact hoK) hok.k rfl (fl hw' .here) (uJ (e:=5) (M:=[]) (by rw [List.append_nil];exact hw'.weak (.drop _ _ _ (.drop _ _ _ (.drop _ _ _ (.drop _ _ _ (.drop _ _ _ (aq.refl _)))))))) (by show W.length<_;omega) (by rw [hzl2];omega)) ?_
      rintro ⟨pl,hpl⟩
      dsimp only
      refine JL.dz (M':=⟨bj,Sl.aE 5 1 W.length kj (W.map U8),true⟩::⟨b11,Row 32 (hdc h),true⟩::⟨b8,Row 26 (sec dh aR),true⟩::⟨b7,Row 23 (fresh.map U8),true⟩::⟨b4,Row 26 (sec s k.v),true⟩::(pl.ct++bR 5 qh (rest.map U8))) (List.perm_append_comm_assoc _ [_,_,_,_,_] _) ?_
      by_cases ho : o.2=0
      · have hd:=hdy ho
        have eo : decide ((o.2 : Int)=0)=true:=decide_eq_true (by omega)
        repeat (first | refine JL.q (by first|(apply OQ.extract;rfl;rfl)|(apply OQ.qo (a:=(o.2 : Int)) (b:=0);rfl;rfl;exact eo)|(apply OQ.move;rfl)|(apply OQ.assign;rfl)) rfl ?_ | refine JC.seq ?_ | refine JC.region ?_ | refine JL.nil ?_ | refine JE.next ?_)
        refine JC.cond_false rfl rfl ?_
        repeat (first | refine JL.q (by (apply OQ.af (cs:=sec s k.v);exact gK;exact dB;rfl;exact (.there (.there (.there (.there .here))));exact (hn _);exact Row.all)) rfl ?_ | refine JC.seq ?_ | refine JC.region ?_ | refine JC.skip ?_ | refine JE.next ?_)
        have e4 : Value.slice (if k.cap=0 then some ⟨ba,ja,none⟩ else (some (⟨ba,ja,none⟩ : Addr)).map (·.add 0)) i k.cap=.slice (some ⟨ba,ja,none⟩) i k.cap:=by
          split <;> simp [Addr.add]
        have hcap:=hk.len
        have cF : ∀ w' : World,k.ok w'→Reads w' (some ⟨ba,ja,none⟩) (aX (k.l.take i)).flatten:=fun w' h=>by rw [EV hk.all,← eA];exact h.reads.take _
        have cB : ∀ w' : World,k.ok w'→Reads w' (if k.cap=i+1 then some ⟨ba,ja,none⟩ else (some (⟨ba,ja,none⟩ : Addr)).map (·.add ((i+1) * 65))) (aX (k.l.drop (i+1))).flatten:=fun w' h=>tg hk.all (by rw [← eA];exact h.reads) h.len
        have lF : (aX (k.l.take i)).flatten.length=i * 65:=by rw [dQ (fE fun x hx=>hk.all x (List.mem_of_mem_take hx)),dV,List.length_take,Nat.min_eq_left (by omega)]
        have lB : (aX (k.l.drop (i+1))).flatten.length=(k.l.length - (i+1)) * 65:=by rw [dQ (fE fun x hx=>hk.all x (List.mem_of_mem_drop hx)),dV,List.length_drop]
        have pE : (aX (k.l.take i)).flatten++(aX (k.l.drop (i+1))).flatten=(aX (s.kept.eraseIdx i)).flatten:=by rw [← he,List.eraseIdx_eq_take_drop_succ,← List.flatten_append];unfold aX;rw [← List.map_append]
        have pL : i+(k.l.length - (i+1))=(s.kept.eraseIdx i).length:=by rw [← he,List.length_eraseIdx,if_pos hlt];omega
        refine JL.alloc uk rfl fun b18 _=>?_
        refine JL.ag (cs:=sec s k.v) dB rfl rfl (hn _) (bw rfl) .here (ay br _) ?_
        repeat (first | refine JC.seq ?_ | refine JL.nil ?_ | refine JE.next ?_)
        let vs : Nat→(Nat × Nat)→Value:=fun j y=>match j with
          | 0=>.slice (some ⟨y.1,0,none⟩) 0 0
          | 1=>Pt b4 165
          | 2=>.slice (some ⟨ba,ja,none⟩) k.l.length k.cap
          | 3=>N i
          | 4=>.slice (some ⟨ba,ja,none⟩) i k.cap
          | 5=>.slice (some ⟨y.1,0,none⟩) i y.2
          | 6=>Pt b4 165
          | 7=>.slice (some ⟨ba,ja,none⟩) k.l.length k.cap
          | 8=>N i
          | 9=>N (i+1)
          | 10=>.slice (if k.cap=i+1 then some ⟨ba,ja,none⟩ else (some (⟨ba,ja,none⟩ : Addr)).map (·.add ((i+1) * 65))) (k.l.length - (i+1)) (k.cap - (i+1))
          | 11=>.slice (some ⟨y.1,0,none⟩) (i+(k.l.length - (i+1))) y.2
          | 12=>Pt b18 165
          | _=>N 0
        let Ms : Nat→(Nat × Nat)→List aG:=fun j y=>match j with
          | 0=>[⟨y.1,Sl.aE 57 65 0 0 [],true⟩]
          | 5=>[⟨y.1,Sl.aE 57 65 i y.2 (aX (k.l.take i)).flatten,true⟩]
          | 11=>[⟨y.1,Sl.aE 57 65 (i+(k.l.length - (i+1))) y.2 ((aX (k.l.take i)).flatten++(aX (k.l.drop (i+1))).flatten),true⟩]
          | 13=>[⟨b18,Row 26 (sec s (.slice (some ⟨y.1,0,none⟩) (i+(k.l.length - (i+1))) y.2)),true⟩]
          | 14=>[⟨b18,Row 26 (sec s k.v),true⟩]
          | 15=>[⟨bj,Sl.aE 5 1 W.length kj (W.map U8),true⟩]
          | 16=>[⟨b11,Row 32 (hdc h),true⟩]
          | 17=>[⟨b8,Row 26 (sec dh aR),true⟩]
          | 18=>[⟨b7,Row 23 (fresh.map U8),true⟩]
          | 19=>[⟨b4,Row 26 (sec s k.v),true⟩]
          | 20=>(pl.ct++bR 5 qh (rest.map U8))
          | _=>[]
        refine JC.grow (g:=⟨[(4,Pt b4 0),(8,Pt b8 0),(15,N i),(16,pl.v),(18,Pt b18 0)],21,vs,Ms,(fun j=>match j with | 2=>[(1,84)] | 4=>[(2,85),(3,86)] | 5=>[(0,83),(4,87)] | 7=>[(6,89)] | 9=>[(8,91)] | 10=>[(7,90),(9,92)] | 11=>[(5,88),(10,93)] | 13=>[(12,95),(11,94)] | _=>[]),(fun j=>match j with | 2=>[19] | 5=>[0] | 7=>[19] | 11=>[5] | 13=>[14] | _=>[]),(fun j=>match j with | 5=>[0] | 11=>[5] | 13=>[14] | _=>[]),(fun j=>match j with | 13=>some 11 | _=>none)⟩) [] [13,11,17,20] gr (by repeat (first | exact ai.nil | refine ai.cons _ _ _ rfl ?_)) ?_ (by kernel_rfl) (by kernel_rfl) (by kernel_rfl) ?_ ?_
        · show aq (_::_::_::_::_::_::((pl.ct++bR 5 qh (rest.map U8))++[])) _;rw [List.append_nil];exact aq.refl _
        · refine ⟨?_,?_,?_,?_,?_,?_,?_,?_,?_,?_,?_,?_,?_,?_,trivial⟩
          · (intro xx EF MF Q kk;exact JL.uF Tryz.underlying24 B3 rfl fun b0 _=>JL.nil (kk (b0,0) nofun))
          · (intro xx EF MF Q kk;(try refine JL.aU rfl rfl ?_);exact JL.q (OQ.bM rfl rfl rfl (by decide) rfl) rfl (JL.nil (kk default nofun)))
          · (intro xx EF MF Q kk;(try refine JL.aU rfl rfl ?_);exact JL.q (OQ.load iV rfl .here hkp2) rfl (JL.nil (kk default nofun)))
          · (intro xx EF MF Q kk;(try refine JL.aU rfl rfl ?_);exact JL.q (OQ.move rfl) rfl (JL.nil (kk default nofun)))
          · (intro xx EF MF Q kk;(try refine JL.aU rfl rfl ?_);exact JL.q (OQ.to (OQ.nw (hi:=i) (len:=k.l.length) (cap:=k.cap) (ad:=some ⟨ba,ja,none⟩) Tryz.underlying24 ta rfl rfl (by omega)) e4) rfl (JL.nil (kk default nofun)))
          · (intro xx EF MF Q kk;exact JL.append (cs:=(aX (k.l.take i)).flatten) (m:=i) (ad:=some ⟨ba,ja,none⟩) (sc:=k.cap) (xs:=[]) (fun b' cap'=>⟨b',Sl.aE 57 65 (0+i) cap' ([]++(aX (k.l.take i)).flatten),true⟩::MF) Tryz.underlying24 B3 rfl rfl (fun _ _=>.here) lF (fun w' hw'=>cF w' (hk.holds hw' rfl)) (iA _) rfl (by decide) (by omega) (by omega) rfl fun b' cap'=>by simp only [Nat.zero_add];exact JL.nil (kk (b',cap') nofun))
          · (intro xx EF MF Q kk;(try refine JL.aU rfl rfl ?_);exact JL.q (OQ.bM rfl rfl rfl (by decide) rfl) rfl (JL.nil (kk default nofun)))
          · (intro xx EF MF Q kk;(try refine JL.aU rfl rfl ?_);exact JL.q (OQ.load iV rfl .here hkp2) rfl (JL.nil (kk default nofun)))
          · (intro xx EF MF Q kk;(try refine JL.aU rfl rfl ?_);exact JL.q (OQ.move rfl) rfl (JL.nil (kk default nofun)))
          · (intro xx EF MF Q kk;(try refine JL.aU rfl rfl ?_);exact JL.q (OQ.aY (a:=i) (b:=1) rfl rfl (by omega)) rfl (JL.nil (kk default nofun)))
          · (intro xx EF MF Q kk;(try refine JL.aU rfl rfl ?_);exact JL.q (OQ.nv (lo:=i+1) (len:=k.l.length) (cap:=k.cap) (ad:=some ⟨ba,ja,none⟩) Tryz.underlying24 ta rfl rfl (by omega)) rfl (JL.nil (kk default nofun)))
          · (intro xx EF MF Q kk;exact JL.append (k:=i) (cap:=(xx 5).2) (cs:=(aX (k.l.drop (i+1))).flatten) (m:=k.l.length - (i+1)) (ad:=(if k.cap=i+1 then some ⟨ba,ja,none⟩ else (some (⟨ba,ja,none⟩ : Addr)).map (·.add ((i+1) * 65)))) (sc:=k.cap - (i+1)) (xs:=(aX (k.l.take i)).flatten) (fun b' cap'=>⟨b',Sl.aE 57 65 (i+(k.l.length - (i+1))) cap' ((aX (k.l.take i)).flatten++(aX (k.l.drop (i+1))).flatten),true⟩::MF) Tryz.underlying24 B3 rfl rfl (fun _ _=>.here) lB (fun w' hw'=>cB w' (hk.holds hw' rfl)) (iA _) rfl (by decide) (by omega) (by omega) rfl fun b' cap'=>JL.nil (kk (b',cap') nofun))
          · (intro xx EF MF Q kk;(try refine JL.aU rfl rfl ?_);exact JL.q (OQ.bM rfl rfl rfl (by decide) rfl) rfl (JL.nil (kk default nofun)))
          · (intro xx EF MF Q kk;exact JL.az (r:=sec s k.v) (r':=sec s (.slice (some ⟨(xx 11).1,0,none⟩) (i+(k.l.length - (i+1))) (xx 11).2)) B4 rfl rfl rfl rfl .here (by rw [hn];decide) (fo hs _ s.kept _) (JL.nil (kk (xx 11) (fun k h=>by cases h;rfl))))
        · intro xx hx
          have e13 : xx 13=xx 11:=hx 13 11 (by decide) rfl
          show JE _ _ _ _ _ [(4,Pt b4 0),(8,Pt b8 0),(15,N i),(16,pl.v),(18,Pt b18 0)] (⟨b18,Row 26 (sec s (.slice (some ⟨(xx 13).1,0,none⟩) (i+(k.l.length - (i+1))) (xx 13).2)),true⟩::⟨(xx 11).1,Sl.aE 57 65 (i+(k.l.length - (i+1))) (xx 11).2 ((aX (k.l.take i)).flatten++(aX (k.l.drop (i+1))).flatten),true⟩::⟨b8,Row 26 (sec dh aR),true⟩::((pl.ct++bR 5 qh (rest.map U8))++[]))
          rw [e13,List.append_nil,pE,pL]
          generalize xx 11=zz
          obtain ⟨bx,cx⟩:=zz
          clear hx e13 xx vs Ms e4 cF cB lF lB pE pL
          try dsimp only
          repeat (first | refine JL.q (by first|(apply OQ.af (cs:=sec s (.slice (some ⟨bx,0,none⟩) (s.kept.eraseIdx i).length cx));exact gK;exact dB;rfl;exact .here;exact (hn _);exact Row.all)|(apply OQ.move;rfl)) rfl ?_ | refine JC.seq ?_ | refine JC.region ?_ | refine JE.next ?_)
          refine JL.ag (cs:=sec s (.slice (some ⟨bx,0,none⟩) (s.kept.eraseIdx i).length cx)) dB rfl rfl (hn _) (bw rfl) (.there (.there .here)) (ay br _) ?_
          repeat (first | refine JL.q (by (apply OQ.assign;rfl)) rfl ?_ | refine JL.nil ?_ | refine JE.next ?_)
          refine JC.ret ?_
          repeat (first | refine JE.aH ?_ | refine JE.qv ?_)
          have hae : ∀ x ∈ s.kept.eraseIdx i,x.ok:=fun x hx=>hs.kept x (List.mem_of_mem_eraseIdx hx)
          refine JE.jy rfl (RV.av gK dB rfl (.there (.there .here)) (hn _) Row.all) (RV.tmp rfl) (RV.tmp rfl) fun w' hw=>?_
          rw [hd]
          exact ⟨⟨⟨some ⟨bx,0,none⟩,cx,s.kept.eraseIdx i⟩,pl,⟨bx,Sl.aE 57 65 (s.kept.eraseIdx i).length cx (aX (s.kept.eraseIdx i)).flatten,true⟩::pl.ct,(by show s.kept.eraseIdx i=k.l.eraseIdx i;rw [he]),hpl.val,.inr fun hw=>Je hae hw .here,fun hw=>aM.jW (hw.weak (.drop _ _ _ (aq.refl _))) hpl.none,fun e he=>by rcases List.mem_cons.1 he with rfl | h;rfl;exact aM.ig _ e h⟩,rfl,hw.weak (.drop _ _ _ (.keep _ _ _ _ _ _ (fun _ h=>h) (.drop _ _ _ (dS _ _))))⟩
      · have hd:=hdn ho
        have eo : decide ((o.2 : Int)=0)=false:=decide_eq_false (by omega)
        repeat (first | refine JL.q (by first|(apply OQ.extract;rfl;rfl)|(apply OQ.qo (a:=(o.2 : Int)) (b:=0);rfl;rfl;exact eo)|(apply OQ.move;rfl)|(apply OQ.assign;rfl)) rfl ?_ | refine JC.seq ?_ | refine JC.region ?_ | refine JL.nil ?_ | refine JE.next ?_)
        refine JC.cond_true rfl rfl ?_
        repeat (first | refine JL.q (by first|(apply OQ.af (cs:=sec s k.v);exact gK;exact dB;rfl;exact (.there (.there (.there (.there .here))));exact (hn _);exact Row.all)|(apply OQ.move;rfl)) rfl ?_ | refine JC.seq ?_ | refine JC.region ?_)
        refine JL.ag (cs:=sec s k.v) dB rfl rfl (hn _) (bw rfl) (.there (.there .here)) (ay br _) ?_
        repeat (first | refine JL.q (by (apply OQ.assign;rfl)) rfl ?_ | refine JL.nil ?_ | refine JE.next ?_)
        refine JC.ret ?_
        repeat (first | refine JE.aH ?_ | refine JE.qv ?_)
        exact JE.jy rfl (RV.av gK dB rfl (.there (.there .here)) (hn _) Row.all) (RV.tmp rfl) (RV.tmp rfl) fun w' hw=>herr hd rfl (hw.weak (aq.nil _))
    all_goals
      repeat (first | refine JQ.q (by first|(apply OQ.load;exact iV;rfl;exact (.there (.there (.there (.there .here))));exact hkp2)|(apply OQ.jS (i:=i) (len:=k.l.length) (cap:=k.cap) (b:=ba) (j:=ja);exact Tryz.underlying24;exact ta;rfl;rfl;exact hlt)|(apply OQ.bQ;exact bB;rfl;exact la;exact (by simp);exact cN)|(apply OQ.cO (cs:=x.chain.map U8);exact aP;rfl;exact (lC ▸ aB);exact la;exact (by simp);exact cC)|(apply OQ.af (cs:=h.chain.map U8);exact aP;exact aB;rfl;exact (.there .here);exact hcl;exact (Row.cells (eG hc)))|(apply OQ.load;exact bB;rfl;exact (.there .here);exact hr3)|(apply OQ.KY;exact hok.c;exact hc;rfl;rfl;exact he1)|(apply OQ.K1;rfl;rfl;exact he2)|(apply OQ.eP;rfl;rfl)|(apply OQ.dK;rfl;rfl)|(apply OQ.move;rfl)|(apply OQ.bM;rfl;rfl;rfl;exact (by decide);rfl)) rfl ?_ | refine JQ.nil ?_ | refine JE.next ?_ | refine JQ.aU rfl rfl ?_ | refine JQ.iX rfl rfl rfl rfl ?_)
      refine JC.cond_false rfl rfl ?_
      repeat (first | refine JL.q (by first|(apply OQ.aY (a:=i) (b:=1);rfl;rfl;exact (by omega))|(apply OQ.move;rfl)|(apply OQ.assign;rfl)) rfl ?_ | refine JC.region ?_ | refine JC.skip ?_ | refine JL.nil ?_ | refine JE.next ?_ | refine JE.an ?_)
      refine JE.again (i:=i) (i+1) ⟨hlt,fun j hj=>?_⟩ (by omega) (by repeat (first | exact ai.nil | refine ai.cons _ _ _ rfl ?_)) (aq.refl _)
      by_cases e : j=i
      · rw [e,hx,hit]
        rfl
      · exact hin j (by omega)
  · obtain rfl : i=k.l.length:=by omega
    have hix : sw h s.kept=none:=by rw [← he];exact Gw hin
    clear hin hi
    have hcap0 : (h.chain.map U8).length=32:=hcl
    have hot : (s.other.map U8).length=32:=by rw [List.length_map];exact hs.other
    have hr2 : ∀ o,Row 32 (hdc h) o→cellAt o 32=some (N h.prev):=Row.cell (lq hc)
    have hr3 : ∀ o,Row 32 (hdc h) o→cellAt o 33=some (N h.num):=Row.cell (j4 hc)
    have htk : ∀ o,Row 26 (sec s k.v) o→cellAt o 97=some (.bool s.takes):=Row.cell (gv hs _)
    repeat (first | refine JL.q (by first|(apply OQ.load;exact iV;rfl;exact (.there (.there (.there (.there .here))));exact hkp)|(apply OQ.len (k:=k.l.length) (ad:=k.ad) (cap:=k.cap);exact Tryz.underlying24;rfl)|(apply OQ.gu (a:=k.l.length) (b:=k.l.length);rfl;rfl;exact hlt)|(apply OQ.move;rfl)|(apply OQ.bM;rfl;rfl;rfl;exact (by decide);rfl)) rfl ?_ | refine JC.seq ?_ | refine JC.region ?_ | refine JL.nil ?_ | refine JE.next ?_)
    refine JC.cond_false rfl rfl ?_
    repeat (first | refine JL.q (by (apply OQ.af (cs:=sec s k.v);exact gK;exact dB;rfl;exact (.there (.there (.there (.there .here))));exact (hn _);exact Row.all)) rfl ?_ | refine JC.seq ?_ | refine JC.region ?_ | refine JC.exit ?_ | refine JE.next ?_ | refine JE.ax ?_ | refine JE.aA ?_)
    refine JL.alloc uk rfl fun b19 _=>?_
    refine JL.ag (cs:=sec s k.v) dB rfl rfl (hn _) (bw rfl) .here (ay br _) ?_
    refine JL.nil (JE.next ?_)
    refine JC.seq (JC.region ?_)
    repeat (refine JL.q (by (apply OQ.assign;rfl)) rfl ?_)
    refine JL.nil (JE.next ?_)
    refine JC.mid (fun _ : Jf=>[(4,Pt b4 0),(7,Pt b7 0),(8,Pt b8 0),(11,Pt b11 0),(12,aC qh rest.length),(14,.slice (some ⟨bj,0,none⟩) W.length kj),(19,Pt b19 0)]) (fun r=>⟨b19,Row 26 (sec r.n r.K.v),true⟩::⟨bj,Sl.aE 5 1 W.length kj (W.map U8),true⟩::⟨b11,Row 32 (hdc h),true⟩::⟨b8,Row 26 (sec dh aR),true⟩::⟨b7,Row 23 (fresh.map U8),true⟩::⟨b4,Row 26 (sec s k.v),true⟩::(r.es++bR 5 qh (rest.map U8))) (MU w (kE s h fresh)) ?_ ?_
    · have ha0 : (h.chain.map U8).length=32:=hcl
      by_cases hA : h.chain=s.other∧s.takes=true
      · have hon : kE s h fresh=some s:=by rw [kE,if_pos hA]
        have g1 : decide (h.chain=s.other)=true:=decide_eq_true hA.1
        have htk' : ∀ o,Row 26 (sec s k.v) o→cellAt o 97=some (.bool true):=by rw [← hA.2];exact htk
        repeat (first | refine JL.q (by first|(apply OQ.af (cs:=h.chain.map U8);exact aP;exact aB;rfl;exact (.there (.there .here));exact hcl;exact (Row.cells (eG hc)))|(apply OQ.af (cs:=s.other.map U8);exact aP;exact aB;rfl;exact (.there (.there (.there (.there (.there .here)))));exact hot;exact (Row.cells (dW hs _)))|(apply OQ.KX;exact hc;exact hs.other;rfl;rfl;exact g1)|(apply OQ.load;exact gj;rfl;exact (.there (.there (.there (.there (.there .here)))));exact htk')|(apply OQ.not;rfl)|(apply OQ.dK;rfl;rfl)|(apply OQ.move;rfl)|(apply OQ.bM;rfl;rfl;rfl;exact (by decide);rfl)) rfl ?_ | refine JC.seq ?_ | refine JC.region ?_ | refine JL.nil ?_ | refine JE.next ?_ | refine JL.aU rfl rfl ?_)
        refine JC.cond_false rfl rfl ?_
        repeat (refine JC.skip ?_)
        exact JE.mid (⟨s,k,[]⟩ : Jf) ⟨hon,hs,he,fun w' hw'=>hk.holds hw' rfl,hk0,(by show s.taken≤_;omega)⟩ (by repeat (first | exact ai.nil | refine ai.cons _ _ _ rfl ?_)) (aq.refl _)
      have hon0 : kE s h fresh=nU s h fresh:=by rw [kE,if_neg hA]
      obtain ⟨gg1,g1⟩ : ∃ g,decide (h.chain=s.other)=g:=⟨_,rfl⟩
      obtain ⟨g2,hg2⟩ : ∃ g,s.takes=g:=⟨_,rfl⟩
      have htk' : ∀ o,Row 26 (sec s k.v) o→cellAt o 97=some (.bool g2):=by rw [← hg2];exact htk
      have hgg : (gg1 && g2)=false:=by
        rw [← g1,← hg2,Bool.and_eq_false_iff]
        by_cases h1 : h.chain=s.other
        · exact .inr (by simpa using fun h2=>hA ⟨h1,h2⟩)
        · exact .inl (decide_eq_false h1)
      cases gg1
      case' true=>
        obtain rfl : g2=false:=hgg
      all_goals
        repeat (first | refine JL.q (by first|(apply OQ.af (cs:=h.chain.map U8);exact aP;exact aB;rfl;exact (.there (.there .here));exact hcl;exact (Row.cells (eG hc)))|(apply OQ.af (cs:=s.other.map U8);exact aP;exact aB;rfl;exact (.there (.there (.there (.there (.there .here)))));exact hot;exact (Row.cells (dW hs _)))|(apply OQ.KX;exact hc;exact hs.other;rfl;rfl;exact g1)|(apply OQ.load;exact gj;rfl;exact (.there (.there (.there (.there (.there .here)))));exact htk')|(apply OQ.not;rfl)|(apply OQ.dK;rfl;rfl)|(apply OQ.eP;rfl;rfl)|(apply OQ.move;rfl)|(apply OQ.bM;rfl;rfl;rfl;exact (by decide);rfl)) rfl ?_ | refine JC.seq ?_ | refine JC.region ?_ | refine JL.nil ?_ | refine JE.next ?_ | refine JL.aU rfl rfl ?_ | refine JL.iX rfl rfl rfl rfl ?_)
        refine JC.cond_true rfl rfl ?_
        refine JC.mid (fun _ : Jf=>[(4,Pt b4 0),(7,Pt b7 0),(8,Pt b8 0),(11,Pt b11 0),(12,aC qh rest.length),(14,.slice (some ⟨bj,0,none⟩) W.length kj),(19,Pt b19 0)]) (fun r=>⟨b19,Row 26 (sec r.n r.K.v),true⟩::⟨bj,Sl.aE 5 1 W.length kj (W.map U8),true⟩::⟨b11,Row 32 (hdc h),true⟩::⟨b8,Row 26 (sec dh aR),true⟩::⟨b7,Row 23 (fresh.map U8),true⟩::⟨b4,Row 26 (sec s k.v),true⟩::(r.es++bR 5 qh (rest.map U8))) (MU w (if s.takes=true then leave s h.prev else some s)) ?_ ?_
        · by_cases hst : s.takes=true
          · have htk2 : ∀ o,Row 26 (sec s k.v) o→cellAt o 97=some (.bool true):=by rw [← hst];exact htk
            repeat (first | refine JL.q (by first|(apply OQ.load;exact gj;rfl;exact (.there (.there (.there (.there (.there .here)))));exact htk2)|(apply OQ.bM;rfl;rfl;rfl;exact (by decide);rfl)) rfl ?_ | refine JC.seq ?_ | refine JC.region ?_ | refine JL.nil ?_ | refine JE.next ?_)
            refine JC.cond_true rfl rfl ?_
            cases hlv : leave s h.prev with
            | none=>
              have hd:=mM (side:=side.l) hv (sy (fresh:=fresh) hix (by rw [hon0,nU,if_pos hst,hlv];rfl))
              repeat (first | refine JL.q (by first|(apply OQ.af (cs:=sec s k.v);exact gK;exact dB;rfl;exact .here;exact (hn _);exact Row.all)|(apply OQ.load;exact bB;rfl;exact (.there (.there .here));exact hr2)|(apply OQ.au (vs:=[.agg (sec s k.v).toArray,N h.prev]);exact ji;rfl;exact (fun w' _=>uy s k hs h.prev hlv w' (by omega) (by omega)))|(apply OQ.extract;rfl;rfl)|(apply OQ.move;rfl)|(apply OQ.bM;rfl;rfl;rfl;exact (by decide);rfl)) rfl ?_ | refine JC.seq ?_ | refine JC.region ?_)
              refine JL.ag (cs:=sec s k.v) dB rfl rfl (hn _) (bw rfl) .here (hn _) ?_
              repeat (first | refine JL.q (by first|(apply OQ.not;rfl)|(apply OQ.move;rfl)|(apply OQ.assign;rfl)) rfl ?_ | refine JC.seq ?_ | refine JC.region ?_ | refine JL.nil ?_ | refine JE.next ?_)
              refine JC.cond_true rfl rfl ?_
              repeat (first | refine JL.q (by (apply OQ.af (cs:=sec s k.v);exact gK;exact dB;rfl;exact (.there (.there (.there (.there (.there .here)))));exact (hn _);exact Row.all)) rfl ?_ | refine JC.seq ?_ | refine JC.region ?_)
              refine JL.ag (cs:=sec s k.v) dB rfl rfl (hn _) (bw rfl) (.there (.there (.there .here))) (ay br _) ?_
              repeat (first | refine JL.q (by (apply OQ.assign;rfl)) rfl ?_ | refine JL.nil ?_ | refine JE.next ?_)
              refine JC.ret ?_
              repeat (refine JE.aH ?_)
              exact JE.jy rfl (RV.av gK dB rfl (.there (.there (.there .here))) (hn _) Row.all) (RV.tmp rfl) (RV.tmp rfl) fun w' hw=>herr hd rfl (hw.weak (aq.nil _))
            | some n1=>
            obtain ⟨hmo,hml,hmt⟩:=lR hs hlv
            have hmm:=fun v=>ay hmo v
            repeat (first | refine JL.q (by first|(apply OQ.af (cs:=sec s k.v);exact gK;exact dB;rfl;exact .here;exact (hn _);exact Row.all)|(apply OQ.load;exact bB;rfl;exact (.there (.there .here));exact hr2)|(apply OQ.bM;rfl;rfl;rfl;exact (by decide);rfl)) rfl ?_ | refine JC.seq ?_ | refine JC.region ?_)
            refine JL.bX (ι:=xY n1.kept) (vs:=[.agg (sec s k.v).toArray,N h.prev]) (fun r=>.tuple #[.agg (sec n1 r.v).toArray,.bool true]) (fun r=>r.ct) ji rfl rfl (fun r=>r.wr) (fun w' hw'=>sK s k hs he hk0 h.prev n1 hlv w' (by omega) (by omega) (hk.holds hw' rfl)) ?_
            intro r
            refine JL.dz (M':=⟨b19,Row 26 (sec s k.v),true⟩::⟨bj,Sl.aE 5 1 W.length kj (W.map U8),true⟩::⟨b11,Row 32 (hdc h),true⟩::⟨b8,Row 26 (sec dh aR),true⟩::⟨b7,Row 23 (fresh.map U8),true⟩::⟨b4,Row 26 (sec s k.v),true⟩::(r.ct++bR 5 qh (rest.map U8))) (List.perm_append_comm_assoc _ [_,_,_,_,_,_] _) ?_
            have htv1 : r.v.oneCell'=true:=rfl
            repeat (refine JL.q (by first|(apply OQ.extract;rfl;rfl)|(apply OQ.move;rfl)) rfl ?_)
            refine JL.ag (cs:=sec n1 r.v) dB rfl rfl (hmm _) (bw htv1) .here (hn _) ?_
            repeat (first | refine JL.q (by first|(apply OQ.not;rfl)|(apply OQ.move;rfl)|(apply OQ.assign;rfl)) rfl ?_ | refine JC.seq ?_ | refine JC.region ?_ | refine JL.nil ?_ | refine JE.next ?_)
            refine JC.cond_false rfl rfl ?_
            repeat (refine JC.skip ?_)
            exact JE.mid (⟨n1,r.K,r.ct⟩ : Jf) ⟨by rw [if_pos hst],hmo,rfl,fun w' hw'=>xY.ok (M:=[]) hmo.kept (by rw [List.append_nil];exact hw'),hml,(by show n1.taken≤_;omega)⟩ (by repeat (first | exact ai.nil | refine ai.cons _ _ _ rfl ?_)) (aq.refl _)
          · have htk2 : ∀ o,Row 26 (sec s k.v) o→cellAt o 97=some (.bool false):=by rw [← (by simpa using hst : s.takes=false)];exact htk
            repeat (first | refine JL.q (by first|(apply OQ.load;exact gj;rfl;exact (.there (.there (.there (.there (.there .here)))));exact htk2)|(apply OQ.bM;rfl;rfl;rfl;exact (by decide);rfl)) rfl ?_ | refine JC.seq ?_ | refine JC.region ?_ | refine JL.nil ?_ | refine JE.next ?_)
            refine JC.cond_false rfl rfl ?_
            repeat (refine JC.skip ?_)
            exact JE.mid (⟨s,k,[]⟩ : Jf) ⟨by rw [if_neg hst],hs,he,fun w' hw'=>hk.holds hw' rfl,hk0,(by show s.taken≤_;omega)⟩ (by repeat (first | exact ai.nil | refine ai.cons _ _ _ rfl ?_)) (aq.refl _)
        rintro ⟨n1,mN,es1⟩ ⟨on1,hno,hKl,hKo,hKn,hnt⟩
        dsimp only at on1 hno hKl hKo hKn hnt ⊢
        have honT : kE s h fresh=some (iP n1 h.chain fresh):=by
          rw [hon0,nU]
          by_cases hst : s.takes=true
          · rw [if_pos hst] at on1 ⊢
            rw [on1]
            rfl
          · rw [if_neg hst] at on1 ⊢
            cases on1
            rfl
        have okT:=pN hno hc hf
        have lT : mN.l=(iP n1 h.chain fresh).kept:=hKl
        have nT : (iP n1 h.chain fresh).kept.length≤2000:=hKn
        have tT : (iP n1 h.chain fresh).taken≤2147483648:=Nat.zero_le _
        have eT : iP n1 h.chain fresh=⟨cq (cq n1.root (aN n1.own h.chain)) (aN fresh h.chain),fresh,h.chain,true,true,dX (cq n1.root (aN n1.own h.chain)) (aN fresh h.chain),dX n1.root (aN n1.own h.chain),0,0,n1.sent,n1.kept⟩:=rfl
        have cM:=fun w' : World=>ue n1.own h.chain hno.own hc w'
        have cM2:=fun w' : World=>ue fresh h.chain hf hc w'
        have hm1 : (aN n1.own h.chain).length=32:=iL _
        have hm2 : (aN fresh h.chain).length=32:=iL _
        have cT:=fun w' : World=>xS n1.root _ hno.root hm1 w'
        have hla : (cq n1.root (aN n1.own h.chain)).length=32:=fy _ _
        have cT2:=fun w' : World=>xS _ _ hla hm2 w'
        have hla2 : (cq (cq n1.root (aN n1.own h.chain)) (aN fresh h.chain)).length=32:=fy _ _
        have hlt : (dX n1.root (aN n1.own h.chain)).length=32:=eH _ _
        have hlt2 : (dX (cq n1.root (aN n1.own h.chain)) (aN fresh h.chain)).length=32:=eH _ _
        generalize iP n1 h.chain fresh=tu at *
        generalize dX (cq n1.root (aN n1.own h.chain)) (aN fresh h.chain)=c2 at *
        generalize cq (cq n1.root (aN n1.own h.chain)) (aN fresh h.chain)=a2 at *
        generalize dX n1.root (aN n1.own h.chain)=c1 at *
        generalize cq n1.root (aN n1.own h.chain)=a1 at *
        generalize aN n1.own h.chain=m1 at *
        generalize aN fresh h.chain=m2 at *
        have l1 : (a1.map U8).length=32:=by rw [List.length_map];exact hla
        have l2 : (c1.map U8).length=32:=by rw [List.length_map];exact hlt
        have l3 : (a2.map U8).length=32:=by rw [List.length_map];exact hla2
        have l4 : (c2.map U8).length=32:=by rw [List.length_map];exact hlt2
        have l5 : (n1.root.map U8).length=32:=by rw [List.length_map];exact hno.root
        have l6 : (n1.own.map U8).length=32:=by rw [List.length_map];exact hno.own
        obtain ⟨kv,hkv⟩ : ∃ kv,mN.v=kv:=⟨_,rfl⟩
        have hkv1 : kv.oneCell'=true:=by rw [← hkv];rfl
        rw [hkv]
        have hn0:=ay hno kv
        have k1 : ({ n1 with other:=h.chain } : bA).ok:=⟨hno.root,hno.own,hc,hno.send,hno.take,hno.kept⟩
        have p1:=jl hno kv h.chain hc
        obtain ⟨s1,e101⟩ : ∃ x,({ n1 with other:=h.chain } : bA)=x:=⟨_,rfl⟩
        rw [e101] at k1 p1
        have hn1:=ay k1 kv
        have k2 : ({ s1 with root:=a1 } : bA).ok:=⟨hla,k1.own,k1.other,k1.send,k1.take,k1.kept⟩
        have p2:=fm k1 kv a1 hla
        obtain ⟨s2,e102⟩ : ∃ x,({ s1 with root:=a1 } : bA)=x:=⟨_,rfl⟩
        rw [e102] at k2 p2
        have hn2:=ay k2 kv
        have k3 : ({ s2 with take:=c1 } : bA).ok:=⟨k2.root,k2.own,k2.other,k2.send,hlt,k2.kept⟩
        have p3:=fX k2 kv c1 hlt
        obtain ⟨s3,e103⟩ : ∃ x,({ s2 with take:=c1 } : bA)=x:=⟨_,rfl⟩
        rw [e103] at k3 p3
        have hn3:=ay k3 kv
        have k4 : ({ s3 with own:=fresh } : bA).ok:=⟨k3.root,hf,k3.other,k3.send,k3.take,k3.kept⟩
        have p4:=iZ k3 kv fresh hf
        obtain ⟨s4,e104⟩ : ∃ x,({ s3 with own:=fresh } : bA)=x:=⟨_,rfl⟩
        rw [e104] at k4 p4
        have hn4:=ay k4 kv
        have k5 : ({ s4 with root:=a2 } : bA).ok:=⟨hla2,k4.own,k4.other,k4.send,k4.take,k4.kept⟩
        have p5:=fm k4 kv a2 hla2
        obtain ⟨s5,e105⟩ : ∃ x,({ s4 with root:=a2 } : bA)=x:=⟨_,rfl⟩
        rw [e105] at k5 p5
        have hn5:=ay k5 kv
        have k6 : ({ s5 with send:=c2 } : bA).ok:=⟨k5.root,k5.own,k5.other,hlt2,k5.take,k5.kept⟩
        have p6:=iq k5 kv c2 hlt2
        obtain ⟨s6,e106⟩ : ∃ x,({ s5 with send:=c2 } : bA)=x:=⟨_,rfl⟩
        rw [e106] at k6 p6
        have hn6:=ay k6 kv
        have k7 : ({ s6 with bY:=true } : bA).ok:=⟨k6.root,k6.own,k6.other,k6.send,k6.take,k6.kept⟩
        have p7:=jm k6 kv true
        obtain ⟨s7,e107⟩ : ∃ x,({ s6 with bY:=true } : bA)=x:=⟨_,rfl⟩
        rw [e107] at k7 p7
        have hn7:=ay k7 kv
        have k8 : ({ s7 with takes:=true } : bA).ok:=⟨k7.root,k7.own,k7.other,k7.send,k7.take,k7.kept⟩
        have p8:=mZ k7 kv true
        obtain ⟨s8,e108⟩ : ∃ x,({ s7 with takes:=true } : bA)=x:=⟨_,rfl⟩
        rw [e108] at k8 p8
        have hn8:=ay k8 kv
        have k9 : ({ s8 with prev:=n1.sent } : bA).ok:=⟨k8.root,k8.own,k8.other,k8.send,k8.take,k8.kept⟩
        have p9:=oo k8 kv n1.sent
        obtain ⟨s9,e109⟩ : ∃ x,({ s8 with prev:=n1.sent } : bA)=x:=⟨_,rfl⟩
        rw [e109] at k9 p9
        have hn9:=ay k9 kv
        have k10 : ({ s9 with sent:=0 } : bA).ok:=⟨k9.root,k9.own,k9.other,k9.send,k9.take,k9.kept⟩
        have p10:=jZ k9 kv 0
        obtain ⟨s10,e110⟩ : ∃ x,({ s9 with sent:=0 } : bA)=x:=⟨_,rfl⟩
        rw [e110] at k10 p10
        have hn10:=ay k10 kv
        have k11 : ({ s10 with taken:=0 } : bA).ok:=⟨k10.root,k10.own,k10.other,k10.send,k10.take,k10.kept⟩
        have p11:=fF k10 kv 0
        obtain ⟨s11,e111⟩ : ∃ x,({ s10 with taken:=0 } : bA)=x:=⟨_,rfl⟩
        rw [e111] at k11 p11
        have hn11:=ay k11 kv
        have g1 : s1.root=n1.root∧s1.own=n1.own∧s1.other=h.chain:=by rw [← e101];exact ⟨rfl,rfl,rfl⟩
        have g4 : s4.root=a1∧s4.own=fresh∧s4.other=h.chain:=by rw [← e104,← e103,← e102,← e101];exact ⟨rfl,rfl,rfl⟩
        have g8 : s8.sent=n1.sent:=by rw [← e108,← e107,← e106,← e105,← e104,← e103,← e102,← e101]
        have gT : sec tu kv=sec s11 kv:=by rw [eT,← e111,← e110,← e109,← e108,← e107,← e106,← e105,← e104,← e103,← e102,← e101]
        have r1:=jB k1 kv
        have o1:=jY k1 kv
        have t1:=dW k1 kv
        rw [g1.1] at r1
        rw [g1.2.1] at o1
        rw [g1.2.2] at t1
        have r4:=jB k4 kv
        have o4:=jY k4 kv
        have t4:=dW k4 kv
        rw [g4.1] at r4
        rw [g4.2.1] at o4
        rw [g4.2.2] at t4
        have e8:=jC k8 kv
        rw [g8] at e8
        clear eT e111 e110 e109 e108 e107 e106 e105 e104 e103 e102 e101 g1 g4 g8
        repeat (first | refine JL.q (by first|(apply OQ.af (cs:=h.chain.map U8);exact aP;exact aB;rfl;exact (.there (.there .here));exact hcl;exact (Row.cells (eG hc)))|(apply OQ.bM;rfl;rfl;rfl;exact (by decide);rfl)) rfl ?_ | refine JC.seq ?_ | refine JC.region ?_)
        refine JL.aW (r:=sec n1 kv) (r':=sec s1 kv) aB rfl rfl hcl (aV _) .here (by rw [hn0,hcl];decide) p1 ?_
        repeat (first | refine JC.seq ?_ | refine JL.nil ?_ | refine JE.next ?_)
        let vs : Nat→Nat→Value:=fun j y=>match j with
          | 0=>Pt b19 0
          | 1=>.agg (n1.root.map U8).toArray
          | 2=>Pt b19 32
          | 3=>.agg (n1.own.map U8).toArray
          | 4=>Pt b19 64
          | 5=>.agg (h.chain.map U8).toArray
          | 6=>.agg (m1.map U8).toArray
          | 7=>.tuple #[.agg (a1.map U8).toArray,.agg (c1.map U8).toArray]
          | 8=>.tuple #[.agg (a1.map U8).toArray,.agg (c1.map U8).toArray]
          | 9=>.agg (a1.map U8).toArray
          | 10=>.agg (c1.map U8).toArray
          | 11=>Pt b19 0
          | 13=>Pt b19 130
          | _=>N 0
        let Ms : Nat→Nat→List aG:=fun j y=>match j with
          | 12=>[⟨b19,Row 26 (sec s2 kv),true⟩]
          | 14=>[⟨b19,Row 26 (sec s3 kv),true⟩]
          | 15=>[⟨b19,Row 26 (sec s1 kv),true⟩]
          | 16=>[⟨bj,Sl.aE 5 1 W.length kj (W.map U8),true⟩]
          | 17=>[⟨b11,Row 32 (hdc h),true⟩]
          | 18=>[⟨b8,Row 26 (sec dh aR),true⟩]
          | 19=>[⟨b7,Row 23 (fresh.map U8),true⟩]
          | 20=>[⟨b4,Row 26 (sec s k.v),true⟩]
          | 21=>(es1++bR 5 qh (rest.map U8))
          | _=>[]
        refine JC.grow (g:=⟨[(4,Pt b4 0),(7,Pt b7 0),(8,Pt b8 0),(11,Pt b11 0),(12,aC qh rest.length),(14,.slice (some ⟨bj,0,none⟩) W.length kj),(19,Pt b19 0)],22,vs,Ms,(fun j=>match j with | 1=>[(0,125)] | 3=>[(2,127)] | 5=>[(4,129)] | 6=>[(3,128),(5,130)] | 7=>[(1,126),(6,131)] | 8=>[(7,132)] | 9=>[(8,124)] | 10=>[(8,124)] | 12=>[(11,135),(9,133)] | 14=>[(13,136),(10,134)] | _=>[]),(fun j=>match j with | 1=>[15] | 3=>[15] | 5=>[15] | 12=>[15] | 14=>[12] | _=>[]),(fun j=>match j with | 12=>[15] | 14=>[12] | _=>[]),(fun j=>match j with | _=>none)⟩) [] [14,16,17,18,19,20,21] gr (by repeat (first | exact ai.nil | refine ai.cons _ _ _ rfl ?_)) ?_ (by kernel_rfl) (by kernel_rfl) (by kernel_rfl) ?_ ?_
        · show aq (_::_::_::_::_::_::((es1++bR 5 qh (rest.map U8))++[])) _;rw [List.append_nil];exact aq.refl _
        · refine ⟨?_,?_,?_,?_,?_,?_,?_,?_,?_,?_,?_,?_,?_,?_,?_,trivial⟩
          · (intro xx EF MF Q kk;(try refine JL.aU rfl rfl ?_);exact JL.q (OQ.bM rfl rfl rfl (by decide) rfl) rfl (JL.nil (kk default nofun)))
          · (intro xx EF MF Q kk;(try refine JL.aU rfl rfl ?_);exact JL.q (OQ.af (cs:=n1.root.map U8) aP aB rfl .here l5 (Row.cells r1)) rfl (JL.nil (kk default nofun)))
          · (intro xx EF MF Q kk;(try refine JL.aU rfl rfl ?_);exact JL.q (OQ.bM rfl rfl rfl (by decide) rfl) rfl (JL.nil (kk default nofun)))
          · (intro xx EF MF Q kk;(try refine JL.aU rfl rfl ?_);exact JL.q (OQ.af (cs:=n1.own.map U8) aP aB rfl .here l6 (Row.cells o1)) rfl (JL.nil (kk default nofun)))
          · (intro xx EF MF Q kk;(try refine JL.aU rfl rfl ?_);exact JL.q (OQ.bM rfl rfl rfl (by decide) rfl) rfl (JL.nil (kk default nofun)))
          · (intro xx EF MF Q kk;(try refine JL.aU rfl rfl ?_);exact JL.q (OQ.af (cs:=h.chain.map U8) aP aB rfl .here hcl (Row.cells t1)) rfl (JL.nil (kk default nofun)))
          · (intro xx EF MF Q kk;(try refine JL.aU rfl rfl ?_);exact JL.q (OQ.au (vs:=[.agg (n1.own.map U8).toArray,.agg (h.chain.map U8).toArray]) rW rfl fun w' _=>cM w') rfl (JL.nil (kk default nofun)))
          · (intro xx EF MF Q kk;(try refine JL.aU rfl rfl ?_);exact JL.q (OQ.au (vs:=[.agg (n1.root.map U8).toArray,.agg (m1.map U8).toArray]) uw rfl fun w' _=>cT w') rfl (JL.nil (kk default nofun)))
          · (intro xx EF MF Q kk;(try refine JL.aU rfl rfl ?_);exact JL.q (OQ.move rfl) rfl (JL.nil (kk default nofun)))
          · (intro xx EF MF Q kk;(try refine JL.aU rfl rfl ?_);exact JL.q (OQ.extract rfl rfl) rfl (JL.nil (kk default nofun)))
          · (intro xx EF MF Q kk;(try refine JL.aU rfl rfl ?_);exact JL.q (OQ.extract rfl rfl) rfl (JL.nil (kk default nofun)))
          · (intro xx EF MF Q kk;(try refine JL.aU rfl rfl ?_);exact JL.q (OQ.bM rfl rfl rfl (by decide) rfl) rfl (JL.nil (kk default nofun)))
          · (intro xx EF MF Q kk;exact JL.aW (r:=sec s1 kv) (r':=sec s2 kv) aB rfl rfl l1 (aV _) .here (by rw [hn1,l1];decide) p2 (JL.nil (kk default nofun)))
          · (intro xx EF MF Q kk;(try refine JL.aU rfl rfl ?_);exact JL.q (OQ.bM rfl rfl rfl (by decide) rfl) rfl (JL.nil (kk default nofun)))
          · (intro xx EF MF Q kk;exact JL.aW (r:=sec s2 kv) (r':=sec s3 kv) aB rfl rfl l2 (aV _) .here (by rw [hn2,l2];decide) p3 (JL.nil (kk default nofun)))
        · intro xx hx
          show JE _ _ _ _ _ [(4,Pt b4 0),(7,Pt b7 0),(8,Pt b8 0),(11,Pt b11 0),(12,aC qh rest.length),(14,.slice (some ⟨bj,0,none⟩) W.length kj),(19,Pt b19 0)] (⟨b19,Row 26 (sec s3 kv),true⟩::⟨bj,Sl.aE 5 1 W.length kj (W.map U8),true⟩::⟨b11,Row 32 (hdc h),true⟩::⟨b8,Row 26 (sec dh aR),true⟩::⟨b7,Row 23 (fresh.map U8),true⟩::⟨b4,Row 26 (sec s k.v),true⟩::((es1++bR 5 qh (rest.map U8))++[]))
          rw [List.append_nil]
          clear hx xx vs Ms
          repeat (first | refine JL.q (by first|(apply OQ.af (cs:=fresh.map U8);exact aP;exact aB;rfl;exact (.there (.there (.there (.there .here))));exact hlf;exact Row.all)|(apply OQ.bM;rfl;rfl;rfl;exact (by decide);rfl)) rfl ?_ | refine JC.seq ?_ | refine JC.region ?_ | refine JE.next ?_)
          refine JL.aW (r:=sec s3 kv) (r':=sec s4 kv) aB rfl rfl hlf (aV _) .here (by rw [hn3,hlf];decide) p4 ?_
          repeat (first | refine JC.seq ?_ | refine JL.nil ?_ | refine JE.next ?_)
          let vs : Nat→Nat→Value:=fun j y=>match j with
            | 0=>Pt b19 0
            | 1=>.agg (a1.map U8).toArray
            | 2=>Pt b19 32
            | 3=>.agg (fresh.map U8).toArray
            | 4=>Pt b19 64
            | 5=>.agg (h.chain.map U8).toArray
            | 6=>.agg (m2.map U8).toArray
            | 7=>.tuple #[.agg (a2.map U8).toArray,.agg (c2.map U8).toArray]
            | 8=>.tuple #[.agg (a2.map U8).toArray,.agg (c2.map U8).toArray]
            | 9=>.agg (a2.map U8).toArray
            | 10=>.agg (c2.map U8).toArray
            | 11=>Pt b19 0
            | 13=>Pt b19 98
            | _=>N 0
          let Ms : Nat→Nat→List aG:=fun j y=>match j with
            | 12=>[⟨b19,Row 26 (sec s5 kv),true⟩]
            | 14=>[⟨b19,Row 26 (sec s6 kv),true⟩]
            | 15=>[⟨b19,Row 26 (sec s4 kv),true⟩]
            | 16=>[⟨bj,Sl.aE 5 1 W.length kj (W.map U8),true⟩]
            | 17=>[⟨b11,Row 32 (hdc h),true⟩]
            | 18=>[⟨b8,Row 26 (sec dh aR),true⟩]
            | 19=>[⟨b7,Row 23 (fresh.map U8),true⟩]
            | 20=>[⟨b4,Row 26 (sec s k.v),true⟩]
            | 21=>(es1++bR 5 qh (rest.map U8))
            | _=>[]
          refine JC.grow (g:=⟨[(4,Pt b4 0),(7,Pt b7 0),(8,Pt b8 0),(11,Pt b11 0),(12,aC qh rest.length),(14,.slice (some ⟨bj,0,none⟩) W.length kj),(19,Pt b19 0)],22,vs,Ms,(fun j=>match j with | 1=>[(0,140)] | 3=>[(2,142)] | 5=>[(4,144)] | 6=>[(3,143),(5,145)] | 7=>[(1,141),(6,146)] | 8=>[(7,147)] | 9=>[(8,139)] | 10=>[(8,139)] | 12=>[(11,150),(9,148)] | 14=>[(13,151),(10,149)] | _=>[]),(fun j=>match j with | 1=>[15] | 3=>[15] | 5=>[15] | 12=>[15] | 14=>[12] | _=>[]),(fun j=>match j with | 12=>[15] | 14=>[12] | _=>[]),(fun j=>match j with | _=>none)⟩) [] [14,16,17,18,19,20,21] gr (by repeat (first | exact ai.nil | refine ai.cons _ _ _ rfl ?_)) ?_ (by kernel_rfl) (by kernel_rfl) (by kernel_rfl) ?_ ?_
          · show aq (_::_::_::_::_::_::((es1++bR 5 qh (rest.map U8))++[])) _;rw [List.append_nil];exact aq.refl _
          · refine ⟨?_,?_,?_,?_,?_,?_,?_,?_,?_,?_,?_,?_,?_,?_,?_,trivial⟩
            · (intro xx EF MF Q kk;(try refine JL.aU rfl rfl ?_);exact JL.q (OQ.bM rfl rfl rfl (by decide) rfl) rfl (JL.nil (kk default nofun)))
            · (intro xx EF MF Q kk;(try refine JL.aU rfl rfl ?_);exact JL.q (OQ.af (cs:=a1.map U8) aP aB rfl .here l1 (Row.cells r4)) rfl (JL.nil (kk default nofun)))
            · (intro xx EF MF Q kk;(try refine JL.aU rfl rfl ?_);exact JL.q (OQ.bM rfl rfl rfl (by decide) rfl) rfl (JL.nil (kk default nofun)))
            · (intro xx EF MF Q kk;(try refine JL.aU rfl rfl ?_);exact JL.q (OQ.af (cs:=fresh.map U8) aP aB rfl .here hlf (Row.cells o4)) rfl (JL.nil (kk default nofun)))
            · (intro xx EF MF Q kk;(try refine JL.aU rfl rfl ?_);exact JL.q (OQ.bM rfl rfl rfl (by decide) rfl) rfl (JL.nil (kk default nofun)))
            · (intro xx EF MF Q kk;(try refine JL.aU rfl rfl ?_);exact JL.q (OQ.af (cs:=h.chain.map U8) aP aB rfl .here hcl (Row.cells t4)) rfl (JL.nil (kk default nofun)))
            · (intro xx EF MF Q kk;(try refine JL.aU rfl rfl ?_);exact JL.q (OQ.au (vs:=[.agg (fresh.map U8).toArray,.agg (h.chain.map U8).toArray]) rW rfl fun w' _=>cM2 w') rfl (JL.nil (kk default nofun)))
            · (intro xx EF MF Q kk;(try refine JL.aU rfl rfl ?_);exact JL.q (OQ.au (vs:=[.agg (a1.map U8).toArray,.agg (m2.map U8).toArray]) uw rfl fun w' _=>cT2 w') rfl (JL.nil (kk default nofun)))
            · (intro xx EF MF Q kk;(try refine JL.aU rfl rfl ?_);exact JL.q (OQ.move rfl) rfl (JL.nil (kk default nofun)))
            · (intro xx EF MF Q kk;(try refine JL.aU rfl rfl ?_);exact JL.q (OQ.extract rfl rfl) rfl (JL.nil (kk default nofun)))
            · (intro xx EF MF Q kk;(try refine JL.aU rfl rfl ?_);exact JL.q (OQ.extract rfl rfl) rfl (JL.nil (kk default nofun)))
            · (intro xx EF MF Q kk;(try refine JL.aU rfl rfl ?_);exact JL.q (OQ.bM rfl rfl rfl (by decide) rfl) rfl (JL.nil (kk default nofun)))
            · (intro xx EF MF Q kk;exact JL.aW (r:=sec s4 kv) (r':=sec s5 kv) aB rfl rfl l3 (aV _) .here (by rw [hn4,l3];decide) p5 (JL.nil (kk default nofun)))
            · (intro xx EF MF Q kk;(try refine JL.aU rfl rfl ?_);exact JL.q (OQ.bM rfl rfl rfl (by decide) rfl) rfl (JL.nil (kk default nofun)))
            · (intro xx EF MF Q kk;exact JL.aW (r:=sec s5 kv) (r':=sec s6 kv) aB rfl rfl l4 (aV _) .here (by rw [hn5,l4];decide) p6 (JL.nil (kk default nofun)))
          · intro xx hx
            show JE _ _ _ _ _ [(4,Pt b4 0),(7,Pt b7 0),(8,Pt b8 0),(11,Pt b11 0),(12,aC qh rest.length),(14,.slice (some ⟨bj,0,none⟩) W.length kj),(19,Pt b19 0)] (⟨b19,Row 26 (sec s6 kv),true⟩::⟨bj,Sl.aE 5 1 W.length kj (W.map U8),true⟩::⟨b11,Row 32 (hdc h),true⟩::⟨b8,Row 26 (sec dh aR),true⟩::⟨b7,Row 23 (fresh.map U8),true⟩::⟨b4,Row 26 (sec s k.v),true⟩::((es1++bR 5 qh (rest.map U8))++[]))
            rw [List.append_nil]
            clear hx xx vs Ms
            repeat (first | refine JL.q (by (apply OQ.bM;rfl;rfl;rfl;exact (by decide);rfl)) rfl ?_ | refine JC.seq ?_ | refine JC.region ?_ | refine JE.next ?_)
            refine JL.az (r:=sec s6 kv) (r':=sec s7 kv) vH rfl rfl rfl rfl .here (by rw [hn6];decide) p7 ?_
            repeat (first | refine JL.q (by (apply OQ.bM;rfl;rfl;rfl;exact (by decide);rfl)) rfl ?_ | refine JC.seq ?_ | refine JC.region ?_ | refine JL.nil ?_ | refine JE.next ?_)
            refine JL.az (r:=sec s7 kv) (r':=sec s8 kv) vH rfl rfl rfl rfl .here (by rw [hn7];decide) p8 ?_
            repeat (first | refine JL.q (by first|(apply OQ.load;exact bB;rfl;exact .here;exact (Row.cell e8))|(apply OQ.bM;rfl;rfl;rfl;exact (by decide);rfl)) rfl ?_ | refine JC.seq ?_ | refine JC.region ?_ | refine JL.nil ?_ | refine JE.next ?_)
            refine JL.az (r:=sec s8 kv) (r':=sec s9 kv) nt rfl rfl rfl rfl .here (by rw [hn8];decide) p9 ?_
            repeat (first | refine JL.q (by (apply OQ.bM;rfl;rfl;rfl;exact (by decide);rfl)) rfl ?_ | refine JC.seq ?_ | refine JC.region ?_ | refine JL.nil ?_ | refine JE.next ?_)
            refine JL.az (r:=sec s9 kv) (r':=sec s10 kv) nt rfl rfl rfl rfl .here (by rw [hn9];decide) p10 ?_
            repeat (first | refine JL.q (by (apply OQ.bM;rfl;rfl;rfl;exact (by decide);rfl)) rfl ?_ | refine JC.region ?_ | refine JL.nil ?_ | refine JE.next ?_)
            refine JL.az (r:=sec s10 kv) (r':=sec s11 kv) nt rfl rfl rfl rfl .here (by rw [hn10];decide) p11 ?_
            repeat (refine JL.nil ?_)
            rw [← gT,← hkv]
            exact JE.mid (⟨tu,mN,es1⟩ : Jf) ⟨honT,okT,lT,hKo,nT,tT⟩ (by repeat (first | exact ai.nil | refine ai.cons _ _ _ rfl ?_)) (aq.refl _)
    rintro ⟨n,kk,es⟩ ⟨hon,hno,hKl,hKo,hKn,hnt⟩
    dsimp only at hon hno hKl hKo hKn hnt ⊢
    have hnn:=fun v=>ay hno v
    have hnk : ∀ o,Row 26 (sec n kk.v) o→cellAt o 163=some (N n.taken):=Row.cell (dG hno _)
    have hkO : ∀ {w' : World} {A : List aG} {e1 e2 e3 e4 e5 e6 : aG},ah w [] (e1::e2::e3::e4::e5::e6::(es++A)) w'→kk.ok w':=fun hw=>hKo _ (hw.weak (.drop _ _ _ (.drop _ _ _ (.drop _ _ _ (.drop _ _ _ (.drop _ _ _ (.drop _ _ _ (dS _ _))))))))
    by_cases hold : h.num<n.taken
    · have hd:=mM (side:=side.l) hv (AH hix hon hold)
      repeat (first | refine JL.q (by first|(apply OQ.load;exact bB;rfl;exact (.there (.there .here));exact hr3)|(apply OQ.load;exact bB;rfl;exact .here;exact hnk)|(apply OQ.g9 (a:=h.num) (b:=n.taken);rfl;rfl;exact hold)|(apply OQ.bM;rfl;rfl;rfl;exact (by decide);rfl)) rfl ?_ | refine JC.seq ?_ | refine JC.region ?_ | refine JL.nil ?_ | refine JE.next ?_)
      refine JC.cond_true rfl rfl ?_
      repeat (first | refine JL.q (by (apply OQ.af (cs:=sec s k.v);exact gK;exact dB;rfl;exact (.there (.there (.there (.there (.there .here)))));exact (hn _);exact Row.all)) rfl ?_ | refine JC.seq ?_ | refine JC.region ?_)
      refine JL.ag (cs:=sec s k.v) dB rfl rfl (hn _) (bw rfl) (.there (.there (.there .here))) (ay br _) ?_
      repeat (first | refine JL.q (by (apply OQ.assign;rfl)) rfl ?_ | refine JL.nil ?_ | refine JE.next ?_)
      refine JC.ret ?_
      repeat (refine JE.aH ?_)
      exact JE.jy rfl (RV.av gK dB rfl (.there (.there (.there .here))) (hn _) Row.all) (RV.tmp rfl) (RV.tmp rfl) fun w' hw=>herr hd rfl (hw.weak (aq.nil _))
    repeat (first | refine JL.q (by first|(apply OQ.load;exact bB;rfl;exact (.there (.there .here));exact hr3)|(apply OQ.load;exact bB;rfl;exact .here;exact hnk)|(apply OQ.gu (a:=h.num) (b:=n.taken);rfl;rfl;exact hold)|(apply OQ.bM;rfl;rfl;rfl;exact (by decide);rfl)) rfl ?_ | refine JC.seq ?_ | refine JC.region ?_ | refine JL.nil ?_ | refine JE.next ?_)
    refine JC.cond_false rfl rfl ?_
    cases hlv : leave n h.num with
    | none=>
      have hd:=mM (side:=side.l) hv (AI hix hon hold hlv)
      repeat (first | refine JL.q (by first|(apply OQ.af (cs:=sec n kk.v);exact gK;exact dB;rfl;exact .here;exact (hnn _);exact Row.all)|(apply OQ.load;exact bB;rfl;exact (.there (.there .here));exact hr3)|(apply OQ.au (vs:=[.agg (sec n kk.v).toArray,N h.num]);exact ji;rfl;exact (fun w' _=>uy n kk hno h.num hlv w' (by omega) hnt))|(apply OQ.extract;rfl;rfl)|(apply OQ.move;rfl)|(apply OQ.bM;rfl;rfl;rfl;exact (by decide);rfl)) rfl ?_ | refine JC.seq ?_ | refine JC.region ?_ | refine JC.skip ?_ | refine JE.next ?_)
      refine JL.ag (cs:=sec n kk.v) dB rfl rfl (hnn _) (bw rfl) .here (hnn _) ?_
      repeat (first | refine JL.q (by first|(apply OQ.not;rfl)|(apply OQ.move;rfl)|(apply OQ.assign;rfl)) rfl ?_ | refine JC.seq ?_ | refine JC.region ?_ | refine JL.nil ?_ | refine JE.next ?_)
      refine JC.cond_true rfl rfl ?_
      repeat (first | refine JL.q (by (apply OQ.af (cs:=sec s k.v);exact gK;exact dB;rfl;exact (.there (.there (.there (.there (.there .here)))));exact (hn _);exact Row.all)) rfl ?_ | refine JC.seq ?_ | refine JC.region ?_)
      refine JL.ag (cs:=sec s k.v) dB rfl rfl (hn _) (bw rfl) (.there (.there (.there .here))) (ay br _) ?_
      repeat (first | refine JL.q (by (apply OQ.assign;rfl)) rfl ?_ | refine JL.nil ?_ | refine JE.next ?_)
      refine JC.ret ?_
      repeat (refine JE.aH ?_)
      exact JE.jy rfl (RV.av gK dB rfl (.there (.there (.there .here))) (hn _) Row.all) (RV.tmp rfl) (RV.tmp rfl) fun w' hw=>herr hd rfl (hw.weak (aq.nil _))
    | some m=>
    have hmk:=AJ hix hon hold hlv
    obtain ⟨hmo,hml,hmt⟩:=lR hno hlv
    have hmm:=fun v=>ay hmo v
    repeat (first | refine JL.q (by first|(apply OQ.af (cs:=sec n kk.v);exact gK;exact dB;rfl;exact .here;exact (hnn _);exact Row.all)|(apply OQ.load;exact bB;rfl;exact (.there (.there .here));exact hr3)|(apply OQ.bM;rfl;rfl;rfl;exact (by decide);rfl)) rfl ?_ | refine JC.seq ?_ | refine JC.region ?_ | refine JC.skip ?_ | refine JE.next ?_)
    refine JL.bX (ι:=xY m.kept) (vs:=[.agg (sec n kk.v).toArray,N h.num]) (fun r=>.tuple #[.agg (sec m r.v).toArray,.bool true]) (fun r=>r.ct) ji rfl rfl (fun r=>r.wr) (fun w' hw'=>sK n kk hno hKl hKn h.num m hlv w' (by omega) hnt (hkO hw')) ?_
    intro r
    refine JL.dz (M':=⟨b19,Row 26 (sec n kk.v),true⟩::⟨bj,Sl.aE 5 1 W.length kj (W.map U8),true⟩::⟨b11,Row 32 (hdc h),true⟩::⟨b8,Row 26 (sec dh aR),true⟩::⟨b7,Row 23 (fresh.map U8),true⟩::⟨b4,Row 26 (sec s k.v),true⟩::(r.ct++(es++bR 5 qh (rest.map U8)))) (List.perm_append_comm_assoc _ [_,_,_,_,_,_] _) ?_
    have htv1 : r.v.oneCell'=true:=rfl
    repeat (refine JL.q (by first|(apply OQ.extract;rfl;rfl)|(apply OQ.move;rfl)) rfl ?_)
    refine JL.ag (cs:=sec m r.v) dB rfl rfl (hmm _) (bw htv1) .here (hnn _) ?_
    repeat (first | refine JL.q (by first|(apply OQ.not;rfl)|(apply OQ.move;rfl)|(apply OQ.assign;rfl)) rfl ?_ | refine JC.seq ?_ | refine JC.region ?_ | refine JL.nil ?_ | refine JE.next ?_)
    refine JC.cond_false rfl rfl ?_
    have lt : (m.take.map U8).length=32:=by rw [List.length_map];exact hmo.take
    have cst : ∀ (w' : World),Calls Tryz.prog 32 [.agg (m.take.map U8).toArray].toArray w' fun e w''=>e=.returned (.tuple #[.agg ((mU m.take).map U8).toArray,.agg ((kD m.take).map U8).toArray])∧Ext w' w'':=fun w'=>sA m.take hmo.take w'
    have x1 : ({ m with take:=mU m.take } : bA).ok:=⟨hmo.root,hmo.own,hmo.other,hmo.send,rfl,hmo.kept⟩
    have p1:=fX hmo r.v (mU m.take) rfl
    have p2:=fF x1 r.v (m.taken+1)
    have hn2:=ay x1 r.v
    have ln : ((mU m.take).map U8).length=32:=rfl
    have lm : ((kD m.take).map U8).length=32:=rfl
    have lk : (kD m.take).length=32:=rfl
    have htr3 : ∀ o,Row 26 (sec { m with take:=mU m.take } r.v) o→cellAt o 163=some (N m.taken):=Row.cell (dG x1 _)
    have htn:=oM hmo
    have q1 : sec (ee m) r.v=sec { m with take:=mU m.take,taken:=m.taken+1 } r.v:=rfl
    have q2 : (ee m).kept=m.kept:=rfl
    have hnt3:=ay htn r.v
    have hdy:=oO (side:=side.l) (fresh:=fresh) hv hmk
    have hdn:=sx (side:=side.l) (fresh:=fresh) hv hmk
    rw [hW] at hdy hdn
    generalize ee m=tm at *
    generalize mU m.take=nx at *
    generalize kD m.take=ms at *
    obtain ⟨o,hoe⟩ : ∃ o,gZ ms W rest=o:=⟨_,rfl⟩
    rw [hoe] at hdy hdn
    have hoK : gP (k1 ms) (k2 ms) xC W rest=o:=hoe
    have hzS:=uH qh rest
    have hzl2:=uI hqh
    repeat (first | refine JL.q (by first|(apply OQ.af (cs:=m.take.map U8);exact aP;exact aB;rfl;exact .here;exact lt;exact (Row.cells (lg hmo _)))|(apply OQ.au (vs:=[.agg (m.take.map U8).toArray]);exact qb;rfl;exact (fun w' _=>cst w'))|(apply OQ.extract;rfl;rfl)|(apply OQ.move;rfl)|(apply OQ.bM;rfl;rfl;rfl;exact (by decide);rfl)) rfl ?_ | refine JC.seq ?_ | refine JC.region ?_ | refine JC.skip ?_ | refine JE.next ?_)
    refine JL.alloc gR rfl fun b21 _=>?_
    refine JL.alloc gR rfl fun b22 _=>?_
    refine JL.ag (cs:=nx.map U8) aB rfl rfl ln (aV _) (.there .here) (by simp) ?_
    refine JL.ag (cs:=ms.map U8) aB rfl rfl lm (aV _) .here (by simp) ?_
    repeat (first | refine JL.q (by first|(apply OQ.af (cs:=nx.map U8);exact aP;exact aB;rfl;exact (.there .here);exact ln;exact Row.all)|(apply OQ.bM;rfl;rfl;rfl;exact (by decide);rfl)) rfl ?_ | refine JC.seq ?_ | refine JC.region ?_ | refine JL.nil ?_ | refine JE.next ?_)
    refine JL.aW (r:=sec m r.v) (r':=sec { m with take:=nx } r.v) aB rfl rfl ln (aV _) (.there (.there .here)) (by rw [hmm,ln];decide) p1 ?_
    repeat (first | refine JL.q (by first|(apply OQ.load;exact bB;rfl;exact (.there (.there .here));exact htr3)|(apply OQ.aY (a:=m.taken) (b:=1);rfl;rfl;exact (by omega))|(apply OQ.bM;rfl;rfl;rfl;exact (by decide);rfl)) rfl ?_ | refine JC.seq ?_ | refine JC.region ?_ | refine JL.nil ?_ | refine JE.next ?_)
    refine JL.az (r:=sec { m with take:=nx } r.v) (r':=sec { m with take:=nx,taken:=m.taken+1 } r.v) nt rfl rfl rfl rfl (.there (.there .here)) (by rw [hn2];decide) p2 ?_
    rw [← q1]
    repeat (first | refine JL.q (by (apply OQ.af (cs:=ms.map U8);exact aP;exact aB;rfl;exact .here;exact lm;exact Row.all)) rfl ?_ | refine JC.seq ?_ | refine JC.region ?_ | refine JL.nil ?_ | refine JE.next ?_)
    refine JL.q (OQ.pure (v:=.agg (xC.map U8).toArray) rfl rfl (by kernel_rfl)) rfl ?_
    repeat (refine JL.q (by (apply OQ.move;rfl)) rfl ?_)
    refine JL.bX (ι:=Gl o.1) (vs:=[.agg (ms.map U8).toArray,.agg (xC.map U8).toArray,.slice (some ⟨bj,0,none⟩) W.length kj,aC qh rest.length]) (fun i=>.tuple #[i.1.v,N o.2]) (fun i=>i.1.ct) sE rfl rfl (fun i=>aM.ig _) (fun w' hw'=>sF (s:=⟨some ⟨bj,0,none⟩,kj,W⟩) (z:=uG qh rest) rfl hzS (by rw [hzl2];exact hoK) lk rfl (fl hw' (.there (.there (.there .here)))) (uJ (e:=5) (M:=[]) (by rw [List.append_nil];exact hw'.weak (.drop _ _ _ (.drop _ _ _ (.drop _ _ _ (.drop _ _ _ (.drop _ _ _ (.drop _ _ _ (.drop _ _ _ (.drop _ _ _ (er _ (er _ (aq.refl _)))))))))))) ) (by show W.length<_;omega) (by rw [hzl2];omega)) ?_
    rintro ⟨pl,hpl⟩
    dsimp only
    refine JL.dz (M':=⟨b22,Row 23 (ms.map U8),true⟩::⟨b21,Row 23 (nx.map U8),true⟩::⟨b19,Row 26 (sec tm r.v),true⟩::⟨bj,Sl.aE 5 1 W.length kj (W.map U8),true⟩::⟨b11,Row 32 (hdc h),true⟩::⟨b8,Row 26 (sec dh aR),true⟩::⟨b7,Row 23 (fresh.map U8),true⟩::⟨b4,Row 26 (sec s k.v),true⟩::(pl.ct++(r.ct++(es++bR 5 qh (rest.map U8))))) (List.perm_append_comm_assoc _ [_,_,_,_,_,_,_,_] _) ?_
    by_cases ho : o.2=0
    · have hd:=hdy ho
      have eo : decide ((o.2 : Int)=0)=true:=decide_eq_true (by omega)
      repeat (first | refine JL.q (by first|(apply OQ.extract;rfl;rfl)|(apply OQ.qo (a:=(o.2 : Int)) (b:=0);rfl;rfl;exact eo)|(apply OQ.move;rfl)|(apply OQ.assign;rfl)) rfl ?_ | refine JC.seq ?_ | refine JC.region ?_ | refine JL.nil ?_ | refine JE.next ?_)
      refine JC.cond_false rfl rfl ?_
      repeat (first | refine JL.q (by first|(apply OQ.af (cs:=sec tm r.v);exact gK;exact dB;rfl;exact (.there (.there .here));exact hnt3;exact Row.all)|(apply OQ.move;rfl)) rfl ?_ | refine JC.seq ?_ | refine JC.region ?_ | refine JC.skip ?_ | refine JE.next ?_)
      refine JL.ag (cs:=sec tm r.v) dB rfl rfl hnt3 (bw htv1) (.there (.there (.there (.there (.there .here))))) (ay br _) ?_
      repeat (first | refine JL.q (by (apply OQ.assign;rfl)) rfl ?_ | refine JL.nil ?_ | refine JE.next ?_)
      refine JC.ret ?_
      skip
      refine JE.jy rfl (RV.av gK dB rfl (.there (.there (.there (.there (.there .here))))) hnt3 Row.all) (RV.tmp rfl) (RV.tmp rfl) fun w' hw=>?_
      rw [hd]
      exact ⟨⟨r.K,pl,pl.ct++r.ct,q2.symm,hpl.val,.inr fun hw=>xY.ok hmo.kept (hw.weak (by rw [List.append_assoc];exact er _ (aq.refl _))),fun hw=>aM.jW (by rw [List.append_assoc] at hw;exact hw) hpl.none,fun e he=>by rcases List.mem_append.1 he with h | h;exact aM.ig _ e h;exact r.wr e h⟩,rfl,hw.weak (.drop _ _ _ (.drop _ _ _ (.drop _ _ _ (.drop _ _ _ (.drop _ _ _ (.drop _ _ _ (.drop _ _ _ (.drop _ _ _ (by rw [← List.append_assoc];exact dS _ _)))))))))⟩
    · have hd:=hdn ho
      have eo : decide ((o.2 : Int)=0)=false:=decide_eq_false (by omega)
      repeat (first | refine JL.q (by first|(apply OQ.extract;rfl;rfl)|(apply OQ.qo (a:=(o.2 : Int)) (b:=0);rfl;rfl;exact eo)|(apply OQ.move;rfl)|(apply OQ.assign;rfl)) rfl ?_ | refine JC.seq ?_ | refine JC.region ?_ | refine JL.nil ?_ | refine JE.next ?_)
      refine JC.cond_true rfl rfl ?_
      repeat (first | refine JL.q (by first|(apply OQ.af (cs:=sec s k.v);exact gK;exact dB;rfl;exact (.there (.there (.there (.there (.there (.there (.there .here)))))));exact (hn _);exact Row.all)|(apply OQ.move;rfl)) rfl ?_ | refine JC.seq ?_ | refine JC.region ?_)
      refine JL.ag (cs:=sec s k.v) dB rfl rfl (hn _) (bw rfl) (.there (.there (.there (.there (.there .here))))) (ay br _) ?_
      repeat (first | refine JL.q (by (apply OQ.assign;rfl)) rfl ?_ | refine JL.nil ?_ | refine JE.next ?_)
      refine JC.ret ?_
      repeat (refine JE.aH ?_)
      exact JE.jy rfl (RV.av gK dB rfl (.there (.there (.there (.there (.there .here))))) (hn _) Row.all) (RV.tmp rfl) (RV.tmp rfl) fun w' hw=>herr hd rfl (hw.weak (aq.nil _))
end
section
open Sl g5 lz dO mP
open pT (Bk)
theorem Ct {s n : bA} {h : Hd} {fresh key : Bk} (hs : s.ok) (hc : h.chain.length=32) (hf : fresh.length=32) (hk : s.kept.length≤2000) (e : jO s h fresh=.inr (n,key)) : n.ok∧n.kept.length≤2000:=by
  rw [jO] at e
  split at e
  · next i hi=>
    have e:=(Prod.mk.inj (Sum.inr.inj e)).1
    rw [← e]
    refine ⟨qk hs i,?_⟩
    show (s.kept.eraseIdx i).length≤2000
    have:=List.length_eraseIdx_le s.kept i
    omega
  · split at e
    · cases e
    · next m hm=>
      split at e
      · cases e
      · split at e
        · cases e
        · next q hq=>
          have e:=(Prod.mk.inj (Sum.inr.inj e)).1
          have hmo : m.ok:=by
            rw [kE] at hm
            split at hm
            · cases hm;exact hs
            · exact (vG hs hc hf hk hm).1
          obtain ⟨h1,h2,_⟩:=lR hmo hq
          rw [← e]
          exact ⟨oM h1,h2⟩
theorem Cu (key side z : Bk) : (gZ key side z).1.length≤z.length:=by
  show (gP _ _ _ _ _).1.length≤_
  unfold gP
  split
  · exact Nat.zero_le _
  · split
    · show (fK _ _ _ _).length≤_
      rw [dZ,List.length_take]
      omega
    · exact Nat.zero_le _
theorem Cv {s : bA} (hs : s.ok) (hk : s.kept.length≤2000) {side z fresh : Bk} (hf : fresh.length=32) : (fG s side z fresh).1.ok∧(fG s side z fresh).1.kept.length≤2000∧(fG s side z fresh).2.1.length≤z.length:=by
  cases hv : dI z with
  | none=>rw [oN hv];exact ⟨hs,hk,Nat.zero_le _⟩
  | some hr=>
    obtain ⟨h,r⟩:=hr
    obtain ⟨hc,_,_,hre,_,_⟩:=kH hv
    cases hm : jO s h fresh with
    | inl c=>rw [mM hv hm];exact ⟨hs,hk,Nat.zero_le _⟩
    | inr nk=>
      obtain ⟨n,key⟩:=nk
      by_cases ho : (gZ key (side++dP h) r).2=0
      · rw [oO hv hm ho]
        obtain ⟨h1,h2⟩:=Ct hs hc hf hk hm
        refine ⟨h1,h2,?_⟩
        show (gZ _ _ _).1.length≤_
        have:=Cu key (side++dP h) r
        rw [hre,List.length_drop] at this
        rw [hre]
        omega
      · rw [sx hv hm ho]
        exact ⟨hs,hk,Nat.zero_le _⟩
end
section
set_option maxRecDepth 10000
open Sl g5 lz dO mP
open pT (Bk)
theorem vP (q : Acc) (w : World) : (sB q []).ok w:=by
  cases q with
  | none=>exact ⟨Nat.le_refl _,Reads.nil _ _,nofun⟩
  | some p=>exact ⟨Nat.zero_le _,Reads.nil _ _,nofun⟩
theorem Jg (x : Acc) (l : List Value) : ∀ e ∈ bR 5 x l,e.wr=true:=fun e h=>by
  cases x with
  | none=>cases h
  | some p=>simp only [bR,List.mem_singleton] at h;rw [h]
theorem Gy (x : aM) (q : Acc) (ks : List Kp) : ∀ e ∈ x.ct++fU q ks,e.wr=true:=fun e he=>by
  rcases List.mem_append.1 he with h | h
  · exact aM.ig _ e h
  · exact ju _ _ e h
end
section
namespace Sl
section
variable {P : Program} {n : Nat} {w0 : World} {S : List Nat} {ops : Array Oper} {Q : Exit→Act→World→Prop} {l : List Oper} {E : Env} {M : List aG}
variable {d : Nat} {t e ty : TypeId} {pos : String} {aft : Array Edge} {v z : Value} {x y : Operand} {sz by' : Nat} {cs ds : List Value}
theorem AX {sz : Nat} (h0 : 0<sz) : ∀ {css : List (List Value)} (_ : ∀ c ∈ css,c.length=sz) (k : Nat),css.flatten[k]?=(css[k / sz]?).bind fun c=>c[k % sz]?
  | [],_,k=>by simp
  | c::css,h,k=>by
    have hc:=h c (by simp)
    rw [List.flatten_cons]
    by_cases hk : k<sz
    · rw [List.getElem?_append_left (by omega),Nat.div_eq_of_lt hk,Nat.mod_eq_of_lt hk]
      rfl
    · rw [List.getElem?_append_right (by omega),hc,AX h0 (fun d hd=>h d (by simp [hd])) (k - sz),Nat.mod_eq_sub_mod (a:=k) (b:=sz) (by omega)]
      have e1 : k / sz=(k - sz) / sz+1:=by
        rw [show k=(k - sz)+sz by omega,Nat.add_div_right _ h0,Nat.add_sub_cancel]
      rw [e1,List.getElem?_cons_succ]
theorem xZ {sz : Nat} : ∀ {css : List (List Value)} (_ : ∀ c ∈ css,c.length=sz),css.flatten.length=css.length * sz
  | [],_=>by simp
  | c::css,h=>by
    rw [List.flatten_cons,List.length_append,h c (by simp),xZ fun d hd=>h d (by simp [hd]),List.length_cons,Nat.add_mul]
    omega
theorem zF {w : World} {css : List (List Value)} {m : Nat} (hu : P.underlying t=some (.slice e)) (hi : EI P e z sz by') (h0 : 0<sz) (hm : css.length=m) (hm0 : 0<m) (hsm : m * sz≤16777216) (hl : ∀ c ∈ css,c.length=sz) :
    (Instr.buildSlice t m (((css.map fun c=>Value.agg c.toArray).zipIdx 0).map fun x=>(x.2,x.1)).toArray).run P w=.ok (.slice (some ⟨w.heap.size,0,none⟩) m m) { w with heap:=w.heap.push (.cells css.flatten.toArray e (0,0)) }:=by
  have h3 : (underlying t).run P w=.ok (.slice e) w:=run_underlying hu w
  obtain ⟨i,h4,h5,_⟩:=hi.get
  obtain ⟨r,h6,h7,h8⟩:=Great.fill_dense h0 (css.map fun c=>Value.agg c.toArray) 0 ((Array.range (m * sz)).map (z.cells[· % z.cells.size]!)) (by intro v hv;obtain ⟨c,hc,rfl⟩:=List.mem_map.1 hv;simp [Value.cells,hl c hc]) (by simp [hm])
  have hf:=xZ hl
  have hr : r=css.flatten.toArray:=by
    apply Array.ext_getElem?
    intro k
    have e : css.flatten.toArray[k]?=(css[k / sz]?).bind fun c=>c[k % sz]?:=by rw [List.getElem?_toArray,AX h0 hl]
    rw [h8 k,e]
    by_cases hk : k<m * sz
    · rw [if_pos (by simp [hm];omega),Nat.sub_zero,List.getElem?_map]
      cases css[k / sz]? with
      | none=>rfl
      | some c=>simp [Value.cells]
    · have hd : m≤k / sz:=(Nat.le_div_iff_mul_le h0).2 (by omega)
      rw [if_neg (by simp [hm];omega),Array.getElem?_eq_none (by simp;omega),List.getElem?_eq_none (by omega)]
      rfl
  subst hr
  have h11 : (zeroValue e).run P w=.ok z w:=by simp [zeroValue,typeInfo,h4,h5]
  have h12 : ¬ (16777216<m * sz):=by omega
  have h13 : ¬ (m=0):=by omega
  have h14 : ¬ (sz=0):=by omega
  have h15 : ¬ (m * sz=0):=by have:=Nat.mul_pos hm0 h0;omega
  simp [Instr.buildSlice,Sem.run_bind,h3,aJ hi.sz,h11,h12,h13,h14,h15,h6,newRow,newObj,Sem.run]
theorem JL.Mv {xs : List Operand} {ps : Array (Nat × Operand)} {css : List (List Value)} {m : Nat} (hu : P.underlying t=some (.slice e)) (hi : EI P e z sz by') (h0 : 0<sz) (hps : ps=(pairs 0 xs).toArray) (hx : mO E xs=some (css.map fun c=>Value.agg c.toArray)) (hm : css.length=m) (hm0 : 0<m) (hsm : m * sz≤16777216) (hl : ∀ c ∈ css,c.length=sz) (hd : Nat.blt d n=true)
    (k : ∀ b,w0.heap.size≤b→JL P n w0 S ops Q l ((d,.slice (some ⟨b,0,none⟩) m m)::E) (⟨b,Row e css.flatten,true⟩::M)) : JL P n w0 S ops Q (⟨some d,.buildSlice t m ps,ty,pos,aft,none⟩::l) E M:=
  ⟨fun a w ha hw=>wpList_plain rfl fun K hK=>by
    unfold Oper.wp
    have hm' : ps.map (fun (i,x)=>(i,a.eval x))=(((css.map fun c=>Value.agg c.toArray).zipIdx 0).map fun x=>(x.2,x.1)).toArray:=by
      rw [hps,List.map_toArray,← oX ha 0 hx]
    simp only [execOp,hm',Sem.run_bind,zF hu hi h0 hm hm0 hsm hl,Result.andThen_ok]
    exact hK _ _ ((k w.heap.size hw.aL.size).go _ _ (ha.put d _ hd) (hw.push _ rfl rfl rfl rfl rfl))⟩
end
section
variable {P : Program} {n : Nat} {E : Env} {C : World→Prop} {dst : Option Tmp} {t t' ty : TypeId} {pos : String} {aft : Array Edge} {g : Option (Nat × Bool)} {x y : Operand}
end
end Sl
end
section
set_option maxRecDepth 10000
open Sl g5 lz dO mP
open pT (Bk)
theorem Nh : EI Tryz.prog 26 (.agg (sec dh (.slice none 0 0)).toArray) 166 216:=by unfold EI;kernel_rfl
theorem KZ : EI Tryz.prog 27 (.slice none 0 0) 1 24:=by unfold EI;kernel_rfl
theorem Jh : dJ Tryz.prog 27=some 1:=by kernel_rfl
theorem Mw : ie Tryz.prog 27=true:=by kernel_rfl
theorem oR (e : aG) {A B : List aG} (h : aq A B) : aq (e::A) (e::B):=by
  obtain ⟨b,X,wr⟩:=e
  exact .keep _ _ _ _ _ _ (fun _ h=>h) h
theorem MV {f1 f2 e1 e2 e3 e4 : aG} (A B C : List aG) : aq (e1::e2::e3::e4::C) (f1::f2::e1::e2::e3::e4::(A++(B++C))):=
  .drop _ _ _ (.drop _ _ _ (oR _ (oR _ (oR _ (oR _ (er _ (er _ (aq.refl _))))))))
theorem Cw (root own other body side : Bk) (h1 : root.length=32) (h2 : own.length=32) (h3 : other.length=32) (hb : body.length≤300) :
    ∃ (A A1 S : bA) (z : Bk),ep root own (gU other)=A∧fJ root other=S∧A.ok∧A.kept=[]∧A.sent=0∧A.prev=0∧A1.ok∧A1.kept=[]∧A1.taken=0∧jt A side body=(A1,z,0)∧z.length=body.length+72∧S.ok∧S.kept=[]∧S.taken=0:=by
  have hF:=pK root own (gU other) h2 (iO _)
  refine ⟨ep root own (gU other),xD (ep root own (gU other)),fJ root other,vD (ep root own (gU other)) side body,rfl,rfl,hF,rfl,rfl,rfl,vE hF,rfl,rfl,vL rfl (by show ¬ 2147483647≤0;decide) _ _,?_,nQ _ _ h1 h3,rfl,rfl⟩
  rw [vD,List.length_append,mu (show (sn (ep root own (gU other))).chain.length=32 from iO _)]
  have : (mP.jd (kD (ep root own (gU other)).send) (side++dP (sn (ep root own (gU other)))) body).length=body.length+32:=j8 _ _ _ _ _
  omega
set_option maxHeartbeats 64000000 in
theorem pR (root own other fresh : Bk) (side wrong body : aM) (w : World) (h1 : root.length=32) (h2 : own.length=32) (h3 : other.length=32) (h4 : fresh.length=32) (hs : side.ok w) (hr : wrong.ok w) (hb : body.ok w) (hG : g7 w) (hQ : GQ w) :
    Calls Tryz.prog 5 [.agg (root.map U8).toArray,.agg (own.map U8).toArray,.agg (other.map U8).toArray,.agg (fresh.map U8).toArray,side.v,wrong.v,body.v].toArray w fun e w'=>e=.returned (.bool true)∧Ext w w':=by
  have l1 : (root.map U8).length=32:=by rw [List.length_map];exact h1
  have l2 : (own.map U8).length=32:=by rw [List.length_map];exact h2
  have l3 : (other.map U8).length=32:=by rw [List.length_map];exact h3
  have l4 : (fresh.map U8).length=32:=by rw [List.length_map];exact h4
  have csp:=fun (w' : World) (hG' : g7 w') (hQ' : GQ w')=>vO w' hG' hQ'
  have cn:=fun (w' : World)=>sj other h3 w'
  have cm:=fun (w' : World)=>sj own h2 w'
  have hY : (gU other).length=32:=iO _
  have hX : (gU own).length=32:=iO _
  have i1:=Hu (b:=gU other) h3
  have cf:=fun (w' : World) (hG' : g7 w')=>uv root own (gU own) (gU other) h1 h2 hX hY w' hG'
  have cs:=fun (w' : World)=>sI root other (gU other) h1 h3 hY w'
  refine enter (n:=128) Tryz.func5 rfl rfl rfl (ah.start w []) ?_
  repeat (first | refine JC.seq ?_ | refine JC.region ?_)
  refine JL.box (r:=root.map U8) rfl rfl rfl fun b7 _=>?_
  refine JL.box (r:=own.map U8) rfl rfl rfl fun b8 _=>?_
  refine JL.box (r:=other.map U8) rfl rfl rfl fun b9 _=>?_
  refine JL.box (r:=fresh.map U8) rfl rfl rfl fun b10 _=>?_
  repeat (first | refine JL.q (by first|(apply OQ.au (vs:=[]);exact tf;rfl;exact (fun w' hw'=>csp w' (hG.aL hw'.aL (by simp)) (hQ.aL hw'.aL (by simp))))|(apply OQ.not;rfl)|(apply OQ.assign;rfl)) rfl ?_ | refine JC.seq ?_ | refine JC.region ?_ | refine JL.nil ?_ | refine JE.next ?_)
  refine JC.cond_false rfl rfl ?_
  obtain ⟨g1,hg1⟩ : ∃ g,decide ((200 : Int)<((side.l.length : Nat) : Int))=g:=⟨_,rfl⟩
  obtain ⟨g2,hg2⟩ : ∃ g,decide ((200 : Int)<((wrong.l.length : Nat) : Int))=g:=⟨_,rfl⟩
  obtain ⟨g3,hg3⟩ : ∃ g,decide ((300 : Int)<((body.l.length : Nat) : Int))=g:=⟨_,rfl⟩
  cases g1
  case true=>
    repeat (first | refine JL.q (by first|(apply OQ.len (k:=side.l.length) (ad:=side.ad) (cap:=side.cap);exact Tryz.underlying27;rfl)|(apply OQ.jA (b:=200);rfl;rfl;exact hg1)|(apply OQ.eP;rfl;rfl)|(apply OQ.move;rfl)) rfl ?_ | refine JC.seq ?_ | refine JC.region ?_ | refine JC.skip ?_ | refine JL.nil ?_ | refine JE.next ?_ | refine JL.iX rfl rfl rfl rfl ?_)
    refine JC.cond_true rfl rfl ?_
    repeat (first | refine JL.q (by (apply OQ.assign;rfl)) rfl ?_ | refine JC.seq ?_ | refine JC.region ?_ | refine JL.nil ?_ | refine JE.next ?_)
    refine JC.ret ?_
    repeat (refine JE.aH ?_)
    exact JE.aQ rfl (RV.tmp rfl) fun w' hw=>⟨rfl,hw.aL⟩
  cases g2
  case true=>
    repeat (first | refine JL.q (by first|(apply OQ.len (k:=side.l.length) (ad:=side.ad) (cap:=side.cap);exact Tryz.underlying27;rfl)|(apply OQ.jA (b:=200);rfl;rfl;exact hg1)|(apply OQ.len (k:=wrong.l.length) (ad:=wrong.ad) (cap:=wrong.cap);exact Tryz.underlying27;rfl)|(apply OQ.jA (b:=200);rfl;rfl;exact hg2)|(apply OQ.eP;rfl;rfl)|(apply OQ.dK;rfl;rfl)|(apply OQ.move;rfl)) rfl ?_ | refine JC.seq ?_ | refine JC.region ?_ | refine JC.skip ?_ | refine JL.nil ?_ | refine JE.next ?_ | refine JL.aU rfl rfl ?_ | refine JL.iX rfl rfl rfl rfl ?_)
    refine JC.cond_true rfl rfl ?_
    repeat (first | refine JL.q (by (apply OQ.assign;rfl)) rfl ?_ | refine JC.seq ?_ | refine JC.region ?_ | refine JL.nil ?_ | refine JE.next ?_)
    refine JC.ret ?_
    repeat (refine JE.aH ?_)
    exact JE.aQ rfl (RV.tmp rfl) fun w' hw=>⟨rfl,hw.aL⟩
  cases g3
  case true=>
    repeat (first | refine JL.q (by first|(apply OQ.len (k:=side.l.length) (ad:=side.ad) (cap:=side.cap);exact Tryz.underlying27;rfl)|(apply OQ.jA (b:=200);rfl;rfl;exact hg1)|(apply OQ.len (k:=wrong.l.length) (ad:=wrong.ad) (cap:=wrong.cap);exact Tryz.underlying27;rfl)|(apply OQ.jA (b:=200);rfl;rfl;exact hg2)|(apply OQ.len (k:=body.l.length) (ad:=body.ad) (cap:=body.cap);exact Tryz.underlying27;rfl)|(apply OQ.jA (b:=300);rfl;rfl;exact hg3)|(apply OQ.dK;rfl;rfl)|(apply OQ.move;rfl)) rfl ?_ | refine JC.seq ?_ | refine JC.region ?_ | refine JC.skip ?_ | refine JL.nil ?_ | refine JE.next ?_ | refine JL.aU rfl rfl ?_)
    refine JC.cond_true rfl rfl ?_
    repeat (first | refine JL.q (by (apply OQ.assign;rfl)) rfl ?_ | refine JC.seq ?_ | refine JC.region ?_ | refine JL.nil ?_ | refine JE.next ?_)
    refine JC.ret ?_
    repeat (refine JE.aH ?_)
    exact JE.aQ rfl (RV.tmp rfl) fun w' hw=>⟨rfl,hw.aL⟩
  have hsl : side.l.length≤200:=by have:=of_decide_eq_false hg1;omega
  have hrl : wrong.l.length≤200:=by have:=of_decide_eq_false hg2;omega
  have hbl : body.l.length≤300:=by have:=of_decide_eq_false hg3;omega
  repeat (first | refine JL.q (by first|(apply OQ.len (k:=side.l.length) (ad:=side.ad) (cap:=side.cap);exact Tryz.underlying27;rfl)|(apply OQ.jA (b:=200);rfl;rfl;exact hg1)|(apply OQ.len (k:=wrong.l.length) (ad:=wrong.ad) (cap:=wrong.cap);exact Tryz.underlying27;rfl)|(apply OQ.jA (b:=200);rfl;rfl;exact hg2)|(apply OQ.len (k:=body.l.length) (ad:=body.ad) (cap:=body.cap);exact Tryz.underlying27;rfl)|(apply OQ.jA (b:=300);rfl;rfl;exact hg3)|(apply OQ.dK;rfl;rfl)|(apply OQ.move;rfl)) rfl ?_ | refine JC.seq ?_ | refine JC.region ?_ | refine JC.skip ?_ | refine JL.nil ?_ | refine JE.next ?_ | refine JL.aU rfl rfl ?_)
  refine JC.cond_false rfl rfl ?_
  obtain ⟨A,A1,S,Z,eA,eS,aok,ak,asn,apn,a1ok,a1k,a1t,eE,lZ,sok,sk,stk⟩:=Cw root own other body.l side.l h1 h2 h3 hbl
  rw [eA] at cf
  rw [eS] at cs
  have lY : ((gU other).map U8).length=32:=by rw [List.length_map,hY]
  have lP : ((other++gU other).map U8).length=64:=by rw [List.length_map,List.length_append,h3,hY]
  change (∀ w',Calls _ _ _ w' fun e w''=>e=.returned (.agg ((other++gU other).map U8).toArray)∧Ext w' w'') at cn
  change (∀ w',Calls _ _ _ w' fun e w''=>e=.returned (.agg ((own++gU own).map U8).toArray)∧Ext w' w'') at cm
  generalize gU other=Y at *
  generalize gU own=X at *
  have nA:=fun v=>ay aok v
  have nA1:=fun v=>ay a1ok v
  have nS:=fun v=>ay sok v
  repeat (first | refine JL.q (by first|(apply OQ.af (cs:=other.map U8);exact aP;exact aB;rfl;exact (.there .here);exact l3;exact Row.all)|(apply OQ.au (vs:=[.agg (other.map U8).toArray]);exact pJ;rfl;exact (fun w' _=>cn w'))) rfl ?_ | refine JC.seq ?_ | refine JC.region ?_ | refine JC.skip ?_ | refine JE.next ?_)
  refine JL.alloc I3 rfl fun b15 _=>?_
  refine JL.ag (cs:=(other++Y).map U8) xA rfl rfl lP (aV _) .here rfl ?_
  repeat (first | refine JC.seq ?_ | refine JL.nil ?_ | refine JE.next ?_)
  let vs : Nat→Nat→Value:=fun j y=>match j with
    | 0=>.agg (root.map U8).toArray
    | 1=>.agg (own.map U8).toArray
    | 2=>.agg ((own++X).map U8).toArray
    | 3=>Pt b15 32
    | 4=>.agg (Y.map U8).toArray
    | 5=>.agg (sec A aR).toArray
    | 6=>.agg (root.map U8).toArray
    | 7=>.agg ((other++Y).map U8).toArray
    | 8=>.agg (sec S aR).toArray
    | 9=>Pt y 0
    | 10=>Pt y 0
    | _=>N 0
  let Ms : Nat→Nat→List aG:=fun j y=>match j with
    | 9=>[⟨y,Row 26 (sec dh aR),true⟩]
    | 10=>[⟨y,Row 26 (sec dh aR),true⟩]
    | 11=>[⟨y,Row 26 (sec A aR),true⟩]
    | 12=>[⟨y,Row 26 (sec S aR),true⟩]
    | 13=>[⟨b15,Row 46 ((other++Y).map U8),true⟩]
    | 14=>[⟨b10,Row 23 (fresh.map U8),true⟩]
    | 15=>[⟨b9,Row 23 (other.map U8),true⟩]
    | 16=>[⟨b8,Row 23 (own.map U8),true⟩]
    | 17=>[⟨b7,Row 23 (root.map U8),true⟩]
    | _=>[]
  refine JC.grow (g:=⟨[(4,side.v),(5,wrong.v),(6,body.v),(7,Pt b7 0),(8,Pt b8 0),(10,Pt b10 0),(15,Pt b15 0)],18,vs,Ms,(fun j=>match j with | 2=>[(1,49)] | 4=>[(3,51)] | 5=>[(0,48),(2,50),(4,52)] | 8=>[(6,54),(7,55)] | 11=>[(9,16),(5,53)] | 12=>[(10,17),(8,56)] | _=>[]),(fun j=>match j with | 0=>[17] | 1=>[16] | 4=>[13] | 6=>[17] | 7=>[13] | 11=>[9] | 12=>[10] | _=>[]),(fun j=>match j with | 11=>[9] | 12=>[10] | _=>[]),(fun j=>match j with | 11=>some 9 | 12=>some 10 | _=>none)⟩) [(9,16),(10,17)] [11,12,14] gr (by repeat (first | exact ai.nil | refine ai.cons _ _ _ rfl ?_)) ?_ (by kernel_rfl) (by kernel_rfl) (by kernel_rfl) ?_ ?_
  · exact aq.refl _
  · refine ⟨?_,?_,?_,?_,?_,?_,?_,?_,?_,?_,?_,?_,?_,trivial⟩
    · (intro xx EF MF Q kk;(try refine JL.aU rfl rfl ?_);exact JL.q (OQ.af (cs:=root.map U8) aP aB rfl .here l1 Row.all) rfl (JL.nil (kk default nofun)))
    · (intro xx EF MF Q kk;(try refine JL.aU rfl rfl ?_);exact JL.q (OQ.af (cs:=own.map U8) aP aB rfl .here l2 Row.all) rfl (JL.nil (kk default nofun)))
    · (intro xx EF MF Q kk;(try refine JL.aU rfl rfl ?_);exact JL.q (OQ.au (vs:=[.agg (own.map U8).toArray]) pJ rfl (fun w' _=>cm w')) rfl (JL.nil (kk default nofun)))
    · (intro xx EF MF Q kk;(try refine JL.aU rfl rfl ?_);exact JL.q (OQ.bM rfl rfl rfl (by decide) rfl) rfl (JL.nil (kk default nofun)))
    · (intro xx EF MF Q kk;(try refine JL.aU rfl rfl ?_);exact JL.q (OQ.af (cs:=Y.map U8) aP aB rfl .here lY (Row.cells i1)) rfl (JL.nil (kk default nofun)))
    · (intro xx EF MF Q kk;(try refine JL.aU rfl rfl ?_);exact JL.q (OQ.au (vs:=[.agg (root.map U8).toArray,.agg ((own++X).map U8).toArray,.agg (Y.map U8).toArray]) sH rfl (fun w' hw'=>cf w' (hG.aL hw'.aL (by simp)))) rfl (JL.nil (kk default nofun)))
    · (intro xx EF MF Q kk;(try refine JL.aU rfl rfl ?_);exact JL.q (OQ.af (cs:=root.map U8) aP aB rfl .here l1 Row.all) rfl (JL.nil (kk default nofun)))
    · (intro xx EF MF Q kk;(try refine JL.aU rfl rfl ?_);exact JL.q (OQ.af (cs:=(other++Y).map U8) Em xA rfl .here lP Row.all) rfl (JL.nil (kk default nofun)))
    · (intro xx EF MF Q kk;(try refine JL.aU rfl rfl ?_);exact JL.q (OQ.au (vs:=[.agg (root.map U8).toArray,.agg ((other++Y).map U8).toArray]) qm rfl (fun w' _=>cs w')) rfl (JL.nil (kk default nofun)))
    · (intro xx EF MF Q kk;exact JL.alloc uk rfl fun b0 _=>JL.nil (kk b0 nofun))
    · (intro xx EF MF Q kk;exact JL.alloc uk rfl fun b0 _=>JL.nil (kk b0 nofun))
    · (intro xx EF MF Q kk;exact JL.ag (cs:=sec A aR) dB rfl rfl (nA _) (bw rfl) .here (ay br _) (JL.nil (kk (xx 9) (fun k h=>by cases h;rfl))))
    · (intro xx EF MF Q kk;exact JL.ag (cs:=sec S aR) dB rfl rfl (nS _) (bw rfl) .here (ay br _) (JL.nil (kk (xx 10) (fun k h=>by cases h;rfl))))
  · intro xx hx
    have e11 : xx 11=xx 9:=hx 11 9 (by decide) rfl
    have e12 : xx 12=xx 10:=hx 12 10 (by decide) rfl
    show JE _ _ _ _ _ [(16,Pt (xx 9) 0),(17,Pt (xx 10) 0),(4,side.v),(5,wrong.v),(6,body.v),(7,Pt b7 0),(8,Pt b8 0),(10,Pt b10 0),(15,Pt b15 0)] [⟨xx 11,Row 26 (sec A aR),true⟩,⟨xx 12,Row 26 (sec S aR),true⟩,⟨b10,Row 23 (fresh.map U8),true⟩]
    rw [e11,e12]
    generalize xx 9=b16
    generalize xx 10=b17
    clear hx e11 e12 xx vs Ms
    repeat (first | refine JL.q (by first|(apply OQ.af (cs:=sec A aR);exact gK;exact dB;rfl;exact .here;exact (nA _);exact Row.all)|(apply OQ.move;rfl)) rfl ?_ | refine JC.seq ?_ | refine JC.region ?_ | refine JE.next ?_)
    have cE:=fun (w' : World) (g1 : g7 w') (g2 : GQ w') (hx : side.ok w') (hy : body.ok w')=>by
      have:=xO A xX aok ak.symm (by rw [ak];decide) (by omega) (by omega) side body (by omega) (by omega) w' g1 g2 (oQ _) hx hy
      try dsimp only at this
      rw [eE] at this
      dsimp only at this
      rw [a1k] at this
      exact this
    refine JL.bX (ι:=KV (A1,Z,0)) (vs:=[.agg (sec A aR).toArray,side.v,body.v]) (fun r=>.tuple #[.agg (sec A1 (aC r.q 0)).toArray,aC r.x Z.length,N 0]) (fun r=>bR 5 r.x (Z.map U8)) pQ rfl rfl (fun r=>Jg _ _) (fun w' hw'=>(cE w' (hG.aL hw'.aL (by simp)) (hQ.aL hw'.aL (by simp)) (hs.holds hw' rfl) (hb.holds hw' rfl)).mono fun _ _ ⟨r,e,h⟩=>⟨r,e,h.weak (dS _ _)⟩) ?_
    rintro ⟨q1,x,_,hx⟩
    dsimp only at hx ⊢
    have Jw : ∀ w' M',ah w [] (bR 5 x (Z.map U8)++M') w'→(uG x Z).ok w':=fun w' M' h=>uJ h
    have kl : (uG x Z).l=Z:=uI hx
    rw [← uH x Z]
    generalize uG x Z=kx at *
    obtain ⟨QX,hQX⟩ : ∃ QX,bR 5 x (Z.map U8)=QX:=⟨_,rfl⟩
    rw [hQX] at Jw ⊢
    refine JL.dz (M':=⟨b16,Row 26 (sec A aR),true⟩::⟨b17,Row 26 (sec S aR),true⟩::⟨b10,Row 23 (fresh.map U8),true⟩::QX) (List.perm_append_comm (l₂:=[_,_,_])) ?_
    repeat (refine JL.q (by first|(apply OQ.extract;rfl;rfl)|(apply OQ.move;rfl)) rfl ?_)
    refine JL.alloc uk rfl fun b18 _=>?_
    refine JL.ag (cs:=sec A1 (aC q1 0)) dB rfl rfl (nA1 _) (bw (by cases q1 <;> rfl)) .here (ay br _) ?_
    repeat (first | refine JL.q (by first|(apply OQ.qo (a:=0) (b:=0) (c:=true);rfl;rfl;rfl)|(apply OQ.move;rfl)|(apply OQ.assign;rfl)) rfl ?_ | refine JC.seq ?_ | refine JC.region ?_ | refine JL.nil ?_ | refine JE.next ?_)
    refine JC.cond_false rfl rfl ?_
    refine JC.skip (JE.next ?_)
    have lK : kx.l.length=body.l.length+72:=by rw [kl];exact lZ
    obtain ⟨ss,hss⟩ : ∃ ss : List (bA × mV),[(S,xX),(A1,sB q1 [])]=ss:=⟨_,rfl⟩
    have hall : ∀ p ∈ ss,p.1.ok∧p.1.kept=[]∧p.1.taken=0∧(∀ w,p.2.ok w)∧p.2.l=[]:=by
      rw [← hss]
      intro p hp
      rcases List.mem_cons.1 hp with rfl | hp
      · exact ⟨sok,sk,stk,oQ,rfl⟩
      · obtain rfl:=List.mem_singleton.1 hp
        exact ⟨a1ok,a1k,a1t,vP q1,by cases q1 <;> rfl⟩
    obtain ⟨css,hcs⟩ : ∃ css : List (List Value),ss.map (fun p=>sec p.1 p.2.v)=css:=⟨_,rfl⟩
    have hc2 : [sec S aR,sec A1 (aC q1 0)]=css:=by
      rw [← hcs,← hss]
      simp only [List.map_cons,List.map_nil,vI]
      rfl
    have hcl : ∀ c ∈ css,c.length=166:=by
      rw [← hcs]
      intro c hc
      obtain ⟨p,hp,rfl⟩:=List.mem_map.1 hc
      exact ay (hall p hp).1 _
    have hcn : css.length=2:=by rw [← hc2];rfl
    have hsn : ss.length=2:=by rw [← hss];rfl
    repeat (first | refine JL.q (by first|(apply OQ.af (cs:=sec S aR);exact gK;exact dB;rfl;exact (.there (.there .here));exact (nS _);exact Row.all)|(apply OQ.af (cs:=sec A1 (aC q1 0));exact gK;exact dB;rfl;exact .here;exact (nA1 _);exact Row.all)) rfl ?_ | refine JC.seq ?_ | refine JC.region ?_)
    refine JL.Mv (xs:=[.tmp 67,.tmp 68]) (css:=css) Tryz.underlying52 Nh (by decide) rfl (by rw [← hc2];rfl) hcn (by decide) (by decide) hcl rfl fun bL _=>?_
    repeat (first | refine JL.q (by first|(apply OQ.len (k:=2) (ad:=some ⟨bL,0,none⟩) (cap:=2);exact Tryz.underlying52;rfl)|(apply OQ.move;rfl)) rfl ?_ | refine JC.block ?_ | refine JL.nil ?_ | refine JE.next ?_)
    obtain ⟨bLE,hbL⟩ : ∃ e : aG,(⟨bL,Row 26 css.flatten,true⟩ : aG)=e:=⟨_,rfl⟩
    refine JC.loop (fun i : Nat=>[(4,side.v),(5,wrong.v),(10,Pt b10 0),(19,kx.v),(69,.slice (some ⟨bL,0,none⟩) 2 2),(70,N 2),(71,N i)]) (fun _=>⟨bL,Row 26 css.flatten,true⟩::⟨b10,Row 23 (fresh.map U8),true⟩::QX) (fun i=>2 - i) (fun i=>i≤2) 0 (Nat.zero_le _) (by repeat (first | exact ai.nil | refine ai.cons _ _ _ rfl ?_)) (oR _ (.drop _ _ _ (.drop _ _ _ (.drop _ _ _ (aq.refl _))))) ?_
    intro i hi
    repeat (first | refine JL.q (by (apply OQ.bJ;rfl;rfl)) rfl ?_ | refine JC.seq ?_ | refine JC.region ?_ | refine JL.nil ?_ | refine JE.next ?_)
    refine JC.cond rfl (fun h=>?_) (fun h=>?_)
    rotate_left
    · repeat (first | refine JL.q (by (apply OQ.assign;rfl)) rfl ?_ | refine JC.seq ?_ | refine JC.region ?_ | refine JC.exit ?_ | refine JL.nil ?_ | refine JE.next ?_ | refine JE.ax ?_ | refine JE.aA ?_)
      refine JC.ret ?_
      skip
      exact JE.aQ rfl (RV.tmp rfl) fun w' hw=>⟨rfl,hw.aL⟩
    have hi2 : i<2:=by have:=of_decide_eq_true h;omega
    clear h
    obtain ⟨⟨s,Kk⟩,hp⟩ : ∃ p,ss[i]?=some p:=⟨ss[i]'(by omega),List.getElem?_eq_getElem (by omega)⟩
    obtain ⟨sok,sk,stk,hK,hKl⟩:=hall _ (List.mem_of_getElem? hp)
    dsimp only at sok sk stk hK hKl
    have hci : css.getD i []=sec s Kk.v:=by
      rw [← hcs,List.getD_eq_getElem?_getD,List.getElem?_map,hp]
      rfl
    have hcut : (css.flatten.drop (0+i * 166)).take (sec s Kk.v).length=sec s Kk.v:=by
      rw [Nat.zero_add,ay sok,← hci]
      exact om hcl (by omega)
    have ns:=fun v=>ay sok v
    have hKv : Kk.v.oneCell'=true:=rfl
    repeat (first | refine JL.q (by first|(apply OQ.jS (len:=2) (cap:=2) (b:=bL) (j:=0) (i:=i);exact Tryz.underlying52;exact dB;rfl;rfl;exact hi2)|(apply OQ.af (cs:=sec s Kk.v);exact gK;exact dB;rfl;exact .here;exact (ns _);exact (Row.cells hcut))) rfl ?_ | refine JC.seq ?_ | refine JC.region ?_ | refine JC.block ?_ | refine JC.skip ?_ | refine JE.next ?_)
    refine JL.alloc uk rfl fun b22 _=>?_
    refine JL.ag (cs:=sec s Kk.v) dB rfl rfl (ns _) (bw hKv) .here (ay br _) ?_
    repeat (first | refine JL.q (by (apply OQ.move;rfl)) rfl ?_ | refine JC.seq ?_ | refine JC.region ?_ | refine JL.nil ?_ | refine JE.next ?_)
    refine JL.nC (xs:=[.tmp 75,.tmp 76]) (vs:=[side.v,wrong.v]) Tryz.underlying53 KZ rfl rfl rfl rfl (by intro v hv;simp only [List.mem_cons,List.not_mem_nil,or_false] at hv;rcases hv with rfl | rfl <;> rfl) rfl (by decide) (by decide) rfl fun bW _=>?_
    repeat (first | refine JL.q (by first|(apply OQ.len (k:=2) (ad:=some ⟨bW,0,none⟩) (cap:=2);exact Tryz.underlying53;rfl)|(apply OQ.move;rfl)) rfl ?_ | refine JC.block ?_ | refine JL.nil ?_ | refine JE.next ?_)
    have hwl : ∀ j,j<2→∃ t : aM,[side.v,wrong.v][j]?=some t.v∧t.ok w∧t.l.length≤200:=fun j hj=>by
      match j,hj with
      | 0,_=>exact ⟨side,rfl,hs,hsl⟩
      | 1,_=>exact ⟨wrong,rfl,hr,hrl⟩
    refine JC.loop (fun j : Nat=>[(4,side.v),(5,wrong.v),(10,Pt b10 0),(19,kx.v),(22,Pt b22 0),(69,.slice (some ⟨bL,0,none⟩) 2 2),(70,N 2),(71,N i),(77,.slice (some ⟨bW,0,none⟩) 2 2),(78,N 2),(79,N j)]) (fun _=>⟨bW,Row 27 [side.v,wrong.v],true⟩::⟨b22,Row 26 (sec s Kk.v),true⟩::⟨bL,Row 26 css.flatten,true⟩::⟨b10,Row 23 (fresh.map U8),true⟩::QX) (fun j=>2 - j) (fun j=>j≤2) 0 (Nat.zero_le _) (by repeat (first | exact ai.nil | refine ai.cons _ _ _ rfl ?_)) (aq.refl _) ?_
    intro j hj
    repeat (first | refine JL.q (by (apply OQ.bJ;rfl;rfl)) rfl ?_ | refine JC.seq ?_ | refine JC.region ?_ | refine JL.nil ?_ | refine JE.next ?_)
    refine JC.cond rfl (fun h=>?_) (fun h=>?_)
    rotate_left
    · repeat (first | refine JL.q (by first|(apply OQ.move;rfl)|(apply OQ.aY;rfl;rfl;exact (by (try simp only []);omega))) rfl ?_ | refine JC.region ?_ | refine JC.exit ?_ | refine JL.nil ?_ | refine JE.next ?_ | refine JE.an ?_ | refine JE.ax ?_ | refine JE.aA ?_)
      exact JE.again (i:=i) (i+1) (by omega) (by omega) (by repeat (first | exact ai.nil | refine ai.cons _ _ _ rfl ?_)) (.drop _ _ _ (.drop _ _ _ (aq.refl _)))
    have hj2 : j<2:=by have:=of_decide_eq_true h;omega
    clear h
    obtain ⟨t,ht,tok,tl⟩:=hwl j hj2
    obtain ⟨okD,klD,lenD⟩:=Cv sok (by rw [sk];decide) (side:=t.l) (z:=kx.l) h4
    have hde:=AT (s:=s) (side:=t.l) (z:=kx.l) (fresh:=fresh)
    have cD:=fun (w' : World) (g1 : g7 w') (g2 : GQ w') (hx : t.ok w') (hy : kx.ok w')=>EO s Kk sok (hKl.trans sk.symm) (by rw [sk];decide) (by rw [stk];decide) t kx (by omega) (by omega) fresh h4 w' g1 g2 (hK w') hx hy
    have cR:=fun (w' : World) (hx : t.ok w') (hy : kx.ok w')=>Cs s Kk sok (hKl.trans sk.symm) (by rw [sk];decide) (by rw [stk];decide) t kx (by omega) (by omega) fresh h4 w' (hK w') hx hy
    generalize hoo : fG s t.l kx.l fresh=o at *
    clear hoo
    obtain ⟨o1,o2,oc⟩:=o
    dsimp only at hde okD klD lenD cD cR
    have lo:=fun v=>ay okD v
    have kxA : ∀ {w' : World} {e1 e2 e3 e4 : aG},ah w [] (e1::e2::e3::e4::QX) w'→kx.ok w':=fun hw=>Jw _ [] (by rw [List.append_nil];exact hw.weak (.drop _ _ _ (.drop _ _ _ (.drop _ _ _ (.drop _ _ _ (aq.refl _))))))
    have kxB : ∀ {w' : World} {e1 e2 e3 e4 e5 : aG} {B : List aG},ah w [] (e1::e2::e3::e4::e5::(B++QX)) w'→kx.ok w':=fun hw=>Jw _ [] (by rw [List.append_nil];exact hw.weak (.drop _ _ _ (.drop _ _ _ (.drop _ _ _ (.drop _ _ _ (.drop _ _ _ (er _ (aq.refl _))))))))
    repeat (first | refine JL.q (by first|(apply OQ.iY (i:=j) (len:=2) (cap:=2) (b:=bW);exact Tryz.underlying53;exact Jh;rfl;rfl;exact hj2)|(apply OQ.load (v:=t.v);exact Mw;rfl;exact .here;exact (Row.cell ht))|(apply OQ.af (cs:=sec s Kk.v);exact gK;exact dB;rfl;exact (.there .here);exact (ns _);exact Row.all)|(apply OQ.af (cs:=fresh.map U8);exact aP;exact aB;rfl;exact (.there (.there (.there .here)));exact l4;exact Row.all)|(apply OQ.move;rfl)|(apply OQ.assign;rfl)) rfl ?_ | refine JC.seq ?_ | refine JC.region ?_ | refine JC.block ?_ | refine JC.skip ?_ | refine JL.nil ?_ | refine JE.next ?_)
    refine JL.bX (ι:=MT (o1,o2,oc)) (vs:=[.agg (sec s Kk.v).toArray,t.v,kx.v,.agg (fresh.map U8).toArray]) (fun r=>.tuple #[.agg (sec o1 (aC r.q o1.kept.length)).toArray,r.x.1.v,N oc]) (fun r=>r.x.1.ct++fU r.q o1.kept) Cj rfl rfl (fun r=>Gy _ _ _) (fun w' hw'=>cD w' (hG.aL hw'.aL (by simp)) (hQ.aL hw'.aL (by simp)) (tok.holds hw' rfl) (kxA hw')) ?_
    rintro ⟨q,⟨pl,hpl⟩,hq⟩
    dsimp only at hq ⊢
    refine JL.dz (M':=⟨bW,Row 27 [side.v,wrong.v],true⟩::⟨b22,Row 26 (sec s Kk.v),true⟩::⟨bL,Row 26 css.flatten,true⟩::⟨b10,Row 23 (fresh.map U8),true⟩::((pl.ct++fU q o1.kept)++QX)) (List.perm_append_comm_assoc _ [_,_,_,_] _) ?_
    repeat (refine JL.q (by first|(apply OQ.extract;rfl;rfl)|(apply OQ.move;rfl)) rfl ?_)
    refine JL.alloc uk rfl fun b25 _=>?_
    refine JL.ag (cs:=sec o1 (aC q o1.kept.length)) dB rfl rfl (lo _) (bw (by cases q <;> rfl)) .here (ay br _) ?_
    repeat (first | refine JL.q (by first|(apply OQ.af (cs:=sec s Kk.v);exact gK;exact dB;rfl;exact (.there (.there .here));exact (ns _);exact Row.all)|(apply OQ.af (cs:=fresh.map U8);exact aP;exact aB;rfl;exact (.there (.there (.there (.there .here))));exact l4;exact Row.all)|(apply OQ.move;rfl)|(apply OQ.assign;rfl)) rfl ?_ | refine JC.seq ?_ | refine JC.region ?_ | refine JL.nil ?_ | refine JE.next ?_)
    refine JL.bX (ι:=Jx (o1,o2,oc) Kk) (vs:=[.agg (sec s Kk.v).toArray,t.v,kx.v,.agg (fresh.map U8).toArray]) (fun r=>.tuple #[.agg (sec o1 r.K.v).toArray,r.x.v,N oc]) (fun r=>r.es) zE rfl rfl (fun r=>r.wr) (fun w' hw'=>cR w' (tok.holds hw' rfl) (kxB hw')) ?_
    rintro r
    have ovr : r.K.v.oneCell'=true:=rfl
    refine JL.dz (M':=⟨b25,Row 26 (sec o1 (aC q o1.kept.length)),true⟩::⟨bW,Row 27 [side.v,wrong.v],true⟩::⟨b22,Row 26 (sec s Kk.v),true⟩::⟨bL,Row 26 css.flatten,true⟩::⟨b10,Row 23 (fresh.map U8),true⟩::(r.es++((pl.ct++fU q o1.kept)++QX))) (List.perm_append_comm_assoc _ [_,_,_,_,_] _) ?_
    repeat (refine JL.q (by first|(apply OQ.extract;rfl;rfl)|(apply OQ.move;rfl)) rfl ?_)
    refine JL.alloc uk rfl fun b28 _=>?_
    refine JL.ag (cs:=sec o1 r.K.v) dB rfl rfl (lo _) (bw ovr) .here (ay br _) ?_
    have kR : ∀ {w' : World} {e1 e2 e3 e4 e5 e6 : aG} {B : List aG},ah w [] (e1::e2::e3::e4::e5::e6::(r.es++B)) w'→r.K.ok w':=fun hw=>by
      rcases r.Jw with h | h
      · rw [h]
        exact hK _
      · exact h (hw.weak (.drop _ _ _ (.drop _ _ _ (.drop _ _ _ (.drop _ _ _ (.drop _ _ _ (.drop _ _ _ (aq.refl _))))))))
    have xR : ∀ {w' : World} {e1 e2 e3 e4 e5 e6 : aG} {B : List aG},ah w [] (e1::e2::e3::e4::e5::e6::(r.es++B)) w'→r.x.ok w':=fun hw=>r.Ng (hw.weak (.drop _ _ _ (.drop _ _ _ (.drop _ _ _ (.drop _ _ _ (.drop _ _ _ (.drop _ _ _ (aq.refl _))))))))
    have kQ : ∀ {w' : World} {e1 e2 e3 e4 e5 e6 : aG},ah w [] (e1::e2::e3::e4::e5::e6::(r.es++((pl.ct++fU q o1.kept)++QX))) w'→(sB q o1.kept).ok w':=fun hw=>AM (M:=QX) okD.kept (hw.weak (.drop _ _ _ (.drop _ _ _ (.drop _ _ _ (.drop _ _ _ (.drop _ _ _ (.drop _ _ _ (er _ (by rw [List.append_assoc];exact er _ (aq.refl _))))))))))
    have xQ : ∀ {w' : World} {e1 e2 e3 e4 e5 e6 : aG},ah w [] (e1::e2::e3::e4::e5::e6::(r.es++((pl.ct++fU q o1.kept)++QX))) w'→pl.ok w':=fun hw=>aM.jW (M:=fU q o1.kept++QX) (hw.weak (.drop _ _ _ (.drop _ _ _ (.drop _ _ _ (.drop _ _ _ (.drop _ _ _ (.drop _ _ _ (er _ (by rw [List.append_assoc];exact aq.refl _))))))))) hpl.none
    have cS : ∀ w' : World,(sB q o1.kept).ok w'→r.K.ok w'→Calls Tryz.prog 14 [.agg (sec o1 (aC q o1.kept.length)).toArray,.agg (sec o1 r.K.v).toArray].toArray w' fun e w''=>e=.returned (.bool true)∧Ext w' w'':=fun w' h h'=>by
      have:=qn o1 (sB q o1.kept) r.K okD w' h h' (vJ hq) r.l (by omega)
      rw [vI] at this
      exact this
    have cT : ∀ w' : World,pl.ok w'→r.x.ok w'→Calls Tryz.prog 11 [pl.v,r.x.v].toArray w' fun e w''=>e=.returned (.bool true)∧Ext w' w'':=fun w' h h'=>HO rfl rfl h h' (by rw [hpl.val];show o2.length<_;omega) (hpl.val.trans r.xl.symm)
    have eoc : decide ((oc : Int)=(oc : Int))=true:=decide_eq_true rfl
    by_cases ho : oc=0
    · have eo : decide ((oc : Int)=0)=true:=decide_eq_true (by omega)
      repeat (first | refine JL.q (by first|(apply OQ.qo (a:=oc) (b:=oc);rfl;rfl;exact eoc)|(apply OQ.qo (a:=oc) (b:=0);rfl;rfl;exact eo)|(apply OQ.af (cs:=sec o1 (aC q o1.kept.length));exact gK;exact dB;rfl;exact (.there .here);exact (lo _);exact Row.all)|(apply OQ.af (cs:=sec o1 r.K.v);exact gK;exact dB;rfl;exact .here;exact (lo _);exact Row.all)|(apply OQ.au (vs:=[.agg (sec o1 (aC q o1.kept.length)).toArray,.agg (sec o1 r.K.v).toArray]);exact me;rfl;exact (fun w' hw'=>cS w' (kQ hw') (kR hw')))|(apply OQ.au (vs:=[pl.v,r.x.v]);exact mz;rfl;exact (fun w' hw'=>cT w' (xQ hw') (xR hw')))|(apply OQ.not;rfl)|(apply OQ.dK;rfl;rfl)|(apply OQ.move;rfl)|(apply OQ.assign;rfl)) rfl ?_ | refine JC.seq ?_ | refine JC.region ?_ | refine JL.nil ?_ | refine JE.next ?_ | refine JL.aU rfl rfl ?_ | refine JL.iX rfl rfl rfl rfl ?_)
      refine JC.cond_false rfl rfl ?_
      repeat (first | refine JL.q (by first|(apply OQ.move;rfl)|(apply OQ.aY;rfl;rfl;exact (by (try simp only []);omega))) rfl ?_ | refine JC.region ?_ | refine JC.skip ?_ | refine JL.nil ?_ | refine JE.next ?_ | refine JE.an ?_)
      exact JE.again (i:=j) (j+1) (by omega) (by omega) (by repeat (first | exact ai.nil | refine ai.cons _ _ _ rfl ?_)) (MV _ _ _)
    · have eo : decide ((oc : Int)=0)=false:=decide_eq_false (by omega)
      obtain ⟨hS1,_⟩:=hde ho
      subst hS1
      have cV : ∀ w' : World,(sB q o1.kept).ok w'→Calls Tryz.prog 14 [.agg (sec o1 (aC q o1.kept.length)).toArray,.agg (sec o1 Kk.v).toArray].toArray w' fun e w''=>e=.returned (.bool true)∧Ext w' w'':=fun w' h=>by
        have:=qn o1 (sB q o1.kept) Kk okD w' h (hK w') (vJ hq) (hKl.trans sk.symm) (by omega)
        rw [vI] at this
        exact this
      repeat (first | refine JL.q (by first|(apply OQ.qo (a:=oc) (b:=oc);rfl;rfl;exact eoc)|(apply OQ.qo (a:=oc) (b:=0);rfl;rfl;exact eo)|(apply OQ.af (cs:=sec o1 (aC q o1.kept.length));exact gK;exact dB;rfl;exact (.there .here);exact (lo _);exact Row.all)|(apply OQ.af (cs:=sec o1 r.K.v);exact gK;exact dB;rfl;exact .here;exact (lo _);exact Row.all)|(apply OQ.af (cs:=sec o1 Kk.v);exact gK;exact dB;rfl;exact (.there (.there (.there .here)));exact (lo _);exact Row.all)|(apply OQ.au (vs:=[.agg (sec o1 (aC q o1.kept.length)).toArray,.agg (sec o1 r.K.v).toArray]);exact me;rfl;exact (fun w' hw'=>cS w' (kQ hw') (kR hw')))|(apply OQ.au (vs:=[.agg (sec o1 (aC q o1.kept.length)).toArray,.agg (sec o1 Kk.v).toArray]);exact me;rfl;exact (fun w' hw'=>cV w' (kQ hw')))|(apply OQ.au (vs:=[pl.v,r.x.v]);exact mz;rfl;exact (fun w' hw'=>cT w' (xQ hw') (xR hw')))|(apply OQ.not;rfl)|(apply OQ.eP;rfl;rfl)|(apply OQ.dK;rfl;rfl)|(apply OQ.move;rfl)|(apply OQ.assign;rfl)) rfl ?_ | refine JC.seq ?_ | refine JC.region ?_ | refine JL.nil ?_ | refine JE.next ?_ | refine JL.aU rfl rfl ?_)
      refine JC.cond_false rfl rfl ?_
      repeat (first | refine JL.q (by first|(apply OQ.move;rfl)|(apply OQ.aY;rfl;rfl;exact (by (try simp only []);omega))) rfl ?_ | refine JC.region ?_ | refine JC.skip ?_ | refine JL.nil ?_ | refine JE.next ?_ | refine JE.an ?_)
      exact JE.again (i:=j) (j+1) (by omega) (by omega) (by repeat (first | exact ai.nil | refine ai.cons _ _ _ rfl ?_)) (MV _ _ _)
end
section
set_option maxRecDepth 10000
open Go.ChangeShapes Go.WideShapes Go.ChangeAt Go.RowKit
open Sl
set_option linter.unusedVariables false
theorem Mx : ownKnob Tryz.prog.godebug=none:=by kernel_rfl
theorem iQ : laidOutB Tryz.prog=true:=by kernel_rfl
theorem Hz {z : Int} (h : (Lit.int .u8 z).wf=true) : U8 (BitVec.ofInt 8 z)=.int .u8 z:=by
  have h0 : 0≤z∧z≤255:=by
    have h1 : (decide (0≤z) && decide (z≤255))=true:=h
    simpa using h1
  have h2 : ((BitVec.ofInt 8 z).toNat : Int)=z:=by
    rw [BitVec.toNat_ofInt]
    omega
  unfold U8
  rw [h2]
theorem GA {H : Type} {enc : TypeId × Value→H} {W : World} {base fuel m : Nat} {t : TypeId} (hu : Tryz.prog.underlying t=some (.array m 5)) (hc : Tryz.prog.cellsOf t=m) {v : Value} {x : DataW H × List MemPlace} (hok : Value.okWide Tryz.prog W .any base t v) (h : DataW.trod enc Tryz.prog W 0 (fun _=>true) true fuel t v.cells.toList=some x) :
    ∃ r : List (BitVec 8),v=.agg (r.map U8).toArray∧r.length=m:=by
  obtain ⟨xs,m',_,ex,_,hl,hel⟩:=DataW.trod_array hu h
  have c5 : Tryz.prog.cellsOf 5=1:=by kernel_rfl
  simp only [Value.okWide,hu] at hok
  obtain ⟨cs,rfl,hsz,_⟩:=hok
  rw [hc] at hsz
  have hk : ∀ i,∃ k : BitVec 8,i<m→cs[i]?=some (U8 k):=by
    intro i
    by_cases hi : i<m
    · have h1:=hel i hi
      rw [c5,Nat.mul_one,List.getElem?_eq_getElem (by omega)] at h1
      obtain ⟨z,e1,e2,hw⟩:=DataW.trod_int (show Tryz.prog.underlying 5=some (.int .u8) by kernel_rfl) h1
      refine ⟨BitVec.ofInt 8 z,fun _=>?_⟩
      have h0 : ((cs.toList.drop i).take 1)[0]?=some (.int .u8 z):=by
        have : (Value.agg cs).cells=cs:=rfl
        rw [this] at e1
        rw [e1];rfl
      rw [Hz hw]
      simpa using h0
    · exact ⟨0,fun h=>absurd h hi⟩
  let f : Nat→BitVec 8:=fun i=>Classical.choose (hk i)
  have hf : ∀ i,i<m→cs[i]?=some (U8 (f i)):=fun i=>Classical.choose_spec (hk i)
  refine ⟨(List.range m).map f,?_,by simp⟩
  congr 1
  apply Array.ext_getElem?
  intro i
  by_cases hi : i<m
  · rw [hf i hi]
    simp [hi]
  · rw [Array.getElem?_eq_none (by omega),Array.getElem?_eq_none (by simp;omega)]
theorem vQ {H : Type} {enc : TypeId × Value→H} {W : World} {base fuel : Nat} {v : Value} {x : DataW H × List MemPlace} (hok : Value.okWide Tryz.prog W .any base 23 v) (h : DataW.trod enc Tryz.prog W 0 (fun _=>true) true fuel 23 v.cells.toList=some x) :
    ∃ r : List (BitVec 8),v=.agg (r.map U8).toArray∧r.length=32:=GA (by kernel_rfl) (by kernel_rfl) hok h
def AY (zs : List Int) : List (BitVec 8):=zs.map (BitVec.ofInt 8)
theorem zG {H : Type} {enc : TypeId × Value→H} {W : World} {fuel : Nat} {v : Value} {x : DataW H × List MemPlace} (h : DataW.trod enc Tryz.prog W 0 (fun _=>true) true fuel 27 [v]=some x) : ∃ k : aM,v=k.v∧k.ok W∧k.cap≤maxLen:=by
  rcases open_ints (show Tryz.prog.underlying 27=some (.slice 5) by kernel_rfl) (show Tryz.prog.underlying 5=some (.int .u8) by kernel_rfl) (by kernel_rfl) h with ⟨hcs,_⟩ | ⟨x,l,c,zs,hcs,_,hl,hm,hz,_,hcell,hwz⟩
  · cases hcs
    exact ⟨⟨none,0,[]⟩,rfl,⟨by simp,Reads.nil _ _⟩,by decide⟩
  · cases hcs
    simp only [if_true] at hz
    have hlen : (AY (zs.take l)).length=l:=by simp [AY];omega
    refine ⟨⟨some x,c,AY (zs.take l)⟩,by simp [aM.v,hlen],⟨by rw [hlen];exact hl,?_⟩,hm⟩
    intro i v hv
    have hi : i<l:=by
      have:=(List.getElem?_eq_some_iff.1 hv).1
      simpa [hlen] using this
    have hc:=hcell i (by omega)
    obtain ⟨b,o,sp⟩:=x
    cases sp with
    | some s=>
      have hc:=hcell 0 (by omega)
      simp only [World.cell?,Addr.add,if_true] at hc
      split at hc <;> simp at hc
    | none=>
      refine ⟨b,o,rfl,?_⟩
      have e1 : zs.getD i 0=zs[i]'(by omega):=by simp [List.getD,show i<zs.length by omega]
      have e2:=Hz (hwz (zs[i]'(by omega)) (List.getElem_mem _))
      have e3 : v=.int .u8 (zs.getD i 0):=by
        simp only [AY,List.map_map,List.getElem?_map,List.getElem?_take] at hv
        rw [if_pos hi,List.getElem?_eq_getElem (by omega)] at hv
        simp only [Option.map_some,Function.comp,Option.some.injEq] at hv
        rw [← hv,e2,e1]
      rw [e3]
      have e4 : (⟨b,o,none⟩ : Addr).add i=⟨b,o+i,none⟩:=by
        unfold Addr.add
        split
        · subst i;rfl
        · rfl
      rw [e4] at hc
      exact hc
end
section
set_option maxRecDepth 10000
open Go.ChangeShapes Go.WideShapes Go.ChangeAt Go.RowKit
open Sl
set_option linter.unusedVariables false
end
section
set_option maxRecDepth 10000
open Go.ChangeShapes Go.WideShapes Go.ChangeAt Go.RowKit
open Sl mP
set_option linter.unusedVariables false
end
section
open Go.ChangeShapes Go.WideShapes Go.ChangeAt Go.RowKit
open Sl g5 lz
set_option linter.unusedVariables false
set_option maxRecDepth 100000
theorem kJ {P : Program} {w : World} {n : String} {d : DataW Unit} : ∀ {L : List (String × DataW Unit)} {ps : List MemPlace},DataW.LaidVars P w L ps→(n,d) ∈ L→
    ∃ g t cs fuel p,P.globalNamed n=some g∧(P.globals[g]?).map (·.type)=some t∧w.var? P n=some cs∧DataW.trod (fun _=>()) P w 0 (fun _=>true) false fuel t cs.toList=some (d,p)
  | [],_,_,h=>by cases h
  | (n',d')::L,ps,⟨g,t,cs,fuel,p,q,h1,h2,h3,h4,h5,_⟩,h=>by
    rcases List.mem_cons.1 h with h | h
    · cases h
      exact ⟨g,t,cs,fuel,p,h1,h2,h3,h4⟩
    · exact kJ h5 h
theorem vR {α : Type} {a b : List α} (n : Nat) (hl : a.length=n * 4) (hb : b.length=n * 4) (h : ∀ i<n,(a.drop (i * 4)).take 4=(b.drop (i * 4)).take 4) : a=b:=by
  apply List.ext_getElem?
  intro j
  by_cases hj : j<n * 4
  · have h1:=congrArg (·[j % 4]?) (h (j / 4) (by omega))
    simp only [List.getElem?_take,List.getElem?_drop,Nat.mod_lt j (by decide : 0<4),if_true] at h1
    rwa [show j / 4 * 4+j % 4=j by omega] at h1
  · rw [List.getElem?_eq_none (by omega),List.getElem?_eq_none (by omega)]
def mg (i : Nat) : DataW Unit:=Lib.tabData .i64 ((o4 i).map fun x : Nat=>(x : Int))
def Ji : DataW Unit:=.agg [mg 0,mg 1,mg 2,mg 3,mg 4,mg 5,mg 6,mg 7]
theorem K0 {W : World} {ps : List MemPlace} {L : List (String × DataW Unit)} (h : DataW.LaidVars Tryz.prog W L ps) (hm : ("despatch/stream.quarters",Ji) ∈ L) : GQ W:=by
  obtain ⟨g,t,cs,fuel,p,h1,h2,h3,h4⟩:=kJ h hm
  have hg : Tryz.prog.globalNamed "despatch/stream.quarters" = some 0:=by kernel_rfl
  obtain rfl:=Option.some.inj (hg.symm.trans h1)
  obtain rfl:=Option.some.inj ((show (Tryz.prog.globals[0]?).map (·.type)=some 161 by kernel_rfl).symm.trans h2)
  obtain ⟨xs,m,_,ex,hlen,hl,hel⟩:=DataW.trod_array (show Tryz.prog.underlying 161=some (.array 8 160) by kernel_rfl) h4
  have c4 : Tryz.prog.cellsOf 160=4:=by kernel_rfl
  have c32 : Tryz.prog.cellsOf 161=32:=by kernel_rfl
  rw [c32] at hlen
  have hxs : xs.map (·.1)=[mg 0,mg 1,mg 2,mg 3,mg 4,mg 5,mg 6,mg 7]:=by
    have:=congrArg Prod.fst ex
    simpa [Ji] using this.symm
  have hcs : cs.toList=qp.map N:=by
    refine vR 8 hlen rfl fun i hi=>?_
    have h5:=hel i hi
    rw [c4] at h5
    have h6 : (xs.map (·.1))[i]?=some (mg i):=by
      rw [hxs]
      have : i=0∨i=1∨i=2∨i=3∨i=4∨i=5∨i=6∨i=7:=by omega
      rcases this with rfl | rfl | rfl | rfl | rfl | rfl | rfl | rfl <;> rfl
    rw [List.getElem?_map] at h6
    obtain ⟨y,hy,hy1⟩:=Option.map_eq_some_iff.1 h6
    rw [hy] at h5
    obtain ⟨y1,y2⟩:=y
    subst hy1
    have h7:=Lib.cells_of_tab (show Tryz.prog.underlying 160=some (.array 4 3) by kernel_rfl) (show Tryz.prog.underlying 3=some (.int .i64) by kernel_rfl) (by kernel_rfl) c4 h5
    rw [h7,GY i hi,List.map_map]
    rfl
  unfold World.var? at h3
  rw [hg] at h3
  simp only [Option.bind_some] at h3
  split at h3
  · rename_i cs' e fr hb
    obtain rfl:=Option.some.inj h3
    refine ⟨e,fr,?_⟩
    rw [hb,← hcs]
  · cases h3
theorem Jj {W : World} {ps : List MemPlace} {L : List (String × DataW Unit)} (h : DataW.LaidVars Tryz.prog W L ps) (hm : ("despatch/hash.rounds",Lib.tabData .u32 (K.map fun x=>(x.toNat : Int))) ∈ L) : g7 W:=by
  obtain ⟨g,t,cs,fuel,p,h1,h2,h3,h4⟩:=kJ h hm
  have hg : Tryz.prog.globalNamed "despatch/hash.rounds" = some 1:=by kernel_rfl
  obtain rfl:=Option.some.inj (hg.symm.trans h1)
  obtain rfl:=Option.some.inj ((show (Tryz.prog.globals[1]?).map (·.type)=some 134 by kernel_rfl).symm.trans h2)
  have hcs:=Lib.cells_of_tab (show Tryz.prog.underlying 134=some (.array 64 95) by kernel_rfl) (show Tryz.prog.underlying 95=some (.int .u32) by kernel_rfl) (by kernel_rfl) (by kernel_rfl) h4
  unfold World.var? at h3
  rw [hg] at h3
  simp only [Option.bind_some] at h3
  split at h3
  · rename_i cs' e fr hb
    obtain rfl:=Option.some.inj h3
    refine ⟨e,fr,?_⟩
    rw [hb]
    have : cs'=(cs'.toList).toArray:=by simp
    rw [this,hcs,List.map_map]
    rfl
  · cases h3
theorem sL : ((Rows.ratchetDecryptsRow.laid).all fun x=>x.2.handleName?.isNone)=true:=by kernel_rfl
theorem GB : Rows.ratchetDecryptsRow.laid=[("despatch/hash.rounds",Lib.tabData .u32 (K.map fun x=>(x.toNat : Int))),("despatch/stream.quarters",Ji)]:=by kernel_rfl
theorem oS {W : World} (h : laidMetH Tryz.prog Rows.ratchetDecryptsRow.laid W) : g7 W∧GQ W:=by
  rw [MakeChecks.laidMetH_plain _ _ _ sL,GB] at h
  obtain ⟨ps,h,_⟩:=h
  exact ⟨Jj h (by simp),K0 h (by simp)⟩
theorem GC (os : Os) (args : Array Value) : laidMetH Tryz.prog Rows.ratchetDecryptsRow.laid ((World.laidAll Tryz.prog os Rows.ratchetDecryptsRow.laid).forCall (fun _ _=>0) ⟨#[],args,[]⟩).memory:=by
  rw [MakeChecks.laidMetH_plain _ _ _ sL]
  exact laidMet_laidAll _ (by kernel_rfl) (by kernel_rfl)
theorem Cx (os : Os) : (World.laidAll Tryz.prog os Rows.ratchetDecryptsRow.laid).Shaped Tryz.prog:=World.shaped_of_ZipB (by kernel_rfl) (by kernel_rfl)
end
end Go.Proofs.YtgkninhgcpbfnaaGreatDoor
