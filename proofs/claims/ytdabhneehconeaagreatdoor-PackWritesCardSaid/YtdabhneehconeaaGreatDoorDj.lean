/-
  Of no statement by itself: the texts PkF, PkG, PkP, Plain, FieP, EnvP in one.
  Conditions: each theorem's own.
-/
import Derived.Test.YtdabhneehconeaaGreatDoorDi
import Derived.Test.YtdabhneehconeaaGreatDoorProg
import Derived.Test.YtdabhneehconeaaGreatDoorRows
import Derived.ProofKit
import Derived.OpenShut
import Derived.Below
import Derived.Stop.Joined
import Derived.ChangeMaps5
import Derived.Deep.SlicePairs
import Derived.Test.YtdabhneehconeaaGreatDoorTie
import Derived.SevenTiedAt
import Derived.LaidMore
import Derived.Lay
set_option linter.unusedSimpArgs false
set_option linter.unusedVariables false
set_option maxRecDepth 10000
set_option maxHeartbeats 64000000
open Go.Proofs.YtdabhneehconeaaGreatDoor.YY
namespace Go.Proofs.YtdabhneehconeaaGreatDoor
section
open Sl aq Tok gZ zo
theorem xo:aJ Tryz.prog 6:=⟨_,Tryz.func6,rfl,by kernel_rfl⟩
def tw(th:List Bt):kG:=⟨[97,64,98],[99,64,100],[49,64,97],th,false,aB,aB⟩
theorem Mb(th:List Bt)(w:World):(tw th).ok w:=⟨dN w,dN w⟩
theorem Gt{th:List Bt}(h:th.length<=300):(tw th).low:=⟨by show 3<=300;decide,by show 3<=300;decide,by show 3<=300;decide,h,by show 0<=3000;decide,by show 0<=4000;decide⟩
theorem Mc:gC (tw [116]).en=true:=by decide +kernel
theorem Md:gC (tw [116,32,117]).en=false:=by decide +kernel
theorem SH(Qe:List aq.By->List aq.By):qT Qe (tw [116]).en=.ok (aG (tw [116]).en++bB (tw [116]).en,eY (tw [116]).en):=OA Qe Mc (by show 0<=10000;decide) (by show 0<=3000;decide)
theorem SI(Qe:List aq.By->List aq.By):qT Qe (tw [116,32,117]).en=.error 3:=by
 unfold qT
 rw[if_neg (by show ¬ (1049600<0\/3000<0);decide),if_pos Md]
theorem Oo:(aG (tw [116]).en++bB (tw [116]).en).length=5:=by decide +kernel
theorem AD(w:World)(hE:fz w)(hR:jj w):Calls Tryz.prog 6 ([]:List Value).toArray w fun e w'=>e=.returned (.bool true)/\Ext w w':=by
 have c1:=fun (M:List aL) (w':World) (hw':aa w [] M w')=>pH (fun b=>b) (tw [116]) w' (Mb _ _) (Gt Y610) (hE.holds hw') (hR.holds hw')
 have c2:=fun (M:List aL) (w':World) (hw':aa w [] M w')=>pH (fun b=>b) (tw [116,32,117]) w' (Mb _ _) (Gt Y610) (hE.holds hw') (hR.holds hw')
 rw[SH] at c1
 rw[SI] at c2
 have h5:=Oo
 generalize aG (tw [116]).en++bB (tw [116]).en=L at c1 h5
 generalize eY (tw [116]).en=B at c1
 refine enter (n:=30) Tryz.func6 rfl rfl rfl (aa.start w []) ?_
 refine Y3 ?_
 refine JL.q (v:=.agg (tw [116]).cs.toArray) (OQ.pure rfl rfl Y636) rfl ?_
 refine JL.alloc Q7 rfl fun b1 _=>?_
 refine JL.ax (cs:=(tw [116]).cs) oX rfl rfl rfl rfl .here rfl ?_
 repeat(first|refine JL.q (by(apply OQ.aF (cs:=(tw [116]).cs);exact w9;exact oX;rfl;exact .here;rfl;exact Row.all)) rfl ?_|refine Y133 ?_)
 refine JL.bD (ι:=W2 (.ok (L,B))) (vs:=[.agg (tw [116]).cs.toArray]) (fun y=>.tuple #[.agg #[y.f.v,y.s.v],N 0]) (fun y=>y.an) nJ rfl rfl (fun y=>y.wr) (c1 _) ?_
 intro y
 have hy:y.f.l.length=5:=by rw[y.hf];exact h5
 refine JL.less (M':=[⟨b1,Row 24 (tw [116]).cs,true⟩]) (aS _ (aj.refl _)) ?_
 refine Y285 ?_
 refine JL.alloc iB rfl fun b2 _=>?_
 refine Y298 ?_
 refine Y218 ?_
 refine JL.aP (v:=Z [116,32,117]) (r':=(tw [116,32,117]).cs) w8 rfl rfl rfl rfl (.there .here) (show 3<7 by decide) rfl ?_
 repeat(first|refine JL.q (by(apply OQ.aF (cs:=(tw [116,32,117]).cs);exact w9;exact oX;rfl;exact(.there .here);rfl;exact Row.all)) rfl ?_|refine Y133 ?_)
 refine JL.bD (ι:=W2 (.error 3)) (vs:=[.agg (tw [116,32,117]).cs.toArray]) (fun y=>.tuple #[.agg #[y.f.v,y.s.v],N 3]) (fun y=>y.an) nJ rfl rfl (fun y=>y.wr) (c2 _) ?_
 intro z
 refine JL.less (M':=[⟨b2,Row 29 [y.f.v,y.s.v],true⟩,⟨b1,Row 24 (tw [116,32,117]).cs,true⟩]) (aS _ (aj.refl _)) ?_
 refine Y285 ?_
 refine JL.alloc iB rfl fun b3 _=>?_
 refine JL.ax (cs:=[z.f.v,z.s.v]) aZ rfl rfl rfl rfl .here rfl ?_
 have h0:decide (((0:Nat):Int)=0)=true:=rfl
 have h3:decide (((3:Nat):Int)=3)=true:=rfl
 have hl:decide ((y.f.l.length:Int)=5)=true:=decide_eq_true Y609
 repeat(first|refine JL.q (by first|(apply OQ.ep (a:=((0:Nat):Int)) (b:=0);rfl;rfl;exact h0)|(apply OQ.load;exact qM;rfl;exact(.there .here);exact(Row.cell (v:=y.f.v) rfl))|exact Y386|(apply OQ.ep (a:=(y.f.l.length:Int)) (b:=5);rfl;rfl;exact hl)|(apply OQ.ep (a:=((3:Nat):Int)) (b:=3);rfl;rfl;exact h3)|exact Y330|exact Y323|exact Y324|exact Y377) rfl ?_|refine JC.seq ?_|refine JC.region ?_|refine JL.nil ?_|refine JE.next ?_|refine JL.bG rfl rfl ?_)
 refine Y247 ?_
 skip
 exact Y248
theorem tc:aJ Tryz.prog 11:=⟨_,Tryz.func11,rfl,by kernel_rfl⟩
structure Me (a b:List Bt) where
 x:{ y:ay // iP y a }
 y:{ y:ay // iP y b }
instance {a b:List Bt}:Inhabited (Me a b):=⟨⟨⟨⟨some ⟨0,0,none⟩,0,a⟩,rfl,nofun⟩,⟨⟨some ⟨0,0,none⟩,0,b⟩,rfl,nofun⟩⟩⟩
theorem Oq(e:kG)(h:e.low):(kZ e.en).length<=1300:=by
 rw[<- CO]
 exact CP e h 4
theorem xp:aJ Tryz.prog 10:=⟨_,Tryz.func10,rfl,by kernel_rfl⟩
theorem CZ:aJ Tryz.prog 13:=⟨_,Tryz.func13,rfl,by kernel_rfl⟩
theorem xq:aJ Tryz.prog 15:=⟨_,Tryz.func15,rfl,by kernel_rfl⟩
theorem C0(Qe:List aq.By->List aq.By){e:jo}(hc:e.ci.length<=3000):(∃ k,k≠0/\qT Qe e=.error k)\/(gC e=true/\e.bu.length<=3000/\qT Qe e=.ok (aG e++bB e,eY e)):=by
 by_cases h1:1049600<e.ci.length\/3000<e.bu.length
 · exact .inl ⟨4,by decide,by unfold qT;rw[if_pos h1]⟩
 cases h2:gC e
 · exact .inl ⟨3,by decide,by unfold qT;rw[if_neg h1,if_pos h2]⟩
 · exact .inr ⟨rfl,by omega,OA Qe h2 Y609 Y609⟩
theorem QZ(Qe:List aq.By->List aq.By){e:jo}(hc:e.ci.length<=3000)(h1:e.fr.length<=300)(h2:e.to.length<=300):(Ew (qT Qe e)).length<=7/\(Ex (qT Qe e)).length<=15000:=by
 rcases C0 Qe hc with⟨k,_,h⟩|⟨hr,hb,h⟩
 · rw[h];exact⟨Nat.zero_le _,Nat.zero_le _⟩
 · rw[h]
   have:=OB hr hc hb h1 h2
   exact⟨this.Rv,this.body⟩
theorem wQ(e:kG)(w:World)(he:e.ok w)(hE:fz w)(hR:jj w):Calls Tryz.prog 3 [.agg e.cs.toArray].toArray w fun x w'=>x=.returned (.bool true)/\Ext w w':=by
 refine enter (n:=83) Tryz.func3 rfl rfl rfl (aa.start w []) ?_
 refine JC.seq (JC.region (JL.box (r:=e.cs) rfl rfl rfl fun b1 _=>?_))
 have cs:=fun w' (h1:fz w') (h2:jj w')=>AD w' h1 h2
 repeat(first|refine JL.q (by first|(apply OQ.ai (vs:=[]);exact xo;rfl;exact(fun w' hw'=>cs w' (hE.holds hw') (hR.holds hw')))|exact Y329|exact Y324) rfl ?_|refine JC.seq ?_|refine JC.region ?_|refine JL.nil ?_|refine JE.next ?_)
 refine Y245 ?_
 clear cs
 have k1:=BM e
 cases h1:vw e
 rotate_left
 · rw[h1] at k1
   repeat(first|refine JL.q (by first|exact Y607|exact Y608) rfl ?_|refine Y196 ?_)
   refine Y246 ?_
   refine Y3 ?_
   refine Y247 ?_
   refine Y250 ?_
   exact Y248
 rw[h1] at k1
 have lo:=Ho h1
 repeat(first|refine JL.q (by first|exact Y607|exact Y608) rfl ?_|refine Y196 ?_)
 refine Y245 ?_
 clear k1 h1
 have cA:=fun (M:List aL) (w':World) (hw':aa w [] M w')=>pH (fun b=>b) e w' (he.holds hw') lo (hE.holds hw') (hR.holds hw')
 have cB:=fun (M:List aL) (w':World) (hw':aa w [] M w')=>Og (fun b=>b) e w' (he.holds hw') lo
 have hcs:=C0 (fun b=>b) (e:=e.en) Y766
 obtain⟨f7,f15⟩:=QZ (fun b=>b) (e:=e.en) Y766 lo.fr lo.to
 generalize qT (fun b=>b) e.en=R at *
 repeat(first|refine JL.q (by exact Y607) rfl ?_|refine Y197 ?_)
 refine JL.bD (ι:=W2 R) (vs:=[.agg e.cs.toArray]) (fun y=>.tuple #[.agg #[y.f.v,y.s.v],N (dG R)]) (fun y=>y.an) nJ rfl rfl (fun y=>y.wr) (cA _) ?_
 intro y
 refine Y285 ?_
 refine JL.alloc iB rfl fun b3 _=>?_
 refine Y298 ?_
 refine JL.perm (M':=⟨b3,Row 29 [y.f.v,y.s.v],true⟩::⟨b1,Row 24 e.cs,true⟩::y.an) ?_ (List.Perm.cons _ (List.perm_append_comm (l₂:=[_])))
 repeat(first|refine JL.q (by exact Y570) rfl ?_|refine Y20 ?_)
 refine JL.bD (ι:=W2 R) (vs:=[.agg e.cs.toArray]) (fun y=>.tuple #[.agg #[y.f.v,y.s.v],N (dG R)]) (fun y=>y.an) L1 rfl rfl (fun y=>y.wr) (cB _) ?_
 intro z
 refine JL.perm (M':=⟨b3,Row 29 [y.f.v,y.s.v],true⟩::⟨b1,Row 24 e.cs,true⟩::(z.an++y.an)) ?_ (bA _ [_,_] _)
 refine Y285 ?_
 refine JL.alloc iB rfl fun b5 _=>?_
 refine JL.ax (cs:=[z.f.v,z.s.v]) aZ rfl rfl rfl rfl .here rfl ?_
 clear cA cB
 have yf:y.f.l=Ew R:=y.hf
 have ys:y.s.l=Ex R:=y.hs
 have zf:z.f.l=Ew R:=z.hf
 have zs:z.s.l=Ex R:=z.hs
 have nb:=Oq e lo
 have ca:=fun (M:List aL) (w':World) (_:aa w [] M w')=>Od e w' lo
 have cb:=fun (M:List aL) (w':World) (_:aa w [] M w')=>L0 e w' lo
 refine Y159 ?_
 let vs:Nat->Me (kZ e.en) (kZ e.en)->Value:=fun j q=>match j with
  | 0=>N (dG R)
  | 1=>N (dG R)
  | 4=>Pt b3 0
  | 5=>y.f.v
  | 6=>Pt b5 0
  | 7=>z.f.v
  | 8=>.bool true
  | 12=>Pt b3 1
  | 13=>y.s.v
  | 14=>Pt b5 1
  | 15=>z.s.v
  | 16=>.bool true
  | 20=>.agg e.cs.toArray
  | 21=>q.x.1.v
  | 22=>.agg e.cs.toArray
  | 23=>q.y.1.v
  | 24=>.bool true
  | _=>.bool false
 let Ms:Nat->Me (kZ e.en) (kZ e.en)->List aL:=fun j q=>match j with
  | 21=>q.x.1.an
  | 23=>q.y.1.an
  | 27=>[⟨b5,Row 29 [z.f.v,z.s.v],true⟩]
  | 28=>[⟨b3,Row 29 [y.f.v,y.s.v],true⟩]
  | 29=>[⟨b1,Row 24 e.cs,true⟩]
  | 30=>z.an
  | 31=>y.an
  | _=>[]
 have hkk:decide (((dG R:Nat):Int)=((dG R:Nat):Int))=true:=decide_eq_true rfl
 refine JC.nt (g:=⟨[(1,Pt b1 0),(3,Pt b3 0),(4,N (dG R)),(5,Pt b5 0),(6,N (dG R))],32,vs,Ms,(fun j=>match j with
  | 2=>[(0,25),(1,26)]|3=>[(2,27)]|4=>[(3,28)]|5=>[(4,29),(3,28)]|6=>[(3,28)]|7=>[(6,31),(3,28)]|8=>[(5,30),(7,32),(3,28)]|9=>[(8,33),(3,28)]|10=>[(3,28),(9,34)]|11=>[(10,35)]|12=>[(11,36)]|13=>[(12,37),(11,36)]|14=>[(11,36)]|15=>[(14,39),(11,36)]|16=>[(13,38),(15,40),(11,36)]|17=>[(16,41),(11,36)]|18=>[(11,36),(17,42)]|19=>[(18,43)]|20=>[(19,44)]|21=>[(20,45),(19,44)]|22=>[(19,44)]|23=>[(22,47),(19,44)]|24=>[(21,46),(23,48),(19,44)]|25=>[(24,49),(19,44)]|26=>[(19,44),(25,50)]|_=>[]),(fun j=>match j with|5=>[28]|7=>[27]|8=>[30,31]|13=>[28]|15=>[27]|16=>[30,31]|20=>[29]|22=>[29]|24=>[21,23]|_=>[]),fun _=>[],fun _=>none,fun _=>[],fun _ _ _=>True⟩) [(26,51)] [28,29,31] xb Y640 (fun _ _=>.nil) (kH (by show _::_::_::(z.an++(y.an++[]))=_;rw[List.append_nil])) Y636 Y636 Y636 ?_ ?_
 · refine⟨?_,?_,?_,?_,?_,?_,?_,?_,?_,?_,?_,?_,?_,?_,?_,?_,?_,?_,?_,?_,?_,?_,?_,?_,?_,?_,?_,trivial⟩
   · (intro x EF MF Q kk;(try refine JL.bG rfl rfl ?_);exact JL.q Y652 rfl (JL.nil (kk default nofun)))
   · (intro x EF MF Q kk;(try refine JL.bG rfl rfl ?_);exact JL.q Y652 rfl (JL.nil (kk default nofun)))
   · (intro x EF MF Q kk;exact JL.q (OQ.fh (a:=((dG R:Nat):Int)) (b:=((dG R:Nat):Int)) rfl rfl hkk) rfl (JL.nil (kk default nofun)))
   · (intro x EF MF Q kk;(try refine JL.bG rfl rfl ?_);exact JL.q Y652 rfl (JL.nil (kk default nofun)))
   · (intro x EF MF Q kk;refine JL.bG rfl rfl ?_;exact JL.q (OQ.ov (o:=0) rfl rfl rfl Y610 rfl rfl) rfl (JL.nil (kk default nofun)))
   · (intro x EF MF Q kk;refine JL.bG rfl rfl ?_;exact JL.q (OQ.load qM rfl .here (Row.cell (v:=y.f.v) rfl)) rfl (JL.nil (kk default nofun)))
   · (intro x EF MF Q kk;refine JL.bG rfl rfl ?_;exact JL.q (OQ.ov (o:=0) rfl rfl rfl Y610 rfl rfl) rfl (JL.nil (kk default nofun)))
   · (intro x EF MF Q kk;refine JL.bG rfl rfl ?_;exact JL.q (OQ.load qM rfl .here (Row.cell (v:=z.f.v) rfl)) rfl (JL.nil (kk default nofun)))
   · intro x EF MF Q kk
     refine JL.bG rfl rfl ?_
     refine JL.q (OQ.ai (vs:=[y.f.v,z.f.v]) xp rfl (fun w' hw'=>?_)) rfl (JL.nil (kk default nofun))
     have h1:aa w [] ((z.an++(y.an++[]))++MF) w':=hw'
     rw[List.append_nil,List.append_assoc] at h1
     have h2:aa w [] (y.f.an++(y.s.an++MF)) w':=by
      have:=Sl.aa.weak h1 (aS _ (aj.refl _))
      rw[W2.an,List.append_assoc] at this
      exact this
     have h3:aa w [] (z.f.an++(z.s.an++(y.an++MF))) w':=by
      rw[W2.an,List.append_assoc] at h1
      exact h1
     have:=DG y.f z.f w' (gm.bU h2 y.nf) (gm.bU h3 z.nf) (by rw[yf];omega) (by rw[zf];omega)
     rw[yf,zf,decide_eq_true rfl] at this
     exact this
   · (intro x EF MF Q kk;refine JL.bG rfl rfl ?_;exact JL.q (OQ.not rfl) rfl (JL.nil (kk default nofun)))
   · (intro x EF MF Q kk;exact JL.q (OQ.av rfl rfl) rfl (JL.nil (kk default nofun)))
   · (intro x EF MF Q kk;(try refine JL.bG rfl rfl ?_);exact JL.q Y652 rfl (JL.nil (kk default nofun)))
   · (intro x EF MF Q kk;refine JL.bG rfl rfl ?_;exact JL.q (OQ.ov (o:=1) rfl rfl rfl Y610 rfl rfl) rfl (JL.nil (kk default nofun)))
   · (intro x EF MF Q kk;refine JL.bG rfl rfl ?_;exact JL.q (OQ.load jr rfl .here (Row.cell (v:=y.s.v) rfl)) rfl (JL.nil (kk default nofun)))
   · (intro x EF MF Q kk;refine JL.bG rfl rfl ?_;exact JL.q (OQ.ov (o:=1) rfl rfl rfl Y610 rfl rfl) rfl (JL.nil (kk default nofun)))
   · (intro x EF MF Q kk;refine JL.bG rfl rfl ?_;exact JL.q (OQ.load jr rfl .here (Row.cell (v:=z.s.v) rfl)) rfl (JL.nil (kk default nofun)))
   · intro x EF MF Q kk
     refine JL.bG rfl rfl ?_
     refine JL.q (OQ.ai (vs:=[y.s.v,z.s.v]) tc rfl (fun w' hw'=>?_)) rfl (JL.nil (kk default nofun))
     have h1:aa w [] ((z.an++(y.an++[]))++MF) w':=hw'
     rw[List.append_nil,List.append_assoc] at h1
     have h2:aa w [] (y.f.an++(y.s.an++MF)) w':=by
      have:=Sl.aa.weak h1 (aS _ (aj.refl _))
      rw[W2.an,List.append_assoc] at this
      exact this
     have h3:aa w [] (z.f.an++(z.s.an++(y.an++MF))) w':=by
      rw[W2.an,List.append_assoc] at h1
      exact h1
     have:=nk y.s z.s w' (ay.bU (Sl.aa.weak h2 (aS _ (aj.refl _))) y.ns) (ay.bU (Sl.aa.weak h3 (aS _ (aj.refl _))) z.ns) (by rw[ys];omega)
     rw[ys,zs,decide_eq_true rfl] at this
     exact this
   · (intro x EF MF Q kk;refine JL.bG rfl rfl ?_;exact JL.q (OQ.not rfl) rfl (JL.nil (kk default nofun)))
   · (intro x EF MF Q kk;exact JL.q (OQ.av rfl rfl) rfl (JL.nil (kk default nofun)))
   · (intro x EF MF Q kk;(try refine JL.bG rfl rfl ?_);exact JL.q Y652 rfl (JL.nil (kk default nofun)))
   · (intro x EF MF Q kk;refine JL.bG rfl rfl ?_;exact JL.q (OQ.aF (cs:=e.cs) w9 oX rfl .here rfl Row.all) rfl (JL.nil (kk default nofun)))
   · (intro x EF MF Q kk;refine JL.bG rfl rfl ?_;exact JL.bD (ι:={ y:ay // iP y (kZ e.en) }) (vs:=[.agg e.cs.toArray]) (fun y=>y.1.v) (fun y=>y.1.an) LZ rfl rfl (fun y=>y.1.bH) (ca _) fun y=>JL.nil (kk ⟨y,(default:Me (kZ e.en) (kZ e.en)).y⟩ nofun))
   · (intro x EF MF Q kk;refine JL.bG rfl rfl ?_;exact JL.q (OQ.aF (cs:=e.cs) w9 oX rfl .here rfl Row.all) rfl (JL.nil (kk default nofun)))
   · (intro x EF MF Q kk;refine JL.bG rfl rfl ?_;exact JL.bD (ι:={ y:ay // iP y (kZ e.en) }) (vs:=[.agg e.cs.toArray]) (fun y=>y.1.v) (fun y=>y.1.an) CZ rfl rfl (fun y=>y.1.bH) (cb _) fun y=>JL.nil (kk ⟨(default:Me (kZ e.en) (kZ e.en)).x,y⟩ nofun))
   · intro x EF MF Q kk
     refine JL.bG rfl rfl ?_
     refine JL.q (OQ.ai (vs:=[(x 21).x.1.v,(x 23).y.1.v]) tc rfl (fun w' hw'=>?_)) rfl (JL.nil (kk default nofun))
     have h1:aa w [] (((x 21).x.1.an++((x 23).y.1.an++[]))++MF) w':=hw'
     rw[List.append_nil,List.append_assoc] at h1
     have:=nk (x 21).x.1 (x 23).y.1 w' (ay.bU h1 (x 21).x.2.none) (ay.bU (Sl.aa.weak h1 (aS _ (aj.refl _))) (x 23).y.2.none) (by rw[(x 21).x.2.val];omega)
     rw[(x 21).x.2.val,(x 23).y.2.val,decide_eq_true rfl] at this
     exact this
   · (intro x EF MF Q kk;refine JL.bG rfl rfl ?_;exact JL.q (OQ.not rfl) rfl (JL.nil (kk default nofun)))
   · (intro x EF MF Q kk;exact JL.q (OQ.av rfl rfl) rfl (JL.nil (kk default nofun)))
 intro x _
 show JE _ _ _ _ _ [(51,.bool false),(1,Pt b1 0),(3,Pt b3 0),(4,N (dG R)),(5,Pt b5 0),(6,N (dG R))] (⟨b3,Row 29 [y.f.v,y.s.v],true⟩::⟨b1,Row 24 e.cs,true⟩::(y.an++[]))
 clear ca cb
 repeat(refine JE.next ?_)
 refine Y245 ?_
 rcases hcs with⟨k,hk,hRk⟩|⟨hri,hbu,hRk⟩
 · have hk0:dG R=k:=by rw[hRk];rfl
   have g0:decide ((k:Int)=0)=false:=decide_eq_false Y609
   rw[hk0]
   repeat(first|refine JL.q (by exact Y604) rfl ?_|refine Y68 ?_)
   refine Y246 ?_
   refine Y3 ?_
   refine Y247 ?_
   refine Y250 ?_
   exact Y248
 have WI:=OB hri Y766 hbu lo.fr lo.to
 have wk:=WI.k
 have wl:=WI.len
 have wf:=WI.Rv
 have wb:=WI.body
 have wv:=WI.vals
 have wr:=WI.read gv.Qd
 have hrb:=lV wk
 have yf:y.f.l=aG e.en++bB e.en:=yf.trans (congrArg Ew hRk)
 have ys:y.s.l=eY e.en:=ys.trans (congrArg Ex hRk)
 have hk0:dG R=0:=by rw[hRk];rfl
 rw[hk0]
 clear WI
 generalize aG e.en++bB e.en=L at yf wk wl wf wv wr hrb
 generalize eY e.en=B at ys wk wl wb wr hrb
 have h00:decide (((0:Nat):Int)=0)=true:=rfl
 repeat(first|refine JL.q (by exact Y524) rfl ?_|refine Y68 ?_)
 refine Y245 ?_
 have okf:∀ {w':World},aa w [] (⟨b3,Row 29 [y.f.v,y.s.v],true⟩::⟨b1,Row 24 e.cs,true⟩::(y.an++[])) w'->y.f.ok w'/\y.s.ok w':=fun {w'} h=>by
  have h2:aa w [] (y.f.an++(y.s.an++[])) w':=by
   have:=Sl.aa.weak h (.drop _ _ _ (.drop _ _ _ (aj.refl _)))
   rw[W2.an,List.append_assoc] at this
   exact this
  exact⟨gm.bU h2 y.nf,ay.bU (Sl.aa.weak h2 (aS _ (aj.refl _))) y.ns⟩
 have hsm:fX y.f:=fun p hp=>by rw[yf] at hp;have:=wv p hp;omega
 have cp:∀ w',aa w [] (⟨b3,Row 29 [y.f.v,y.s.v],true⟩::⟨b1,Row 24 e.cs,true⟩::(y.an++[])) w'->Calls Tryz.prog 14 [.agg #[y.f.v,y.s.v]].toArray w' fun x w2=>∃ q:{ x:kG // x.en=e.en },x=.returned (.tuple #[.agg q.1.cs.toArray,N 0])/\Ext w' w2/\q.1.ok w2:=fun w' hw'=>by
  have:=yX y.f y.s w' (hE.holds hw') (hR.holds hw') (okf hw').1 (okf hw').2 hsm (by rw[yf];omega) (by rw[ys];omega) (fun p hp=>by rw[yf] at hp;have:=wv p hp;omega)
  rw[yf,ys,wr] at this
  exact this
 refine Y221 ?_
 refine JL.RL (vs:=[.agg #[y.f.v,y.s.v]]) (ι:={ x:kG // x.en=e.en }) (fun q=>.tuple #[.agg q.1.cs.toArray,N 0]) (fun q w2=>q.1.ok w2) wP rfl rfl (fun w' hw'=>(cp w' hw').mono fun x w2 ⟨q,h1,h2,h3⟩=>⟨q,h1,h2,h3⟩) ?_
 rintro⟨q,hq⟩ w1 hw1 okq
 have hx1:Ext w w1:=hw1.aH
 have oke:=he.holds hw1
 obtain⟨ok1,Mo⟩:=okf hw1
 replace hE:=hE.holds hw1
 replace hR:=hR.holds hw1
 clear hw1 okf cp he
 dsimp only at okq⊢
 refine JL.less (M':=[⟨b3,Row 29 [y.f.v,y.s.v],false⟩,⟨b1,Row 24 e.cs,false⟩]) (.keep _ _ _ _ _ _ (fun _ h=>h) (.keep _ _ _ _ _ _ (fun _ h=>h) (.nil _))) ?_
 refine Y285 ?_
 refine JL.alloc Q7 rfl fun b7 _=>?_
 refine JL.ax (cs:=q.cs) oX rfl rfl rfl rfl .here rfl ?_
 have cl:∀ (M:List aL) (w':World),aa w1 [] M w'->Calls Tryz.prog 15 [.agg #[y.f.v,y.s.v]].toArray w' fun x w2=>∃ z:{ z:ay // iP z (bt L B) },x=.returned (.tuple #[z.1.v,N 0])/\aa w' [] z.1.an w2:=fun M w' hw'=>by
  have:=nF y.f y.s w' (ok1.holds hw' rfl) (Mo.holds hw' rfl) hsm (by rw[yf];omega) (by rw[ys];omega)
  rw[yf,ys,wk] at this
  exact this
 repeat(first|refine JL.q (by(apply OQ.aF (cs:=[y.f.v,y.s.v]);exact c7;exact aZ;rfl;exact(.there .here);rfl;exact Row.all)) rfl ?_|refine Y20 ?_)
 refine JL.bD (ι:={ z:ay // iP z (bt L B) }) (vs:=[.agg #[y.f.v,y.s.v]]) (fun z=>.tuple #[z.1.v,N 0]) (fun z=>z.1.an) xq rfl rfl (fun z=>z.1.bH) (cl _) ?_
 rintro⟨z',hz'⟩
 dsimp only
 refine JL.perm (M':=⟨b7,Row 24 q.cs,true⟩::⟨b3,Row 29 [y.f.v,y.s.v],false⟩::⟨b1,Row 24 e.cs,false⟩::(z'.an++[])) ?_ (by rw[List.append_nil];exact List.perm_append_comm (l₂:=[_,_,_]))
 have zl:=hz'.val
 have zn:=hz'.none
 clear cl hz'
 have hsea:On z'.l=!e.pl:=by
  unfold On
  rw[zl,hrb]
  show Om (wZ gv.Qd L B)=_
  rw[wr]
  rfl
 have hbl:q.bu.l=e.bu.l:=congrArg jo.bu hq
 have hcl:q.ci.l=e.ci.l:=congrArg jo.ci hq
 have hl5:=lo.bu
 have hl6:=lo.ci
 have csm:=fun (M:List aL) (w':World) (hw':aa w1 [] M w')=>CW q e w' (okq.holds hw') (oke.holds hw') hq (by rw[hbl];omega) (by rw[hcl];omega)
 have csl:∀ w',aa w1 [] (⟨b7,Row 24 q.cs,true⟩::⟨b3,Row 29 [y.f.v,y.s.v],false⟩::⟨b1,Row 24 e.cs,false⟩::(z'.an++[])) w'->Calls Tryz.prog 17 [z'.v].toArray w' fun x w2=>x=.returned (.bool (!e.pl))/\Ext w' w2:=fun w' hw'=>by
  have:=Ma z' w' (hE.holds hw') (hR.holds hw') (ay.bU (Sl.aa.weak hw' (.drop _ _ _ (.drop _ _ _ (.drop _ _ _ (aj.refl _))))) zn) (by rw[zl];omega)
  rw[hsea] at this
  exact this
 repeat(first|refine JL.q (by first|exact Y426|exact Y323|exact Y324) rfl ?_|refine JC.seq ?_|refine JL.nil ?_|refine JE.next ?_)
 refine JC.quiet xb Y636 ?_
 repeat(first|refine JQ.q (by first|(apply OQ.ep (a:=((0:Nat):Int)) (b:=0);rfl;rfl;exact h00)|(apply OQ.aF (cs:=q.cs);exact w9;exact oX;rfl;exact .here;rfl;exact Row.all)|(apply OQ.aF (cs:=e.cs);exact w9;exact oX;rfl;exact(.there (.there .here));rfl;exact Row.all)|(apply OQ.ai (vs:=[.agg q.cs.toArray,.agg e.cs.toArray]);exact Ay;rfl;exact(csm _))|(apply OQ.ai (vs:=[z'.v]);exact Az;rfl;exact csl)|exact Y566|exact Y329|(apply OQ.SA;exact Tryz.underlying4;rfl;rfl)|exact Y330|exact Y323|exact Y324|exact Y377) rfl ?_|refine JQ.nil ?_|refine JE.next ?_|refine JQ.bG rfl rfl ?_)
 refine Y247 ?_
 skip
 exact Y318
end
section
open Go.ChangeShapes Go.WideShapes Go.ChangeAt Go.RowKit
open Sl
set_option linter.unusedVariables false
theorem TO:ownKnob Tryz.prog.godebug=none:=by kernel_rfl
theorem Mg:laidOutB Tryz.prog=true:=by kernel_rfl
theorem SJ{z:Int}(h:(Lit.int .u8 z).wf=true):U8 (BitVec.ofInt 8 z)=.int .u8 z:=by
 have h0:0<=z/\z<=255:=by
  have h1:(decide (0<=z)&&decide (z<=255))=true:=h
  simpa using h1
 have h2:((BitVec.ofInt 8 z).toNat:Int)=z:=by
  rw[BitVec.toNat_ofInt]
  omega
 unfold U8
 rw[h2]
def Gu(zs:List Int):List (BitVec 8):=zs.map (BitVec.ofInt 8)
theorem Mh{H:Type}{enc:TypeId × Value->H}{W:World}{fuel:Nat}{v:Value}{x:DataW H × List MemPlace}(h:DataW.trod enc Tryz.prog W 0 (fun _=>true) true fuel 22 [v]=some x):∃ k:ay,v=k.v/\k.ok W/\k.cap<=maxLen:=by
 rcases open_ints (show Tryz.prog.underlying 22=some (.slice 5) by kernel_rfl) (show Tryz.prog.underlying 5=some (.int .u8) by kernel_rfl) Y636 h with⟨hcs,_⟩|⟨x,l,c,zs,hcs,_,hl,hm,hz,_,hcell,hwz⟩
 · cases hcs
   exact⟨⟨none,0,[]⟩,rfl,⟨by simp,Reads.nil _ _⟩,by decide⟩
 · cases hcs
   simp only[if_true] at hz
   have hlen:(Gu (zs.take l)).length=l:=by simp[Gu];omega
   refine⟨⟨some x,c,Gu (zs.take l)⟩,by simp[ay.v,hlen],⟨by rw[hlen];exact hl,?_⟩,hm⟩
   intro i v hv
   have hi:i<l:=by
    have:=(List.getElem?_eq_some_iff.1 hv).1
    simpa [hlen] using this
   have hc:=hcell i Y609
   obtain⟨b,o,sp⟩:=x
   cases sp with
   | some s=>
     have hc:=hcell 0 Y609
     simp only[World.cell?,Addr.add,if_true] at hc
     split at hc <;> simp at hc
   | none=>
     refine⟨b,o,rfl,?_⟩
     have e1:zs.getD i 0=zs[i]'(by omega):=by simp[List.getD,show i<zs.length by omega]
     have e2:=SJ (hwz (zs[i]'(by omega)) (List.getElem_mem _))
     have e3:v=.int .u8 (zs.getD i 0):=by
      simp only[Gu,List.map_map,List.getElem?_map,List.getElem?_take] at hv
      rw[if_pos hi,List.getElem?_eq_getElem Y609] at hv
      simp only[Option.map_some,Function.comp,Option.some.injEq] at hv
      rw[<- hv,e2,e1]
     rw[e3]
     have e4:(⟨b,o,none⟩:Addr).add i=⟨b,o+i,none⟩:=by
      unfold Addr.add
      split
      · subst i;rfl
      · rfl
     rw[e4] at hc
     exact hc
end
section
open Go.ChangeShapes Go.WideShapes Go.ChangeAt Go.RowKit
open Sl aq
set_option linter.unusedVariables false
theorem Ot(s:ByteArray):∃ l:List Bt,Value.string s=Z l/\l.length=s.size:=⟨bytesOf s,by show _=Value.string _;rw[zB],bytesOf_length s⟩
end
section
open Go.ChangeShapes Go.WideShapes Go.ChangeAt Go.RowKit
open Sl aq gZ zo
set_option linter.unusedVariables false
def Mk(P:Program)(t:TypeId)(i:Nat)(ty:TypeId)(off:Nat):Bool:=match (P.fieldsOf t)[i]? with
 | some f=>f.type==ty&&f.offset==off
 | none=>false
theorem IQ{P:Program}{t:TypeId}{i:Nat}{ty:TypeId}{off:Nat}(h:Mk P t i ty off=true):∃ f,(P.fieldsOf t)[i]?=some f/\f.type=ty/\f.offset=off:=by
 unfold Mk at h
 split at h
 · next f e=>
   simp only[Bool.and_eq_true,beq_iff_eq] at h
   exact⟨f,e,h.1,h.2⟩
 · cases h
theorem Q0{H:Type}{enc:TypeId × Value->H}{W:World}{base fuel:Nat}{v:Value}{x:DataW H × List MemPlace}(hok:Value.okWide Tryz.prog W .any base 24 v)(h:DataW.trod enc Tryz.prog W 0 (fun _=>true) true fuel 24 v.cells.toList=some x) :
  ∃ e:kG,v=.agg e.cs.toArray/\e.ok W:=by
 have ht:Tryz.prog.underlying 24=some (.struct (Tryz.prog.fieldsOf 24)):=by kernel_rfl
 have ct:Tryz.prog.cellsOf 24=7:=by kernel_rfl
 have c0:Tryz.prog.cellsOf 9=1:=by kernel_rfl
 have c1:Tryz.prog.cellsOf 22=1:=by kernel_rfl
 have c2:Tryz.prog.cellsOf 4=1:=by kernel_rfl
 have hs:Tryz.prog.underlying 9=some .string:=by kernel_rfl
 have hb:Tryz.prog.underlying 4=some .bool:=by kernel_rfl
 obtain⟨xs,n,_,_,hl,hlen,hf⟩:=DataW.trod_struct ht h
 have hsz:(Tryz.prog.fieldsOf 24).size=7:=by kernel_rfl
 rw[hsz] at hlen
 have g:∀ {i ty off},Mk Tryz.prog 24 i ty off=true->i<7->∃ y,DataW.trod enc Tryz.prog W 0 (fun _=>true) true n ty ((v.cells.toList.drop off).take (Tryz.prog.cellsOf ty))=some y:=fun {i ty off} h1 h2=>by
  obtain⟨f,e1,rfl,rfl⟩:=IQ h1
  exact⟨xs[i],by rw[hf i f e1,List.getElem?_eq_getElem Y609]⟩
 simp only[Value.okWide,ht] at hok
 obtain⟨c,rfl,hcz,_⟩:=hok
 rw[ct] at hcz
 obtain⟨y0,g0⟩:=g (i:=0) (ty:=9) (off:=0) Y636 Y610
 obtain⟨y1,g1⟩:=g (i:=1) (ty:=9) (off:=1) Y636 Y610
 obtain⟨y2,g2⟩:=g (i:=2) (ty:=9) (off:=2) Y636 Y610
 obtain⟨y3,g3⟩:=g (i:=3) (ty:=9) (off:=3) Y636 Y610
 obtain⟨y4,g4⟩:=g (i:=4) (ty:=4) (off:=4) Y636 Y610
 obtain⟨y5,g5⟩:=g (i:=5) (ty:=22) (off:=5) Y636 Y610
 obtain⟨y6,g6⟩:=g (i:=6) (ty:=22) (off:=6) Y636 Y610
 rw[c0] at g0 g1 g2 g3
 rw[c2] at g4
 rw[c1] at g5 g6
 obtain⟨l⟩:=c
 rw[show(Value.agg ⟨l⟩).cells.toList=l from rfl] at g0 g1 g2 g3 g4 g5 g6
 match l,hcz with
 | [a0,a1,a2,a3,a4,a5,a6],_=>
   obtain⟨s0,q0,_,_⟩:=DataW.trod_string hs g0
   obtain⟨s1,q1,_,_⟩:=DataW.trod_string hs g1
   obtain⟨s2,q2,_,_⟩:=DataW.trod_string hs g2
   obtain⟨s3,q3,_,_⟩:=DataW.trod_string hs g3
   obtain⟨b4,q4,_⟩:=DataW.trod_bool hb g4
   obtain⟨k5,r5,ok5,_⟩:=Mh (v:=a5) g5
   obtain⟨k6,r6,ok6,_⟩:=Mh (v:=a6) g6
   obtain⟨l0,z0,_⟩:=Ot s0
   obtain⟨l1,z1,_⟩:=Ot s1
   obtain⟨l2,z2,_⟩:=Ot s2
   obtain⟨l3,z3,_⟩:=Ot s3
   simp at q0 q1 q2 q3 q4
   refine⟨⟨l0,l1,l2,l3,b4,k5,k6⟩,?_,⟨ok5,ok6⟩⟩
   rw[q0,q1,q2,q3,q4,r5,r6,z0,z1,z2,z3]
   rfl
theorem qQ:((Rows.packBesideRow.laid).all fun x=>x.2.handleName?.isNone)=true:=by kernel_rfl
theorem Ou(os:Os)(args:Array Value):laidMetH Tryz.prog Rows.packBesideRow.laid ((World.laidAll Tryz.prog os Rows.packBesideRow.laid).forCall (fun _ _=>0) ⟨#[],args,[]⟩).memory:=by
 rw[MakeChecks.laidMetH_plain _ _ _ qQ]
 exact laidMet_laidAll _ Y636 Y636
theorem IT(os:Os):(World.laidAll Tryz.prog os Rows.packBesideRow.laid).Shaped Tryz.prog:=World.shaped_of_ZipB Y636 Y636
theorem yY{W:World}{fuel:Nat}{cs:List Value}{s:List UInt8}{c:Int}{x:DataW Unit × List MemPlace}(h:DataW.trod (fun _=>()) Tryz.prog W 0 (fun _=>true) false fuel 163 cs=some x)(hx:x.1=.agg [.lit (.string s),.lit (.int .i64 c)]):cs=[.string ⟨s.toArray⟩,.int .i64 c]:=by
 obtain⟨y0,y1,n,rfl,hl,g0,g1⟩:=trod_struct2 Tryz.underlying163 h
 have c9:Tryz.prog.cellsOf 9=1:=by kernel_rfl
 have c3:Tryz.prog.cellsOf 3=1:=by kernel_rfl
 have c2:Tryz.prog.cellsOf 163=2:=by kernel_rfl
 dsimp only at g0 g1 hx
 rw[c9] at g0
 rw[c3] at g1
 rw[c2] at hl
 obtain⟨s',q0,e0,_⟩:=DataW.trod_string (show Tryz.prog.underlying 9=some .string by kernel_rfl) g0
 obtain⟨z,q1,e1,_⟩:=DataW.trod_int (show Tryz.prog.underlying 3=some (.int .i64) by kernel_rfl) g1
 rw[e0,e1] at hx
 simp only[DataW.agg.injEq,List.cons.injEq,DataW.lit.injEq,Lit.string.injEq,Lit.int.injEq,and_true,true_and] at hx
 obtain⟨rfl,rfl⟩:=hx
 match cs,hl with
 | [a,b],_=>
   simp at q0 q1
   rw[q0,q1]
theorem C1{W:World}{fuel:Nat}{cs:List Value}{c:Bool}{x:DataW Unit × List MemPlace}(h:DataW.trod (fun _=>()) Tryz.prog W 0 (fun _=>true) false fuel 4 cs=some x)(hx:x.1=.lit (.bool c)):cs=[.bool c]:=by
 obtain⟨b,rfl,rfl⟩:=DataW.trod_bool (show Tryz.prog.underlying 4=some .bool by kernel_rfl) h
 simp only[DataW.lit.injEq,Lit.bool.injEq] at hx
 rw[hx]
theorem nM{W:World}(h:laidMetH Tryz.prog Rows.packBesideRow.laid W):fz W/\jj W:=by
 rw[MakeChecks.laidMetH_plain _ _ _ qQ] at h
 have h':laidMet Tryz.prog (("unicode/utf8.acceptRanges",Rows.laid_unicode_utf8_acceptRanges)::("despatch/mime.encodings",Rows.laid_despatch_mime_encodings)::("despatch/pack.allRight",Rows.laid_despatch_pack_allRight)::[("unicode.CaseRanges",Rows.laid_unicode_CaseRanges),("unicode/utf8.first",Rows.laid_unicode_utf8_first)]) W:=h
 obtain⟨ps,⟨g1,t1,cs1,f1,p1,q1,_,_,_,_,⟨g2,t2,cs2,f2,p2,q2,hg,ht,hvar,hd,⟨g3,t3,cs3,f3,p3,q3,hg3,ht3,hvar3,hd3,_,_⟩,_⟩,_⟩,_⟩:=h'
 constructor
 · have hg':Tryz.prog.globalNamed "despatch/mime.encodings" = some 1:=by kernel_rfl
   obtain rfl:=Option.some.inj (hg'.symm.trans hg)
   have ht':(Tryz.prog.globals[1]?).map (·.type)=some 164:=by kernel_rfl
   obtain rfl:=Option.some.inj (ht'.symm.trans ht)
   obtain⟨xs,m,_,ex,hcl,hxl,hel⟩:=DataW.trod_array To hd
   have c2:Tryz.prog.cellsOf 163=2:=by kernel_rfl
   have c12:Tryz.prog.cellsOf 164=12:=by kernel_rfl
   rw[c12] at hcl
   simp only[c2] at hel
   have hx:=congrArg Prod.fst ex
   dsimp only at hx
   unfold Rows.laid_despatch_mime_encodings at hx
   rw[DataW.agg.injEq] at hx
   match xs,hxl with
   | [x0,x1,x2,x3,x4,x5],_=>
     simp only[List.map_cons,List.map_nil,List.cons.injEq,and_true] at hx
     obtain⟨e0,e1,e2,e3,e4,e5⟩:=hx
     have r0:=yY (hel 0 Y610) e0.symm
     have r1:=yY (hel 1 Y610) e1.symm
     have r2:=yY (hel 2 Y610) e2.symm
     have r3:=yY (hel 3 Y610) e3.symm
     have r4:=yY (hel 4 Y610) e4.symm
     have r5:=yY (hel 5 Y610) e5.symm
     have hcs:cs2.toList=vu:=by
      generalize cs2.toList=l at *
      match l,hcl with
      | [a0,a1,a2,a3,a4,a5,a6,a7,a8,a9,a10,a11],_=>
        simp at r0 r1 r2 r3 r4 r5
        rw[r0.1,r0.2,r1.1,r1.2,r2.1,r2.2,r3.1,r3.2,r4.1,r4.2,r5.1,r5.2]
        rfl
     unfold World.var? at hvar
     rw[hg'] at hvar
     simp only[Option.bind_some] at hvar
     split at hvar
     · rename_i cs e fr hb
       refine⟨e,fr,?_⟩
       rw[hb,Option.some.inj hvar,<- hcs]
     · cases hvar
 · have hg':Tryz.prog.globalNamed "despatch/pack.allRight" = some 0:=by kernel_rfl
   obtain rfl:=Option.some.inj (hg'.symm.trans hg3)
   have ht':(Tryz.prog.globals[0]?).map (·.type)=some 53:=by kernel_rfl
   obtain rfl:=Option.some.inj (ht'.symm.trans ht3)
   obtain⟨xs,m,_,ex,hcl,hxl,hel⟩:=DataW.trod_array (show Tryz.prog.underlying 53=some (.array 5 4) by kernel_rfl) hd3
   have c2:Tryz.prog.cellsOf 4=1:=by kernel_rfl
   have c12:Tryz.prog.cellsOf 53=5:=by kernel_rfl
   rw[c12] at hcl
   simp only[c2] at hel
   have hx:=congrArg Prod.fst ex
   dsimp only at hx
   unfold Rows.laid_despatch_pack_allRight at hx
   rw[DataW.agg.injEq] at hx
   match xs,hxl with
   | [x0,x1,x2,x3,x4],_=>
     simp only[List.map_cons,List.map_nil,List.cons.injEq,and_true] at hx
     obtain⟨e0,e1,e2,e3,e4⟩:=hx
     have r0:=C1 (hel 0 Y610) e0.symm
     have r1:=C1 (hel 1 Y610) e1.symm
     have r2:=C1 (hel 2 Y610) e2.symm
     have r3:=C1 (hel 3 Y610) e3.symm
     have r4:=C1 (hel 4 Y610) e4.symm
     have hcs:cs3.toList=qq true true true true true:=by
      generalize cs3.toList=l at *
      match l,hcl with
      | [a0,a1,a2,a3,a4],_=>
        simp at r0 r1 r2 r3 r4
        rw[r0,r1,r2,r3,r4]
        rfl
     unfold World.var? at hvar3
     rw[hg'] at hvar3
     simp only[Option.bind_some] at hvar3
     split at hvar3
     · rename_i cs e fr hb
       refine⟨e,fr,?_⟩
       rw[hb,Option.some.inj hvar3,<- hcs]
     · cases hvar3
end
end Go.Proofs.YtdabhneehconeaaGreatDoor
