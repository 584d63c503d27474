/-
  Of no statement by itself: the texts CrvX, CrvY, CrvZ, CuvA, CuvB, CuvC, CuvD, CuvE, CuvF, CrvS, CuvG, CuvN, RatP, RatQ, Slhn, RatC, Slcv, KdfB, RatM in one.
  Conditions: each theorem's own.
-/
import Derived.Test.YtgkninhgcpbfnaaGreatDoorJd
import Derived.KernelRfl
import Derived.Test.YtgkninhgcpbfnaaGreatDoorProg
import Derived.Laws.Tables
import Derived.Great.FillDense
import Derived.Laws.Cover3
set_option linter.unusedSimpArgs false
set_option linter.unusedVariables false
namespace Go.Proofs.YtgkninhgcpbfnaaGreatDoor
section
namespace dW
def iC (l : List dS) (c : dS) : Nat→dS
  | 0=>c
  | i+1=>(l.getD i 0+iC l c i) >>> 51
def FQ (l : List dS) (c : dS) : Nat→List dS
  | 0=>l
  | i+1=>(FQ l c i).set i ((l.getD i 0+iC l c i) &&& 2251799813685247#64)
theorem Bh (l : List dS) (c : dS) : ∀ i,(FQ l c i).length=l.length
  | 0=>rfl
  | i+1=>by rw [FQ,List.length_set,Bh l c i]
def vQ (n : N5) : N5:=
  let c:=19#64 * iC n.l 19#64 5
  ⟨(n.a0+iC n.l c 0) &&& 2251799813685247#64,(n.a1+iC n.l c 1) &&& 2251799813685247#64,(n.a2+iC n.l c 2) &&& 2251799813685247#64,(n.a3+iC n.l c 3) &&& 2251799813685247#64,(n.a4+iC n.l c 4) &&& 2251799813685247#64⟩
theorem GS (n : N5) : FQ n.l (19#64 * iC n.l 19#64 5) 5=(vQ n).l:=rfl
theorem EV (l : List dS) (c : dS) (i : Nat) (h : (l.getD i 0).toNat<2251799813947392) (hc : (iC l c i).toNat<2251799813947392) : (iC l c (i+1)).toNat=((l.getD i 0).toNat+(iC l c i).toNat) / 2251799813685248:=by
  rw [iC,fy,toNat_add (by omega)]
structure Lo (n : N5) : Prop where
  a0 : n.a0.toNat<2251799813685248
  a1 : n.a1.toNat<2251799813685248
  a2 : n.a2.toNat<2251799813685248
  a3 : n.a3.toNat<2251799813685248
  a4 : n.a4.toNat<2251799813685248
theorem EW {n0 n1 n2 n3 n4 r0 r1 r2 r3 r4 r5 : Nat} (e1 : r1=(n0+r0) / 2251799813685248) (e2 : r2=(n1+r1) / 2251799813685248) (e3 : r3=(n2+r2) / 2251799813685248) (e4 : r4=(n3+r3) / 2251799813685248) (e5 : r5=(n4+r4) / 2251799813685248) :
    ∃ s,s<57896044618658097711785492504343953926634992332820282019728792003956564819968∧
      s=(n0+r0) % 2251799813685248+2251799813685248 * ((n1+r1) % 2251799813685248+2251799813685248 * ((n2+r2) % 2251799813685248+2251799813685248 * ((n3+r3) % 2251799813685248+2251799813685248 * ((n4+r4) % 2251799813685248))))∧
      n0+2251799813685248 * (n1+2251799813685248 * (n2+2251799813685248 * (n3+2251799813685248 * n4)))+r0=s+57896044618658097711785492504343953926634992332820282019728792003956564819968 * r5:=by
  have d0:=Nat.div_add_mod (n0+r0) 2251799813685248
  have d1:=Nat.div_add_mod (n1+r1) 2251799813685248
  have d2:=Nat.div_add_mod (n2+r2) 2251799813685248
  have d3:=Nat.div_add_mod (n3+r3) 2251799813685248
  have d4:=Nat.div_add_mod (n4+r4) 2251799813685248
  have b0:=Nat.mod_lt (n0+r0) (show 2251799813685248>0 by decide)
  have b1:=Nat.mod_lt (n1+r1) (show 2251799813685248>0 by decide)
  have b2:=Nat.mod_lt (n2+r2) (show 2251799813685248>0 by decide)
  have b3:=Nat.mod_lt (n3+r3) (show 2251799813685248>0 by decide)
  have b4:=Nat.mod_lt (n4+r4) (show 2251799813685248>0 by decide)
  rw [← e1] at d0
  rw [← e2] at d1
  rw [← e3] at d2
  rw [← e4] at d3
  rw [← e5] at d4
  clear e1 e2 e3 e4 e5
  refine ⟨_,?_,rfl,?_⟩
  · clear d0 d1 d2 d3 d4
    generalize (n0+r0) % 2251799813685248=s0 at *
    generalize (n1+r1) % 2251799813685248=s1 at *
    generalize (n2+r2) % 2251799813685248=s2 at *
    generalize (n3+r3) % 2251799813685248=s3 at *
    generalize (n4+r4) % 2251799813685248=s4 at *
    omega
  · clear b0 b1 b2 b3 b4
    generalize (n0+r0) % 2251799813685248=s0 at *
    generalize (n1+r1) % 2251799813685248=s1 at *
    generalize (n2+r2) % 2251799813685248=s2 at *
    generalize (n3+r3) % 2251799813685248=s3 at *
    generalize (n4+r4) % 2251799813685248=s4 at *
    omega
theorem Cw {v o s S r : Nat} (hv : v<115792089237316195423570985008687907853269984665640564039457584007913129639898)
    (hs : s<57896044618658097711785492504343953926634992332820282019728792003956564819968) (h1 : v+19=s+57896044618658097711785492504343953926634992332820282019728792003956564819968 * o)
    (hS : S<57896044618658097711785492504343953926634992332820282019728792003956564819968) (h2 : v+19 * o=S+57896044618658097711785492504343953926634992332820282019728792003956564819968 * r) :
    S+o * 57896044618658097711785492504343953926634992332820282019728792003956564819949=v∧S<57896044618658097711785492504343953926634992332820282019728792003956564819949:=by
  have : o=0∨o=1:=by omega
  rcases this with rfl | rfl
  · omega
  · omega
theorem zW {l : List dS} {c : dS} (h : ∀ i,(l.getD i 0).toNat<2251799813947392) (hc : c.toNat<2251799813947392) : ∀ i,(iC l c i).toNat<2251799813947392
  | 0=>hc
  | i+1=>by
    have h1:=h i
    have h2:=zW h hc i
    rw [EV l c i h1 h2]
    omega
theorem EX {n : N5} (h : dB n) : ∀ i,(n.l.getD i 0).toNat<2251799813947392
  | 0=>h.a0
  | 1=>h.a1
  | 2=>h.a2
  | 3=>h.a3
  | 4=>h.a4
  | i+5=>by
    show (0 : dS).toNat<_
    decide
theorem GU {n : N5} (h : dB n) : Lo (vQ n)∧iY (vQ n)=(iF n).val:=by
  have ll:=EX h
  have hr : ∀ c : dS,c.toNat<2251799813947392→∀ i,(iC n.l c (i+1)).toNat=((n.l.getD i 0).toNat+(iC n.l c i).toNat) / 2251799813685248:=fun c hc i=>EV n.l c i (ll i) (zW ll hc i)
  have hm : ∀ (c : dS) (x : dS) (i : Nat),c.toNat<2251799813947392→x.toNat<2251799813947392→((x+iC n.l c i) &&& 2251799813685247#64).toNat=(x.toNat+(iC n.l c i).toNat) % 2251799813685248:=fun c x i hc hx=>by
    have h2:=zW ll hc i
    rw [bP,toNat_add (by omega)]
  obtain ⟨p0,p1,p2,p3,p4⟩:=h
  have hb : (19#64 : dS).toNat<2251799813947392:=by decide
  obtain ⟨s,hs,_,h1⟩:=EW (n0:=n.a0.toNat) (n1:=n.a1.toNat) (n2:=n.a2.toNat) (n3:=n.a3.toNat) (n4:=n.a4.toNat) (hr _ hb 0) (hr _ hb 1) (hr _ hb 2) (hr _ hb 3) (hr _ hb 4)
  have t0 : (iC n.l 19#64 0).toNat=19:=rfl
  rw [t0] at h1
  have hv : n.a0.toNat+2251799813685248 * (n.a1.toNat+2251799813685248 * (n.a2.toNat+2251799813685248 * (n.a3.toNat+2251799813685248 * n.a4.toNat)))<115792089237316195423570985008687907853269984665640564039457584007913129639898:=by
    clear h1 hr hm ll
    omega
  have ho : (iC n.l 19#64 (4+1)).toNat≤1:=by
    clear hr hm ll
    omega
  have c:=fA (y:=iC n.l 19#64 (4+1)) (by omega)
  have hC : (19#64 * iC n.l 19#64 (4+1)).toNat<2251799813947392:=by omega
  obtain ⟨S,hS,eS,h2⟩:=EW (n0:=n.a0.toNat) (n1:=n.a1.toNat) (n2:=n.a2.toNat) (n3:=n.a3.toNat) (n4:=n.a4.toNat) (hr _ hC 0) (hr _ hC 1) (hr _ hC 2) (hr _ hC 3) (hr _ hC 4)
  have t1 : (iC n.l (19#64 * iC n.l 19#64 (4+1)) 0).toNat=19 * (iC n.l 19#64 (4+1)).toNat:=c
  have hh2:=h2
  rw [t1] at hh2
  obtain ⟨f1,f2⟩:=Cw hv hs h1 hS hh2
  have m0:=hm (19#64 * iC n.l 19#64 (4+1)) n.a0 0 hC p0
  have m1:=hm (19#64 * iC n.l 19#64 (4+1)) n.a1 1 hC p1
  have m2:=hm (19#64 * iC n.l 19#64 (4+1)) n.a2 2 hC p2
  have m3:=hm (19#64 * iC n.l 19#64 (4+1)) n.a3 3 hC p3
  have m4:=hm (19#64 * iC n.l 19#64 (4+1)) n.a4 4 hC p4
  refine ⟨⟨?_,?_,?_,?_,?_⟩,?_⟩
  · exact m0 ▸ Nat.mod_lt _ (by decide)
  · exact m1 ▸ Nat.mod_lt _ (by decide)
  · exact m2 ▸ Nat.mod_lt _ (by decide)
  · exact m3 ▸ Nat.mod_lt _ (by decide)
  · exact m4 ▸ Nat.mod_lt _ (by decide)
  · have ev : iY (vQ n)=S:=by
      rw [eS]
      unfold iY
      show ((n.a0+iC n.l (19#64 * iC n.l 19#64 (4+1)) 0) &&& 2251799813685247#64).toNat+2251799813685248 * (((n.a1+iC n.l (19#64 * iC n.l 19#64 (4+1)) 1) &&& 2251799813685247#64).toNat+2251799813685248 * (((n.a2+iC n.l (19#64 * iC n.l 19#64 (4+1)) 2) &&& 2251799813685247#64).toNat+2251799813685248 * (((n.a3+iC n.l (19#64 * iC n.l 19#64 (4+1)) 3) &&& 2251799813685247#64).toNat+2251799813685248 * ((n.a4+iC n.l (19#64 * iC n.l 19#64 (4+1)) 4) &&& 2251799813685247#64).toNat)))=_
      rw [m0,m1,m2,m3,m4]
    have hf : iF n=fn S:=by
      unfold iF iY
      exact (vO (q:=(iC n.l 19#64 (4+1)).toNat) f1).symm
    rw [ev,hf,Lh f2]
end dW
end
section
namespace dW
theorem jm (x y : dS) {k : Nat} (hk : k≤64) (hx : x.toNat<2 ^ k) : (x ||| y <<< k).toNat=y.toNat * 2 ^ k % 2 ^ 64+x.toNat:=by
  rw [BitVec.or_comm,pB x y hk hx]
def xO (n : N5) : List dS:=[n.a0 ||| n.a1 <<< 51,n.a1 >>> 13 ||| n.a2 <<< 38,n.a2 >>> 26 ||| n.a3 <<< 25,n.a3 >>> 39 ||| n.a4 <<< 12]
def zX (w : dS) : List By:=[(w >>> 0).setWidth 8,(w >>> 8).setWidth 8,(w >>> 16).setWidth 8,(w >>> 24).setWidth 8,(w >>> 32).setWidth 8,(w >>> 40).setWidth 8,(w >>> 48).setWidth 8,(w >>> 56).setWidth 8]
theorem NV (w : dS) (k : Nat) : ((w >>> k).setWidth 8).toNat=w.toNat / 2 ^ k % 256:=by
  rw [BitVec.toNat_setWidth,di]
theorem vR (w : dS) : le (zX w)=w.toNat:=by
  unfold zX
  simp only [le,NV]
  have:=w.isLt
  omega
def Bi (w : List dS) : Nat→List By
  | 0=>List.replicate 32 0
  | i+1=>(Bi w i).set i ((w.getD (i / 8) 0 >>> (i % 8 * 8)).setWidth 8)
theorem Bj (w : List dS) : ∀ i,(Bi w i).length=32
  | 0=>rfl
  | i+1=>by rw [Bi,List.length_set,Bj w i]
theorem GV (a b c d : dS) : Bi [a,b,c,d] 32=zX a++(zX b++(zX c++zX d)):=by kernel_rfl
theorem Jz {n : N5} (h : Lo n) : Bi (xO n) 32=vK 32 (iY n):=by
  obtain ⟨p0,p1,p2,p3,p4⟩:=h
  have e0:=jm n.a0 n.a1 (k:=51) (by omega) (by omega)
  have s1:=di n.a1 13
  have s2:=di n.a2 26
  have s3:=di n.a3 39
  have e1:=jm (n.a1 >>> 13) n.a2 (k:=38) (by omega) (by omega)
  have e2:=jm (n.a2 >>> 26) n.a3 (k:=25) (by omega) (by omega)
  have e3:=jm (n.a3 >>> 39) n.a4 (k:=12) (by omega) (by omega)
  unfold xO
  rw [GV]
  have l8 : ∀ w,(zX w).length=8:=fun _=>rfl
  have el : le (zX (n.a0 ||| n.a1 <<< 51)++(zX (n.a1 >>> 13 ||| n.a2 <<< 38)++(zX (n.a2 >>> 26 ||| n.a3 <<< 25)++zX (n.a3 >>> 39 ||| n.a4 <<< 12))))=iY n:=by
    rw [gR,gR,gR,l8,l8,l8,vR,vR,vR,vR,e0,e1,e2,e3,s1,s2,s3]
    unfold iY
    omega
  rw [← el]
  have:=vL (zX (n.a0 ||| n.a1 <<< 51)++(zX (n.a1 >>> 13 ||| n.a2 <<< 38)++(zX (n.a2 >>> 26 ||| n.a3 <<< 25)++zX (n.a3 >>> 39 ||| n.a4 <<< 12))))
  exact this.symm
def Kn (n : N5) : List By:=Bi (xO (vQ n)) 32
theorem JB {n : N5} (h : dB n) : Kn n=pP (iF n):=by
  have:=GU h
  rw [Kn,Jz this.1,this.2];rfl
def tc (k : List By) (p : Nat) : Nat→dS
  | 0=>0
  | i+1=>tc k p i ||| ((k.getD (8 * p+i) 0).setWidth 64) <<< (8 * i)
theorem sy (k : List By) (p : Nat) : ∀ i,i≤8→8 * p+i≤k.length→(tc k p i).toNat=le ((k.drop (8 * p)).take i)
  | 0,_,_=>rfl
  | i+1,hi,hl=>by
    have ih:=sy k p i (by omega) (by omega)
    have lt:=EM ((k.drop (8 * p)).take i)
    have ln : ((k.drop (8 * p)).take i).length=i:=by rw [List.length_take,List.length_drop];omega
    rw [ln,show 256 ^ i=2 ^ (8 * i) by rw [Nat.pow_mul]] at lt
    have hb : (k.drop (8 * p))[i]?=some (k.getD (8 * p+i) 0):=by
      rw [List.getElem?_drop,List.getD_eq_getElem?_getD,List.getElem?_eq_getElem (by omega)];rfl
    rw [tc,jm _ _ (k:=8 * i) (by omega) (by rw [ih];exact lt),ih,List.take_add_one,hb,gR,ln,show 256 ^ i=2 ^ (8 * i) by rw [Nat.pow_mul]]
    generalize k.getD (8 * p+i) 0=x
    have hx:=x.isLt
    have hs : (x.setWidth 64).toNat=x.toNat:=by rw [BitVec.toNat_setWidth];exact Nat.mod_eq_of_lt (by omega)
    have hp : 2 ^ (8 * i)≤2 ^ 56:=Nat.pow_le_pow_right (by omega) (by omega)
    have hm : x.toNat * 2 ^ (8 * i)≤255 * 2 ^ 56:=Nat.mul_le_mul (by omega) hp
    rw [hs,Nat.mod_eq_of_lt (by omega)]
    show _=_+2 ^ (8 * i) * (x.toNat+256 * 0)
    rw [Nat.mul_zero,Nat.add_zero,Nat.mul_comm]
    omega
def zY (w0 w1 w2 w3 : dS) : N5:=⟨w0 &&& 2251799813685247#64,(w0 >>> 51 ||| w1 <<< 13) &&& 2251799813685247#64,(w1 >>> 38 ||| w2 <<< 26) &&& 2251799813685247#64,(w2 >>> 25 ||| w3 <<< 39) &&& 2251799813685247#64,w3 >>> 12 &&& 2251799813685247#64⟩
theorem Bl (w0 w1 w2 w3 : dS) : Lo (zY w0 w1 w2 w3)∧iY (zY w0 w1 w2 w3)=(w0.toNat+18446744073709551616 * (w1.toNat+18446744073709551616 * (w2.toNat+18446744073709551616 * w3.toNat))) % 57896044618658097711785492504343953926634992332820282019728792003956564819968:=by
  have h0:=w0.isLt
  have h1:=w1.isLt
  have h2:=w2.isLt
  have h3:=w3.isLt
  have s0:=di w0 51
  have s1:=di w1 38
  have s2:=di w2 25
  have s3:=di w3 12
  have e1:=jm (w0 >>> 51) w1 (k:=13) (by omega) (by omega)
  have e2:=jm (w1 >>> 38) w2 (k:=26) (by omega) (by omega)
  have e3:=jm (w2 >>> 25) w3 (k:=39) (by omega) (by omega)
  have m0:=bP w0
  have m1:=bP (w0 >>> 51 ||| w1 <<< 13)
  have m2:=bP (w1 >>> 38 ||| w2 <<< 26)
  have m3:=bP (w2 >>> 25 ||| w3 <<< 39)
  have m4:=bP (w3 >>> 12)
  rw [e1,s0] at m1
  rw [e2,s1] at m2
  rw [e3,s2] at m3
  rw [s3] at m4
  refine ⟨⟨?_,?_,?_,?_,?_⟩,?_⟩
  · show (w0 &&& 2251799813685247#64).toNat<_;rw [m0];omega
  · show ((w0 >>> 51 ||| w1 <<< 13) &&& 2251799813685247#64).toNat<_;rw [m1];omega
  · show ((w1 >>> 38 ||| w2 <<< 26) &&& 2251799813685247#64).toNat<_;rw [m2];omega
  · show ((w2 >>> 25 ||| w3 <<< 39) &&& 2251799813685247#64).toNat<_;rw [m3];omega
  · show (w3 >>> 12 &&& 2251799813685247#64).toNat<_;rw [m4];omega
  · unfold iY zY
    simp only
    rw [m0,m1,m2,m3,m4]
    clear e1 e2 e3 s0 s1 s2 s3 m0 m1 m2 m3 m4
    generalize w0.toNat=x0 at *
    generalize w1.toNat=x1 at *
    generalize w2.toNat=x2 at *
    generalize w3.toNat=x3 at *
    omega
theorem Lo.zP {n : N5} (h : Lo n) : dB n:=by
  obtain ⟨p0,p1,p2,p3,p4⟩:=h
  exact ⟨by omega,by omega,by omega,by omega,by omega⟩
def cv (u : List By) : N5:=zY (tc u 0 8) (tc u 1 8) (tc u 2 8) (tc u 3 8)
theorem Cx (u : List By) : dB (cv u):=(Bl _ _ _ _).1.zP
theorem GW {u : List By} (hu : u.length=32) : iF (cv u)=pt u:=by
  have e:=(Bl (tc u 0 8) (tc u 1 8) (tc u 2 8) (tc u 3 8)).2
  rw [sy u 0 8 (by omega) (by omega),sy u 1 8 (by omega) (by omega),sy u 2 8 (by omega) (by omega),sy u 3 8 (by omega) (by omega)] at e
  have c : ∀ l : List By,8≤l.length→le l=le (l.take 8)+18446744073709551616 * le (l.drop 8):=fun l hl=>by
    have:=gR (l.take 8) (l.drop 8)
    rw [List.take_append_drop,List.length_take,Nat.min_eq_left hl] at this
    exact this
  have c0:=c u (by omega)
  have c1:=c (u.drop 8) (by rw [List.length_drop];omega)
  have c2:=c (u.drop 16) (by rw [List.length_drop];omega)
  have c3 : le (u.drop 24)=le ((u.drop 24).take 8):=by rw [List.take_of_length_le (by rw [List.length_drop];omega)]
  rw [List.drop_drop] at c1 c2
  have hl : le u=le ((u.drop (8 * 0)).take 8)+18446744073709551616 * (le ((u.drop (8 * 1)).take 8)+18446744073709551616 * (le ((u.drop (8 * 2)).take 8)+18446744073709551616 * le ((u.drop (8 * 3)).take 8))):=by
    rw [c0]
    show _=le ((u.drop 0).take 8)+18446744073709551616 * (le ((u.drop 8).take 8)+18446744073709551616 * (le ((u.drop 16).take 8)+18446744073709551616 * le ((u.drop 24).take 8)))
    rw [← c3,← c2,← c1];rfl
  rw [← hl] at e
  unfold iF pt
  show fn _=fn _
  congr 1
end dW
end
section
namespace dW
structure L5 where
  x2 : N5
  z2 : N5
  x3 : N5
  z3 : N5
@[reducible] def L5.l (s : L5) : List dS:=s.x2.l++s.z2.l++s.x3.l++s.z3.l
def L5.f (s : L5) : L4:=⟨iF s.x2,iF s.z2,iF s.x3,iF s.z3⟩
structure L5.ok (s : L5) : Prop where
  x2 : dB s.x2
  z2 : dB s.z2
  x3 : dB s.x3
  z3 : dB s.z3
def xP : N5:=⟨1,0,0,0,0⟩
def bG : N5:=⟨0,0,0,0,0⟩
def cN : N5:=⟨121665,0,0,0,0⟩
theorem uC : dB xP:=⟨by decide,by decide,by decide,by decide,by decide⟩
theorem zZ : dB bG:=⟨by decide,by decide,by decide,by decide,by decide⟩
theorem GX : dB cN:=⟨by decide,by decide,by decide,by decide,by decide⟩
theorem GY : iF xP=1:=by decide +kernel
theorem EY : iF bG=0:=by decide +kernel
theorem Lp : iF cN=121665:=by decide +kernel
structure Lr where
  a : N5
  b : N5
  c : N5
  d : N5
  aa : N5
  bb : N5
  da : N5
  cb : N5
  e : N5
  m : N5
  s : N5
def Ls (s : L5) : Lr:=
  let a:=pR s.x2 s.z2
  let b:=nW s.x2 s.z2
  let c:=pR s.x3 s.z3
  let d:=nW s.x3 s.z3
  let aa:=cO a a
  let bb:=cO b b
  let da:=cO d a
  let cb:=cO c b
  let e:=nW aa bb
  ⟨a,b,c,d,aa,bb,da,cb,e,pR da cb,nW da cb⟩
def Lt (x1 : N5) (t : Lr) : L5:=⟨cO t.aa t.bb,cO t.e (pR t.aa (cO cN t.e)),cO t.m t.m,cO x1 (cO t.s t.s)⟩
def vS (x1 : N5) (s : L5) : L5:=Lt x1 (Ls s)
def EZ (b : Bool) (s : L5) : L5:=if b then ⟨s.x3,s.z3,s.x2,s.z2⟩ else s
theorem E2 {s : L5} (h : s.ok) (b : Bool) : (EZ b s).ok:=by
  cases b
  · exact h
  · exact ⟨h.x3,h.z3,h.x2,h.z2⟩
theorem Iq (s : L5) (b : Bool) : (EZ b s).f=swap b s.f:=by cases b <;> rfl
theorem GZ (x1 : N5) (s : L5) : (vS x1 s).ok:=⟨bQ _ _,bQ _ _,bQ _ _,bQ _ _⟩
theorem JD {x1 : N5} {s : L5} (h1 : dB x1) (h : s.ok) : (vS x1 s).f=core (iF x1) s.f:=by
  have ga:=jS s.x2 s.z2
  have gb:=iG s.x2 s.z2
  have gc:=jS s.x3 s.z3
  have gd:=iG s.x3 s.z3
  unfold L5.f vS Lt Ls core
  simp only
  rw [fO (bQ _ _) (bQ _ _),fO (iG _ _) (jS _ _),qM (bQ _ _) (bQ _ _),fO GX (iG _ _),qN (bQ _ _) (bQ _ _),
    fO (jS (cO _ _) _) (jS _ _),qM (bQ (nW _ _) _) (bQ _ _),fO h1 (bQ _ _),fO (iG (cO _ _) _) (iG _ _),qN (bQ (nW _ _) _) (bQ _ _),
    fO gd ga,fO gc gb,fO ga ga,fO gb gb,qM h.x2 h.z2,qN h.x2 h.z2,qM h.x3 h.z3,qN h.x3 h.z3,Lp]
def jy (x1 : N5) (k : Nat) : Nat→L5
  | 0=>⟨xP,bG,x1,xP⟩
  | n+1=>EZ (k.testBit (254 - n)) (vS x1 (EZ (k.testBit (254 - n)) (jy x1 k n)))
theorem Bm {x1 : N5} (h : dB x1) (k : Nat) : ∀ n,(jy x1 k n).ok
  | 0=>⟨uC,zZ,h,uC⟩
  | _+1=>E2 (GZ _ _) _
theorem E3 {x1 : N5} (h : dB x1) (k : Nat) : ∀ n,n≤255→ux (iF x1) k (255 - n) (jy x1 k n).f=ux (iF x1) k 255 (jy x1 k 0).f
  | 0,_=>rfl
  | n+1,hn=>by
    rw [← E3 h k n (by omega)]
    have e : 255 - n=(255 - (n+1))+1:=by omega
    have e2 : 254 - n=255 - (n+1):=by omega
    rw [e]
    show ux (iF x1) k (255 - (n+1)) (EZ (k.testBit (254 - n)) (vS x1 (EZ (k.testBit (254 - n)) (jy x1 k n)))).f=ux (iF x1) k (255 - (n+1)) (swap (k.testBit (255 - (n+1))) (core (iF x1) (swap (k.testBit (255 - (n+1))) (jy x1 k n).f)))
    rw [Iq,JD h (E2 (Bm h k n) _),Iq,e2]
def JF (k u : List By) : List By:=Kn (cO (jy (cv u) (le (bJ k)) 255).x2 (sx (jy (cv u) (le (bJ k)) 255).z2))
theorem G0 (k u : List By) (hu : u.length=32) : JF k u=aH k u:=by
  have h:=Cx u
  have g:=Bm h (le (bJ k)) 255
  have e : (jy (cv u) (le (bJ k)) 255).f=ux (iF (cv u)) (le (bJ k)) 255 (jy (cv u) (le (bJ k)) 0).f:=E3 h _ 255 (by omega)
  have e0 : (jy (cv u) (le (bJ k)) 0).f=⟨1,0,iF (cv u),1⟩:=by
    show (⟨iF xP,iF bG,iF (cv u),iF xP⟩ : L4)=_
    rw [GY,EY]
  rw [e0] at e
  unfold JF
  rw [JB (bQ _ _),fO g.x2 (Cv g.z2),GR g.z2]
  unfold aH qy
  rw [← GW hu,← e]
  rfl
def iZ (c : Bool) (x y : List dS) (i : Nat) : List dS:=if c then y.take i++x.drop i else x
theorem xS (c : Bool) {x y : List dS} (h : x.length=y.length) (i : Nat) : (iZ c x y i).length=x.length:=by
  cases c
  · rfl
  · show (y.take i++x.drop i).length=_
    rw [List.length_append,List.length_take,List.length_drop];omega
theorem xT (c : Bool) {x y : List dS} (h : x.length=y.length) {i : Nat} (hi : i<x.length) : (iZ c x y i)[i]?=some (x.getD i 0):=by
  have e : x[i]?=some (x.getD i 0):=by rw [List.getD_eq_getElem?_getD,List.getElem?_eq_getElem hi];rfl
  cases c
  · exact e
  · show (y.take i++x.drop i)[i]?=_
    rw [List.getElem?_append_right (by rw [List.length_take];omega),List.length_take,List.getElem?_drop,← e]
    congr 1;omega
theorem xU (c : Bool) {x y : List dS} (h : x.length=y.length) {i : Nat} (hi : i<x.length) {v : dS} (hv : v=if c then y.getD i 0 else x.getD i 0) : (iZ c x y i).set i v=iZ c x y (i+1):=by
  subst hv
  cases c
  · show x.set i (x.getD i 0)=x
    rw [List.getD_eq_getElem?_getD,List.getElem?_eq_getElem hi]
    simp
  · show (y.take i++x.drop i).set i (y.getD i 0)=y.take (i+1)++x.drop (i+1)
    have e : y[i]?=some (y.getD i 0):=by rw [List.getD_eq_getElem?_getD,List.getElem?_eq_getElem (by omega)];rfl
    rw [List.set_append_right _ _ (by rw [List.length_take];omega),List.length_take,Nat.min_eq_left (by omega),Nat.sub_self,List.drop_eq_getElem_cons hi,List.set_cons_zero,List.take_add_one,e]
    simp
def bt (c : Bool) : By:=if c then 1#8 else 0#8
def Cy (c : Bool) : dS:=if c then BitVec.allOnes 64 else 0
theorem G1 (c : Bool) : -((bt c).setWidth 64 : dS)=Cy c:=by cases c <;> decide
theorem Lu (x : By) (k : Nat) (h : k<8) : (x >>> k) &&& 1#8=bt (x.toNat.testBit k):=by
  have h8 : ∀ k : Fin 8,∀ x : By,(x >>> k.val) &&& 1#8=bt (x.toNat.testBit k.val):=by decide +kernel
  exact h8 ⟨k,h⟩ x
theorem E4 (c : Bool) (a b : dS) : a ^^^ (Cy c &&& (a ^^^ b))=if c then b else a:=by
  cases c
  · show a ^^^ (0 &&& (a ^^^ b))=a
    simp
  · show a ^^^ (BitVec.allOnes 64 &&& (a ^^^ b))=b
    rw [BitVec.allOnes_and,← BitVec.xor_assoc,BitVec.xor_self,BitVec.zero_xor]
theorem JG (c : Bool) (a b : dS) : b ^^^ (Cy c &&& (a ^^^ b))=if c then a else b:=by
  rw [BitVec.xor_comm a b]
  exact E4 c b a
end dW
end
section
set_option maxRecDepth 10000
open Sl dW
theorem xV : dP Tryz.prog 84=some 1:=by kernel_rfl
theorem fZ : iI Tryz.prog 84=true:=by kernel_rfl
theorem cg : dP Tryz.prog 118=some 5:=by kernel_rfl
theorem eG : gy Tryz.prog 118=true:=by kernel_rfl
theorem mP : zc Tryz.prog 118=some (bG.l.map aj):=by kernel_rfl
theorem bn (l : List dS) : (l.map aj).all Value.oneCell'=true:=by simp [Value.oneCell']
theorem gf : aL Tryz.prog 94:=⟨_,Tryz.func94,rfl,by kernel_rfl⟩
theorem kJ : aL Tryz.prog 110:=⟨_,Tryz.func110,rfl,by kernel_rfl⟩
theorem oO : aL Tryz.prog 96:=⟨_,Tryz.func96,rfl,by kernel_rfl⟩
theorem fP : aL Tryz.prog 97:=⟨_,Tryz.func97,rfl,by kernel_rfl⟩
set_option maxHeartbeats 8000000 in
theorem lU (n : N5) (w : World) : Calls Tryz.prog 110 [.agg (n.l.map aj).toArray].toArray w fun e w'=>e=.returned (.agg ((tv n).l.map aj).toArray)∧Ext w w':=by
  have c0 : (n.l.map aj)[0]?=some (aj n.a0):=rfl
  have c1 : (n.l.map aj)[1]?=some (aj n.a1):=rfl
  have c2 : (n.l.map aj)[2]?=some (aj n.a2):=rfl
  have c3 : (n.l.map aj)[3]?=some (aj n.a3):=rfl
  have c4 : (n.l.map aj)[4]?=some (aj n.a4):=rfl
  refine enter (n:=40) Tryz.func110 rfl rfl rfl (ah.start w []) ?_
  repeat (first | refine JC.seq ?_ | refine JC.region ?_)
  refine JL.box (r:=n.l.map aj) rfl rfl rfl fun b1 _=>?_
  refine JL.alloc mP rfl fun b2 _=>?_
  repeat (first | refine JL.q (by first|(apply OQ.aD;exact Tryz.underlying118;exact xV;rfl;rfl;exact (by decide))|(apply OQ.load;exact fZ;rfl;exact (.there .here);exact (Row.cell c0))|(apply OQ.load;exact fZ;rfl;exact (.there .here);exact (Row.cell c1))|(apply OQ.load;exact fZ;rfl;exact (.there .here);exact (Row.cell c2))|(apply OQ.load;exact fZ;rfl;exact (.there .here);exact (Row.cell c3))|(apply OQ.load;exact fZ;rfl;exact (.there .here);exact (Row.cell c4))|(apply OQ.m9 (b:=2251799813685247#64);rfl;rfl)|(apply OQ.qb (a:=19#64);rfl;rfl)|(apply OQ.oe;rfl;rfl)|(apply OQ.jF;rfl;rfl)) rfl ?_ | refine JC.seq ?_ | refine JC.region ?_ | refine JL.nil ?_ | refine JE.next ?_)
  refine JL.q (OQ.pure (v:=.agg ((tv n).l.map aj).toArray) rfl rfl (by kernel_rfl)) rfl ?_
  refine JL.ag (cs:=(tv n).l.map aj) cg rfl rfl rfl (bn _) .here rfl ?_
  repeat (first | refine JL.nil ?_ | refine JE.next ?_)
  refine JC.ret (JE.aR rfl (RV.av eG cg rfl .here rfl Row.all) ?_)
  exact fun w' hw=>⟨rfl,hw.aM⟩
set_option maxHeartbeats 8000000 in
theorem qP (a b : N5) (w : World) : Calls Tryz.prog 96 [.agg (a.l.map aj).toArray,.agg (b.l.map aj).toArray].toArray w fun e w'=>e=.returned (.agg ((pR a b).l.map aj).toArray)∧Ext w w':=by
  have c0 : (a.l.map aj)[0]?=some (aj a.a0):=rfl
  have c1 : (a.l.map aj)[1]?=some (aj a.a1):=rfl
  have c2 : (a.l.map aj)[2]?=some (aj a.a2):=rfl
  have c3 : (a.l.map aj)[3]?=some (aj a.a3):=rfl
  have c4 : (a.l.map aj)[4]?=some (aj a.a4):=rfl
  have d0 : (b.l.map aj)[0]?=some (aj b.a0):=rfl
  have d1 : (b.l.map aj)[1]?=some (aj b.a1):=rfl
  have d2 : (b.l.map aj)[2]?=some (aj b.a2):=rfl
  have d3 : (b.l.map aj)[3]?=some (aj b.a3):=rfl
  have d4 : (b.l.map aj)[4]?=some (aj b.a4):=rfl
  have cc:=lU ⟨a.a0+b.a0,a.a1+b.a1,a.a2+b.a2,a.a3+b.a3,a.a4+b.a4⟩
  refine enter (n:=32) Tryz.func96 rfl rfl rfl (ah.start w []) ?_
  repeat (first | refine JC.seq ?_ | refine JC.region ?_)
  refine JL.box (r:=a.l.map aj) rfl rfl rfl fun b2 _=>?_
  refine JL.box (r:=b.l.map aj) rfl rfl rfl fun b3 _=>?_
  refine JL.alloc mP rfl fun b4 _=>?_
  repeat (first | refine JL.q (by first|(apply OQ.aD;exact Tryz.underlying118;exact xV;rfl;rfl;exact (by decide))|(apply OQ.load;exact fZ;rfl;exact (.there (.there .here));exact (Row.cell c0))|(apply OQ.load;exact fZ;rfl;exact (.there (.there .here));exact (Row.cell c1))|(apply OQ.load;exact fZ;rfl;exact (.there (.there .here));exact (Row.cell c2))|(apply OQ.load;exact fZ;rfl;exact (.there (.there .here));exact (Row.cell c3))|(apply OQ.load;exact fZ;rfl;exact (.there (.there .here));exact (Row.cell c4))|(apply OQ.load;exact fZ;rfl;exact (.there .here);exact (Row.cell d0))|(apply OQ.load;exact fZ;rfl;exact (.there .here);exact (Row.cell d1))|(apply OQ.load;exact fZ;rfl;exact (.there .here);exact (Row.cell d2))|(apply OQ.load;exact fZ;rfl;exact (.there .here);exact (Row.cell d3))|(apply OQ.load;exact fZ;rfl;exact (.there .here);exact (Row.cell d4))|(apply OQ.oe;rfl;rfl)) rfl ?_ | refine JC.seq ?_ | refine JC.region ?_ | refine JL.nil ?_ | refine JE.next ?_)
  refine JL.q (OQ.pure (v:=.agg ((⟨a.a0+b.a0,a.a1+b.a1,a.a2+b.a2,a.a3+b.a3,a.a4+b.a4⟩ : N5).l.map aj).toArray) rfl rfl (by kernel_rfl)) rfl ?_
  refine JL.q (OQ.au kJ rfl fun w' _=>cc w') rfl ?_
  refine JL.ag (cs:=(pR a b).l.map aj) cg rfl rfl rfl (bn _) .here rfl ?_
  repeat (first | refine JL.nil ?_ | refine JE.next ?_)
  refine JC.ret (JE.aR rfl (RV.av eG cg rfl .here rfl Row.all) ?_)
  exact fun w' hw=>⟨rfl,hw.aM⟩
set_option maxHeartbeats 8000000 in
theorem gu (a b : N5) (w : World) : Calls Tryz.prog 97 [.agg (a.l.map aj).toArray,.agg (b.l.map aj).toArray].toArray w fun e w'=>e=.returned (.agg ((nW a b).l.map aj).toArray)∧Ext w w':=by
  have c0 : (a.l.map aj)[0]?=some (aj a.a0):=rfl
  have c1 : (a.l.map aj)[1]?=some (aj a.a1):=rfl
  have c2 : (a.l.map aj)[2]?=some (aj a.a2):=rfl
  have c3 : (a.l.map aj)[3]?=some (aj a.a3):=rfl
  have c4 : (a.l.map aj)[4]?=some (aj a.a4):=rfl
  have d0 : (b.l.map aj)[0]?=some (aj b.a0):=rfl
  have d1 : (b.l.map aj)[1]?=some (aj b.a1):=rfl
  have d2 : (b.l.map aj)[2]?=some (aj b.a2):=rfl
  have d3 : (b.l.map aj)[3]?=some (aj b.a3):=rfl
  have d4 : (b.l.map aj)[4]?=some (aj b.a4):=rfl
  have cc:=lU ⟨a.a0+4503599627370458#64 - b.a0,a.a1+4503599627370494#64 - b.a1,a.a2+4503599627370494#64 - b.a2,a.a3+4503599627370494#64 - b.a3,a.a4+4503599627370494#64 - b.a4⟩
  refine enter (n:=37) Tryz.func97 rfl rfl rfl (ah.start w []) ?_
  repeat (first | refine JC.seq ?_ | refine JC.region ?_)
  refine JL.box (r:=a.l.map aj) rfl rfl rfl fun b2 _=>?_
  refine JL.box (r:=b.l.map aj) rfl rfl rfl fun b3 _=>?_
  refine JL.alloc mP rfl fun b4 _=>?_
  repeat (first | refine JL.q (by first|(apply OQ.aD;exact Tryz.underlying118;exact xV;rfl;rfl;exact (by decide))|(apply OQ.load;exact fZ;rfl;exact (.there (.there .here));exact (Row.cell c0))|(apply OQ.load;exact fZ;rfl;exact (.there (.there .here));exact (Row.cell c1))|(apply OQ.load;exact fZ;rfl;exact (.there (.there .here));exact (Row.cell c2))|(apply OQ.load;exact fZ;rfl;exact (.there (.there .here));exact (Row.cell c3))|(apply OQ.load;exact fZ;rfl;exact (.there (.there .here));exact (Row.cell c4))|(apply OQ.load;exact fZ;rfl;exact (.there .here);exact (Row.cell d0))|(apply OQ.load;exact fZ;rfl;exact (.there .here);exact (Row.cell d1))|(apply OQ.load;exact fZ;rfl;exact (.there .here);exact (Row.cell d2))|(apply OQ.load;exact fZ;rfl;exact (.there .here);exact (Row.cell d3))|(apply OQ.load;exact fZ;rfl;exact (.there .here);exact (Row.cell d4))|(apply OQ.oe (b:=4503599627370458#64);rfl;rfl)|(apply OQ.oe (b:=4503599627370494#64);rfl;rfl)|(apply OQ.yV;rfl;rfl)) rfl ?_ | refine JC.seq ?_ | refine JC.region ?_ | refine JL.nil ?_ | refine JE.next ?_)
  refine JL.q (OQ.pure (v:=.agg ((⟨a.a0+4503599627370458#64 - b.a0,a.a1+4503599627370494#64 - b.a1,a.a2+4503599627370494#64 - b.a2,a.a3+4503599627370494#64 - b.a3,a.a4+4503599627370494#64 - b.a4⟩ : N5).l.map aj).toArray) rfl rfl (by kernel_rfl)) rfl ?_
  refine JL.q (OQ.au kJ rfl fun w' _=>cc w') rfl ?_
  refine JL.ag (cs:=(nW a b).l.map aj) cg rfl rfl rfl (bn _) .here rfl ?_
  repeat (first | refine JL.nil ?_ | refine JE.next ?_)
  refine JC.ret (JE.aR rfl (RV.av eG cg rfl .here rfl Row.all) ?_)
  exact fun w' hw=>⟨rfl,hw.aM⟩
set_option maxHeartbeats 8000000 in
theorem oP (k : List By) (hk : k.length=32) (p : Nat) (hp : p<4) (w : World) : Calls Tryz.prog 94 [.agg (k.map U8).toArray,N p].toArray w fun e w'=>e=.returned (aj (tc k p 8))∧Ext w w':=by
  refine enter (n:=24) Tryz.func94 rfl rfl rfl (ah.start w []) ?_
  repeat (first | refine JC.seq ?_ | refine JC.region ?_)
  refine JL.box (r:=k.map U8) rfl rfl rfl fun b2 _=>?_
  repeat (first | refine JL.q (by first|(apply OQ.move;rfl)|(apply OQ.assign;rfl)) rfl ?_ | refine JC.seq ?_ | refine JC.region ?_ | refine JC.block ?_ | refine JL.nil ?_ | refine JE.next ?_)
  refine JC.loop (fun i : Nat=>[(1,N p),(2,Pt b2 0),(5,aj (tc k p i)),(7,N i)]) (fun _=>[⟨b2,Row 23 (k.map U8),true⟩])
    (fun i=>8 - i) (fun i=>i≤8) 0 (by omega) (by repeat (first | exact ai.nil | refine ai.cons _ _ _ rfl ?_)) (an.refl _) ?_
  intro i hi
  repeat (first | refine JL.q (by (apply OQ.bN;rfl;rfl)) rfl ?_ | refine JC.seq ?_ | refine JC.region ?_ | refine JL.nil ?_ | refine JE.next ?_)
  refine JC.cond rfl (fun h=>?_) (fun h=>?_)
  · have hi' : i<8:=of_decide_eq_true h
    clear h hi
    have hc:=kD (l:=k) (i:=8 * p+i) (by omega)
    repeat (first | refine JL.q (by first|(apply OQ.aD;exact Tryz.underlying23;exact wB;rfl;rfl;exact (by (try simp only []);omega))|(apply OQ.load;exact GL;rfl;exact .here;exact (Row.cell hc))|(apply OQ.rj;rfl;rfl;rfl)|(apply OQ.tV;rfl;rfl)|(apply OQ.BK;rfl;rfl)|(apply OQ.move;rfl)|(apply OQ.assign;rfl)|(apply OQ.aY;rfl;rfl;exact (by (try simp only []);omega))|(apply OQ.iJ;rfl;rfl;exact (by (try simp only []);omega))) rfl ?_ | refine JC.seq ?_ | refine JC.region ?_ | refine JC.block ?_ | refine JC.skip ?_ | refine JL.nil ?_ | refine JE.next ?_ | refine JE.aq ?_)
    exact JE.again (i:=i) (i+1) (by omega) (by omega) (by repeat (first | exact ai.nil | refine ai.cons _ _ _ rfl ?_)) (an.refl _)
  · have hi' : ¬ i<8:=of_decide_eq_false h
    obtain rfl : i=8:=by omega
    clear h hi hi'
    generalize tc k p 8=X
    repeat (first | refine JL.q (by first|(apply OQ.move;rfl)|(apply OQ.assign;rfl)) rfl ?_ | refine JC.seq ?_ | refine JC.region ?_ | refine JC.exit ?_ | refine JL.nil ?_ | refine JE.next ?_ | refine JE.ax ?_ | refine JE.aA ?_)
    refine JC.ret (JE.aR rfl (RV.tmp rfl) ?_)
    exact fun w' hw=>⟨rfl,hw.aM⟩
theorem tD : aL Tryz.prog 75:=⟨_,Tryz.func75,rfl,by kernel_rfl⟩
set_option maxHeartbeats 8000000 in
theorem vT (u : List By) (hu : u.length=32) (w : World) : Calls Tryz.prog 75 [.agg (u.map U8).toArray].toArray w fun e w'=>e=.returned (.agg ((cv u).l.map aj).toArray)∧Ext w w':=by
  have hlu : (u.map U8).length=32:=by rw [List.length_map];exact hu
  have c0:=oP u hu 0 (by decide)
  have c1:=oP u hu 1 (by decide)
  have c2:=oP u hu 2 (by decide)
  have c3:=oP u hu 3 (by decide)
  have e : cv u=zY (tc u 0 8) (tc u 1 8) (tc u 2 8) (tc u 3 8):=rfl
  rw [e]
  generalize tc u 0 8=W0 at *
  generalize tc u 1 8=W1 at *
  generalize tc u 2 8=W2 at *
  generalize tc u 3 8=W3 at *
  clear e
  refine enter (n:=39) Tryz.func75 rfl rfl rfl (ah.start w []) ?_
  repeat (first | refine JC.seq ?_ | refine JC.region ?_)
  refine JL.box (r:=u.map U8) rfl rfl rfl fun b1 _=>?_
  refine JL.alloc mP rfl fun b2 _=>?_
  repeat (first | refine JC.seq ?_ | refine JL.nil ?_ | refine JE.next ?_)
  refine JC.quiet eP (by kernel_rfl) ?_
  repeat (first | refine JL.q (by first|(apply OQ.af (cs:=u.map U8);exact aQ;exact aB;rfl;exact (.there .here);exact hlu;exact Row.all)|(apply OQ.au (vs:=[.agg (u.map U8).toArray,N 0]);exact gf;rfl;exact (fun w' _=>c0 w'))|(apply OQ.au (vs:=[.agg (u.map U8).toArray,N 1]);exact gf;rfl;exact (fun w' _=>c1 w'))|(apply OQ.au (vs:=[.agg (u.map U8).toArray,N 2]);exact gf;rfl;exact (fun w' _=>c2 w'))|(apply OQ.au (vs:=[.agg (u.map U8).toArray,N 3]);exact gf;rfl;exact (fun w' _=>c3 w'))|(apply OQ.m9 (b:=2251799813685247#64);rfl;rfl)|(apply OQ.tV;rfl;rfl)|(apply OQ.BK;rfl;rfl)|(apply OQ.move;rfl)|(apply OQ.assign;rfl)|(apply OQ.jF;rfl;rfl)) rfl ?_ | refine JQ.q (by first|(apply OQ.af (cs:=u.map U8);exact aQ;exact aB;rfl;exact (.there .here);exact hlu;exact Row.all)|(apply OQ.au (vs:=[.agg (u.map U8).toArray,N 0]);exact gf;rfl;exact (fun w' _=>c0 w'))|(apply OQ.au (vs:=[.agg (u.map U8).toArray,N 1]);exact gf;rfl;exact (fun w' _=>c1 w'))|(apply OQ.au (vs:=[.agg (u.map U8).toArray,N 2]);exact gf;rfl;exact (fun w' _=>c2 w'))|(apply OQ.au (vs:=[.agg (u.map U8).toArray,N 3]);exact gf;rfl;exact (fun w' _=>c3 w'))|(apply OQ.m9 (b:=2251799813685247#64);rfl;rfl)|(apply OQ.tV;rfl;rfl)|(apply OQ.BK;rfl;rfl)|(apply OQ.move;rfl)|(apply OQ.assign;rfl)|(apply OQ.jF;rfl;rfl)) rfl ?_ | refine JC.seq ?_ | refine JC.region ?_ | refine JQ.nil ?_ | refine JE.next ?_)
  refine JL.q (OQ.pure (v:=.agg ((zY W0 W1 W2 W3).l.map aj).toArray) rfl rfl (by kernel_rfl)) rfl ?_
  refine JL.ag (cs:=(zY W0 W1 W2 W3).l.map aj) cg rfl rfl rfl (bn _) .here rfl ?_
  repeat (first | refine JL.nil ?_ | refine JE.next ?_)
  refine JC.ret (JE.aR rfl (RV.av eG cg rfl .here rfl Row.all) ?_)
  exact fun w' hw=>⟨rfl,hw.aM⟩
end
section
set_option maxRecDepth 10000
open Sl dW
def mulC (a b : dS) : dS:=
  (a >>> 32) * (b >>> 32)+((a >>> 32) * (b &&& 4294967295#64)+((a &&& 4294967295#64) * (b &&& 4294967295#64)) >>> 32) >>> 32 +
    ((((a >>> 32) * (b &&& 4294967295#64)+((a &&& 4294967295#64) * (b &&& 4294967295#64)) >>> 32) &&& 4294967295#64)+(a &&& 4294967295#64) * (b >>> 32)) >>> 32
theorem z5 (x : dS) : (x &&& 4294967295#64).toNat=x.toNat % 4294967296:=by
  rw [BitVec.toNat_and,show (4294967295#64).toNat=2 ^ 32 - 1 from rfl,Nat.and_two_pow_sub_one_eq_mod]
theorem vU {x y : dS} (hx : x.toNat<4294967296) (hy : y.toNat<4294967296) : (x * y).toNat=x.toNat * y.toNat∧x.toNat * y.toNat≤18446744065119617025:=by
  have h : x.toNat * y.toNat≤4294967295 * 4294967295:=Nat.mul_le_mul (by omega) (by omega)
  refine ⟨?_,by omega⟩
  rw [BitVec.toNat_mul]
  exact Nat.mod_eq_of_lt (by omega)
theorem JH (x1 x0 y1 y0 : Nat) : (x1 * 4294967296+x0) * (y1 * 4294967296+y0)=x1 * y1 * 18446744073709551616+(x1 * y0+x0 * y1) * 4294967296+x0 * y0:=by
  grind
theorem G3 (a b : dS) : mulC a b=sr a b:=by
  apply BitVec.eq_of_toNat_eq
  rw [su]
  have ha:=a.isLt
  have hb:=b.isLt
  have a1:=di a 32
  have b1:=di b 32
  have a0:=z5 a
  have b0:=z5 b
  have ea : a.toNat=a.toNat / 4294967296 * 4294967296+a.toNat % 4294967296:=by omega
  have eb : b.toNat=b.toNat / 4294967296 * 4294967296+b.toNat % 4294967296:=by omega
  have e:=JH (a.toNat / 4294967296) (a.toNat % 4294967296) (b.toNat / 4294967296) (b.toNat % 4294967296)
  rw [← ea,← eb] at e
  unfold mulC
  have h1 : (a >>> 32).toNat<4294967296:=by omega
  have h2 : (b >>> 32).toNat<4294967296:=by omega
  have h3 : (a &&& 4294967295#64).toNat<4294967296:=by omega
  have h4 : (b &&& 4294967295#64).toNat<4294967296:=by omega
  have p11:=vU h1 h2
  have p10:=vU h1 h4
  have p01:=vU h3 h2
  have p00:=vU h3 h4
  rw [a1,b1] at p11
  rw [a1,b0] at p10
  rw [a0,b1] at p01
  rw [a0,b0] at p00
  clear ha hb ea eb h1 h2 h3 h4 a1 b1 a0 b0
  rw [show (2 : Nat) ^ 32=4294967296 from rfl] at *
  generalize (a >>> 32) * (b >>> 32)=q11 at *
  generalize (a >>> 32) * (b &&& 4294967295#64)=q10 at *
  generalize (a &&& 4294967295#64) * (b >>> 32)=q01 at *
  generalize (a &&& 4294967295#64) * (b &&& 4294967295#64)=q00 at *
  generalize a.toNat * b.toNat=pr at *
  generalize a.toNat / 4294967296 * (b.toNat / 4294967296)=n11 at *
  generalize a.toNat / 4294967296 * (b.toNat % 4294967296)=n10 at *
  generalize a.toNat % 4294967296 * (b.toNat / 4294967296)=n01 at *
  generalize a.toNat % 4294967296 * (b.toNat % 4294967296)=n00 at *
  have s1:=di q00 32
  have t1:=toNat_add (x:=q10) (y:=q00 >>> 32) (by omega)
  have s2:=di (q10+q00 >>> 32) 32
  have m1:=z5 (q10+q00 >>> 32)
  have t2:=toNat_add (x:=(q10+q00 >>> 32) &&& 4294967295#64) (y:=q01) (by omega)
  have s3:=di (((q10+q00 >>> 32) &&& 4294967295#64)+q01) 32
  have hbd : pr<18446744073709551616 * 18446744073709551616:=by omega
  have u1:=toNat_add (x:=q11) (y:=(q10+q00 >>> 32) >>> 32) (by omega)
  have u2:=toNat_add (x:=q11+(q10+q00 >>> 32) >>> 32) (y:=(((q10+q00 >>> 32) &&& 4294967295#64)+q01) >>> 32) (by omega)
  rw [u2,u1,s3,t2,m1,s2,t1,s1]
  omega
theorem sA : aL Tryz.prog 112:=⟨_,Tryz.func112,rfl,by kernel_rfl⟩
theorem E5 : HK Tryz.prog 113:=⟨_,Tryz.func113,by kernel_rfl,by kernel_rfl,by kernel_rfl,by kernel_rfl⟩
set_option maxHeartbeats 8000000 in
theorem uD (a b : dS) (w : World) : Calls Tryz.prog 112 [aj a,aj b].toArray w fun e w'=>e=.returned (.tuple #[aj (sr a b),aj (a * b)])∧Ext w w':=by
  rw [← G3]
  refine enter (n:=51) Tryz.func112 rfl rfl rfl (ah.start w []) ?_
  repeat (first | refine JL.q (by first|(apply OQ.m9 (b:=4294967295#64);rfl;rfl)|(apply OQ.qb;rfl;rfl)|(apply OQ.move;rfl)|(apply OQ.assign;rfl)|(apply OQ.oe;rfl;rfl)|(apply OQ.jF;rfl;rfl)) rfl ?_ | refine JC.seq ?_ | refine JC.region ?_ | refine JL.nil ?_ | refine JE.next ?_)
  refine JC.ret ?_
  refine JE.gI rfl (RV.tmp rfl) (RV.tmp rfl) ?_
  exact fun w' hw=>⟨rfl,hw.aM⟩
theorem G4 : dP Tryz.prog 150=some 2:=by kernel_rfl
theorem JI : gy Tryz.prog 150=true:=by kernel_rfl
theorem ND : zc Tryz.prog 150=some ((⟨0,0⟩ : W2).l.map aj):=by kernel_rfl
theorem vV : aL Tryz.prog 99:=⟨_,Tryz.func99,rfl,by kernel_rfl⟩
theorem Cz : aL Tryz.prog 100:=⟨_,Tryz.func100,rfl,by kernel_rfl⟩
theorem CA : aL Tryz.prog 111:=⟨_,Tryz.func111,rfl,by kernel_rfl⟩
theorem xW : aL Tryz.prog 98:=⟨_,Tryz.func98,rfl,by kernel_rfl⟩
theorem aO : aL Tryz.prog 78:=⟨_,Tryz.func78,rfl,by kernel_rfl⟩
set_option maxHeartbeats 8000000 in
theorem xX (a b : dS) (w : World) : Calls Tryz.prog 99 [aj a,aj b].toArray w fun e w'=>e=.returned (.agg ((yF a b).l.map aj).toArray)∧Ext w w':=by
  refine enter (n:=16) Tryz.func99 rfl rfl rfl (ah.start w []) ?_
  repeat (first | refine JC.seq ?_ | refine JC.region ?_)
  refine JL.alloc ND rfl fun b4 _=>?_
  repeat (first | refine JL.q (by first|(apply OQ.au;exact sA;rfl;exact (fun w' _=>uD a b w'))|(apply OQ.extract;rfl;rfl)|(apply OQ.move;rfl)|(apply OQ.assign;rfl)) rfl ?_ | refine JC.seq ?_ | refine JC.region ?_ | refine JL.nil ?_ | refine JE.next ?_)
  refine JL.q (OQ.pure (v:=.agg ((yF a b).l.map aj).toArray) rfl rfl (by kernel_rfl)) rfl ?_
  refine JL.ag (cs:=(yF a b).l.map aj) G4 rfl rfl rfl (bn _) .here rfl ?_
  repeat (first | refine JL.nil ?_ | refine JE.next ?_)
  refine JC.ret (JE.aR rfl (RV.av JI G4 rfl .here rfl Row.all) ?_)
  exact fun w' hw=>⟨rfl,hw.aM⟩
theorem JK (a b : dS) : (Ip a b).toNat≤1:=by
  rw [zV]
  have:=a.isLt
  have:=b.isLt
  omega
theorem JM (a b : dS) : (a+b).toNat=(a.toNat+b.toNat+(0#64 : dS).toNat) % 18446744073709551616:=by
  rw [BitVec.toNat_add];rfl
theorem JN (a b : dS) : (Ip a b).toNat=(a.toNat+b.toNat+(0#64 : dS).toNat) / 18446744073709551616:=zV a b
theorem JO (a b c : dS) : (a+b+c).toNat=(a.toNat+b.toNat+c.toNat) % 18446744073709551616:=by
  rw [BitVec.toNat_add,BitVec.toNat_add]
  omega
theorem JP (a b c : dS) : (BitVec.ofNat 64 ((a.toNat+b.toNat+c.toNat) / 18446744073709551616)).toNat=(a.toNat+b.toNat+c.toNat) / 18446744073709551616:=by
  rw [BitVec.toNat_ofNat]
  have:=a.isLt
  have:=b.isLt
  have:=c.isLt
  omega
set_option maxHeartbeats 8000000 in
theorem E6 (v : W2) (a b : dS) (w : World) : Calls Tryz.prog 100 [.agg (v.l.map aj).toArray,aj a,aj b].toArray w fun e w'=>e=.returned (.agg ((kH v a b).l.map aj).toArray)∧Ext w w':=by
  have c0 : (v.l.map aj)[0]?=some (aj v.hi):=rfl
  have c1 : (v.l.map aj)[1]?=some (aj v.lo):=rfl
  refine enter (n:=34) Tryz.func100 rfl rfl rfl (ah.start w []) ?_
  repeat (first | refine JC.seq ?_ | refine JC.region ?_)
  refine JL.box (r:=v.l.map aj) rfl rfl rfl fun b3 _=>?_
  refine JL.alloc ND rfl fun b6 _=>?_
  repeat (first | refine JL.q (by first|(apply OQ.au;exact sA;rfl;exact (fun w' _=>uD a b w'))|(apply OQ.extract;rfl;rfl)|(apply OQ.load;exact fZ;rfl;exact (.there .here);exact (Row.cell c1))|(apply OQ.load;exact fZ;rfl;exact (.there .here);exact (Row.cell c0))|(apply OQ.DG (c:=0#64) (s:=v.lo+a * b) (o:=Ip v.lo (a * b));exact E5;rfl;rfl;rfl;exact (by decide);exact (JM _ _);exact (JN _ _))|(apply OQ.DG (c:=Ip v.lo (a * b)) (s:=v.hi+sr a b+Ip v.lo (a * b));exact E5;rfl;rfl;rfl;exact (JK _ _);exact (JO _ _ _);exact (JP _ _ _))|(apply OQ.move;rfl)|(apply OQ.assign;rfl)|(apply OQ.bM;rfl;rfl;rfl;exact (by decide);rfl)) rfl ?_ | refine JC.seq ?_ | refine JC.region ?_ | refine JL.nil ?_ | refine JE.next ?_)
  refine JL.q (OQ.pure (v:=.agg ((kH v a b).l.map aj).toArray) rfl rfl (by kernel_rfl)) rfl ?_
  refine JL.ag (cs:=(kH v a b).l.map aj) G4 rfl rfl rfl (bn _) .here rfl ?_
  repeat (first | refine JL.nil ?_ | refine JE.next ?_)
  refine JC.ret (JE.aR rfl (RV.av JI G4 rfl .here rfl Row.all) ?_)
  exact fun w' hw=>⟨rfl,hw.aM⟩
set_option maxHeartbeats 8000000 in
theorem E7 (v : W2) (w : World) : Calls Tryz.prog 111 [.agg (v.l.map aj).toArray].toArray w fun e w'=>e=.returned (aj (qO v))∧Ext w w':=by
  have c0 : (v.l.map aj)[0]?=some (aj v.hi):=rfl
  have c1 : (v.l.map aj)[1]?=some (aj v.lo):=rfl
  refine enter (n:=10) Tryz.func111 rfl rfl rfl (ah.start w []) ?_
  repeat (first | refine JC.seq ?_ | refine JC.region ?_)
  refine JL.box (r:=v.l.map aj) rfl rfl rfl fun b1 _=>?_
  repeat (first | refine JL.q (by first|(apply OQ.load;exact fZ;rfl;exact .here;exact (Row.cell c1))|(apply OQ.load;exact fZ;rfl;exact .here;exact (Row.cell c0))|(apply OQ.tV;rfl;rfl)|(apply OQ.BK;rfl;rfl)|(apply OQ.assign;rfl)|(apply OQ.jF;rfl;rfl)|(apply OQ.bM;rfl;rfl;rfl;exact (by decide);rfl)) rfl ?_ | refine JC.seq ?_ | refine JC.region ?_ | refine JL.nil ?_ | refine JE.next ?_)
  refine JC.ret (JE.aR rfl (RV.tmp rfl) ?_)
  exact fun w' hw=>⟨rfl,hw.aM⟩
set_option maxHeartbeats 16000000 in
theorem z7 (v0 v1 v2 v3 v4 : W2) (w : World) : Calls Tryz.prog 98 [.agg (v0.l.map aj).toArray,.agg (v1.l.map aj).toArray,.agg (v2.l.map aj).toArray,.agg (v3.l.map aj).toArray,.agg (v4.l.map aj).toArray].toArray w
    fun e w'=>e=.returned (.agg ((Ll v0 v1 v2 v3 v4).l.map aj).toArray)∧Ext w w':=by
  have c0 : (v0.l.map aj)[1]?=some (aj v0.lo):=rfl
  have c1 : (v1.l.map aj)[1]?=some (aj v1.lo):=rfl
  have c2 : (v2.l.map aj)[1]?=some (aj v2.lo):=rfl
  have c3 : (v3.l.map aj)[1]?=some (aj v3.lo):=rfl
  have c4 : (v4.l.map aj)[1]?=some (aj v4.lo):=rfl
  have cc:=lU ⟨(v0.lo &&& 2251799813685247#64)+19#64 * qO v4,(v1.lo &&& 2251799813685247#64)+qO v0,(v2.lo &&& 2251799813685247#64)+qO v1,(v3.lo &&& 2251799813685247#64)+qO v2,(v4.lo &&& 2251799813685247#64)+qO v3⟩
  refine enter (n:=44) Tryz.func98 rfl rfl rfl (ah.start w []) ?_
  repeat (first | refine JC.seq ?_ | refine JC.region ?_)
  refine JL.box (r:=v0.l.map aj) rfl rfl rfl fun b5 _=>?_
  refine JL.box (r:=v1.l.map aj) rfl rfl rfl fun b6 _=>?_
  refine JL.box (r:=v2.l.map aj) rfl rfl rfl fun b7 _=>?_
  refine JL.box (r:=v3.l.map aj) rfl rfl rfl fun b8 _=>?_
  refine JL.box (r:=v4.l.map aj) rfl rfl rfl fun b9 _=>?_
  refine JL.alloc mP rfl fun b10 _=>?_
  repeat (first | refine JC.seq ?_ | refine JL.nil ?_ | refine JE.next ?_)
  refine JC.tail 33 eP (by kernel_rfl) ?_
  simp only [List.take_succ_cons,List.take_zero,List.drop_succ_cons,List.drop_zero]
  repeat (refine JQ.q (by first|(apply OQ.load;exact fZ;rfl;exact (by repeat (first | exact Has.here | apply Has.there));exact (Row.cell c0))|(apply OQ.load;exact fZ;rfl;exact (by repeat (first | exact Has.here | apply Has.there));exact (Row.cell c1))|(apply OQ.load;exact fZ;rfl;exact (by repeat (first | exact Has.here | apply Has.there));exact (Row.cell c2))|(apply OQ.load;exact fZ;rfl;exact (by repeat (first | exact Has.here | apply Has.there));exact (Row.cell c3))|(apply OQ.load;exact fZ;rfl;exact (by repeat (first | exact Has.here | apply Has.there));exact (Row.cell c4))|(apply OQ.af (cs:=v0.l.map aj);exact JI;exact G4;rfl;exact (by repeat (first | exact Has.here | apply Has.there));rfl;exact Row.all)|(apply OQ.af (cs:=v1.l.map aj);exact JI;exact G4;rfl;exact (by repeat (first | exact Has.here | apply Has.there));rfl;exact Row.all)|(apply OQ.af (cs:=v2.l.map aj);exact JI;exact G4;rfl;exact (by repeat (first | exact Has.here | apply Has.there));rfl;exact Row.all)|(apply OQ.af (cs:=v3.l.map aj);exact JI;exact G4;rfl;exact (by repeat (first | exact Has.here | apply Has.there));rfl;exact Row.all)|(apply OQ.af (cs:=v4.l.map aj);exact JI;exact G4;rfl;exact (by repeat (first | exact Has.here | apply Has.there));rfl;exact Row.all)|(apply OQ.au;exact CA;rfl;exact (fun w' _=>E7 _ w'))|(apply OQ.m9 (b:=2251799813685247#64);rfl;rfl)|(apply OQ.qb (a:=19#64);rfl;rfl)|(apply OQ.oe;rfl;rfl)|(apply OQ.bM;rfl;rfl;rfl;exact (by decide);rfl)) rfl ?_)
  refine JQ.q (OQ.pure (v:=.agg ((⟨(v0.lo &&& 2251799813685247#64)+19#64 * qO v4,(v1.lo &&& 2251799813685247#64)+qO v0,(v2.lo &&& 2251799813685247#64)+qO v1,(v3.lo &&& 2251799813685247#64)+qO v2,(v4.lo &&& 2251799813685247#64)+qO v3⟩ : N5).l.map aj).toArray) rfl rfl (by kernel_rfl)) rfl ?_
  refine JQ.q (OQ.au kJ rfl fun w' _=>cc w') rfl ?_
  repeat (refine JQ.bC ?_)
  refine JL.ag (cs:=(Ll v0 v1 v2 v3 v4).l.map aj) cg rfl rfl rfl (bn _) .here rfl ?_
  repeat (first | refine JL.nil ?_ | refine JE.next ?_)
  refine JC.ret (JE.aR rfl (RV.av eG cg rfl .here rfl Row.all) ?_)
  exact fun w' hw=>⟨rfl,hw.aM⟩
end
section
set_option maxRecDepth 10000
open Sl dW
set_option maxHeartbeats 32000000 in
set_option maxRecDepth 4000 in
theorem aT (a b : N5) (w : World) : Calls Tryz.prog 78 [.agg (a.l.map aj).toArray,.agg (b.l.map aj).toArray].toArray w fun e w'=>e=.returned (.agg ((cO a b).l.map aj).toArray)∧Ext w w':=by
  have c0 : (a.l.map aj)[0]?=some (aj a.a0):=rfl
  have c1 : (a.l.map aj)[1]?=some (aj a.a1):=rfl
  have c2 : (a.l.map aj)[2]?=some (aj a.a2):=rfl
  have c3 : (a.l.map aj)[3]?=some (aj a.a3):=rfl
  have c4 : (a.l.map aj)[4]?=some (aj a.a4):=rfl
  have d0 : (b.l.map aj)[0]?=some (aj b.a0):=rfl
  have d1 : (b.l.map aj)[1]?=some (aj b.a1):=rfl
  have d2 : (b.l.map aj)[2]?=some (aj b.a2):=rfl
  have d3 : (b.l.map aj)[3]?=some (aj b.a3):=rfl
  have d4 : (b.l.map aj)[4]?=some (aj b.a4):=rfl
  refine enter (n:=123) Tryz.func78 rfl rfl rfl (ah.start w []) ?_
  repeat (first | refine JC.seq ?_ | refine JC.region ?_)
  refine JL.box (r:=a.l.map aj) rfl rfl rfl fun b2 _=>?_
  refine JL.box (r:=b.l.map aj) rfl rfl rfl fun b3 _=>?_
  refine JL.alloc mP rfl fun b4 _=>?_
  repeat (first | refine JC.seq ?_ | refine JL.nil ?_ | refine JE.next ?_)
  refine JC.quiet eP (by kernel_rfl) ?_
  repeat (first | refine JQ.q (by first|(apply OQ.aD;exact Tryz.underlying118;exact xV;rfl;rfl;exact (by decide))|(apply OQ.load;exact fZ;rfl;exact (.there (.there .here));exact (Row.cell c0))|(apply OQ.load;exact fZ;rfl;exact (.there (.there .here));exact (Row.cell c1))|(apply OQ.load;exact fZ;rfl;exact (.there (.there .here));exact (Row.cell c2))|(apply OQ.load;exact fZ;rfl;exact (.there (.there .here));exact (Row.cell c3))|(apply OQ.load;exact fZ;rfl;exact (.there (.there .here));exact (Row.cell c4))|(apply OQ.assign;rfl)) rfl ?_ | refine JC.seq ?_ | refine JQ.nil ?_ | refine JE.next ?_)
  refine JC.quiet eP (by kernel_rfl) ?_
  repeat (first | refine JL.q (by first|(apply OQ.aD;exact Tryz.underlying118;exact xV;rfl;rfl;exact (by decide))|(apply OQ.load;exact fZ;rfl;exact (.there .here);exact (Row.cell d0))|(apply OQ.load;exact fZ;rfl;exact (.there .here);exact (Row.cell d1))|(apply OQ.load;exact fZ;rfl;exact (.there .here);exact (Row.cell d2))|(apply OQ.load;exact fZ;rfl;exact (.there .here);exact (Row.cell d3))|(apply OQ.load;exact fZ;rfl;exact (.there .here);exact (Row.cell d4))|(apply OQ.qb (a:=19#64);rfl;rfl)|(apply OQ.move;rfl)|(apply OQ.assign;rfl)) rfl ?_ | refine JQ.q (by first|(apply OQ.aD;exact Tryz.underlying118;exact xV;rfl;rfl;exact (by decide))|(apply OQ.load;exact fZ;rfl;exact (.there .here);exact (Row.cell d0))|(apply OQ.load;exact fZ;rfl;exact (.there .here);exact (Row.cell d1))|(apply OQ.load;exact fZ;rfl;exact (.there .here);exact (Row.cell d2))|(apply OQ.load;exact fZ;rfl;exact (.there .here);exact (Row.cell d3))|(apply OQ.load;exact fZ;rfl;exact (.there .here);exact (Row.cell d4))|(apply OQ.qb (a:=19#64);rfl;rfl)|(apply OQ.move;rfl)|(apply OQ.assign;rfl)) rfl ?_ | refine JC.seq ?_ | refine JC.region ?_ | refine JL.nil ?_ | refine JQ.nil ?_ | refine JE.next ?_)
  simp only [List.append]
  repeat (refine JL.q (by first|(apply OQ.au;exact vV;rfl;exact (fun w' _=>xX _ _ w'))|(apply OQ.au;exact Cz;rfl;exact (fun w' _=>E6 _ _ _ w'))|(apply OQ.move;rfl)) rfl ?_)
  refine JL.q (OQ.au xW rfl fun w' _=>z7 _ _ _ _ _ w') rfl ?_
  refine JL.ag (cs:=(cO a b).l.map aj) cg rfl rfl rfl (bn _) .here rfl ?_
  repeat (first | refine JL.nil ?_ | refine JE.next ?_)
  refine JC.ret (JE.aR rfl (RV.av eG cg rfl .here rfl Row.all) ?_)
  exact fun w' hw=>⟨rfl,hw.aM⟩
theorem cq : aL Tryz.prog 101:=⟨_,Tryz.func101,rfl,by kernel_rfl⟩
theorem vW : aL Tryz.prog 79:=⟨_,Tryz.func79,rfl,by kernel_rfl⟩
set_option maxHeartbeats 8000000 in
theorem c9 (a : N5) (k : Nat) (hk : k<1000) (w : World) : Calls Tryz.prog 101 [.agg (a.l.map aj).toArray,N k].toArray w fun e w'=>e=.returned (.agg ((mZ a k).l.map aj).toArray)∧Ext w w':=by
  refine enter (n:=13) Tryz.func101 rfl rfl rfl (ah.start w []) ?_
  repeat (first | refine JC.seq ?_ | refine JC.region ?_)
  refine JL.box (r:=a.l.map aj) rfl rfl rfl fun b2 _=>?_
  refine JL.alloc mP rfl fun b4 _=>?_
  repeat (first | refine JL.q (by (apply OQ.move;rfl)) rfl ?_ | refine JC.seq ?_ | refine JC.region ?_ | refine JC.block ?_ | refine JL.nil ?_ | refine JE.next ?_)
  refine JC.loop (fun i : Nat=>[(2,Pt b2 0),(4,Pt b4 0),(5,N k),(6,N i)]) (fun i=>[⟨b4,Row 118 (bG.l.map aj),true⟩,⟨b2,Row 118 ((mZ a i).l.map aj),true⟩])
    (fun i=>k - i) (fun i=>i≤k) 0 (by omega) (by repeat (first | exact ai.nil | refine ai.cons _ _ _ rfl ?_)) (an.refl _) ?_
  intro i hi
  repeat (first | refine JL.q (by (apply OQ.bN;rfl;rfl)) rfl ?_ | refine JC.seq ?_ | refine JC.region ?_ | refine JL.nil ?_ | refine JE.next ?_)
  refine JC.cond rfl (fun h=>?_) (fun h=>?_)
  · have hi' : i<k:=of_decide_eq_true h
    clear h hi
    have c:=aT (mZ a i) (mZ a i)
    repeat (first | refine JL.q (by first|(apply OQ.af (cs:=(mZ a i).l.map aj);exact eG;exact cg;rfl;exact (.there .here);rfl;exact Row.all)|(apply OQ.au;exact aO;rfl;exact (fun w' _=>c w'))) rfl ?_ | refine JC.seq ?_ | refine JC.region ?_ | refine JC.block ?_ | refine JC.skip ?_ | refine JE.next ?_)
    refine JL.ag (cs:=(mZ a (i+1)).l.map aj) cg rfl rfl rfl (bn _) (.there .here) rfl ?_
    repeat (first | refine JL.q (by first|(apply OQ.move;rfl)|(apply OQ.aY;rfl;rfl;exact (by (try simp only []);omega))) rfl ?_ | refine JC.region ?_ | refine JL.nil ?_ | refine JE.next ?_ | refine JE.aq ?_)
    exact JE.again (i:=i) (i+1) (by omega) (by omega) (by repeat (first | exact ai.nil | refine ai.cons _ _ _ rfl ?_)) (an.refl _)
  · have hi' : ¬ i<k:=of_decide_eq_false h
    obtain rfl : i=k:=by omega
    clear h hi hi'
    generalize mZ a i=X
    repeat (first | refine JL.q (by (apply OQ.af (cs:=X.l.map aj);exact eG;exact cg;rfl;exact (.there .here);rfl;exact Row.all)) rfl ?_ | refine JC.seq ?_ | refine JC.region ?_ | refine JC.exit ?_ | refine JE.next ?_ | refine JE.ax ?_ | refine JE.aA ?_)
    refine JL.ag (cs:=X.l.map aj) cg rfl rfl rfl (bn _) .here rfl ?_
    repeat (first | refine JL.nil ?_ | refine JE.next ?_)
    refine JC.ret (JE.aR rfl (RV.av eG cg rfl .here rfl Row.all) ?_)
    exact fun w' hw=>⟨rfl,hw.aM⟩
end
section
set_option maxRecDepth 10000
open Sl dW
set_option maxHeartbeats 64000000 in
set_option maxRecDepth 4000 in
theorem xY (n : N5) (w : World) : Calls Tryz.prog 79 [.agg (n.l.map aj).toArray].toArray w fun e w'=>e=.returned (.agg ((sx n).l.map aj).toArray)∧Ext w w':=by
  have c_two:=c9 n 1 (by decide)
  generalize h_two : mZ n 1=two at c_two
  have c_q2:=c9 two 2 (by decide)
  generalize h_q2 : mZ two 2=q2 at c_q2
  have c_nine:=aT q2 n
  generalize h_nine : cO q2 n=nine at c_nine
  have c_elv:=aT nine two
  generalize h_elv : cO nine two=elv at c_elv
  have c_q4:=c9 elv 1 (by decide)
  generalize h_q4 : mZ elv 1=q4 at c_q4
  have c_o5:=aT q4 nine
  generalize h_o5 : cO q4 nine=o5 at c_o5
  have c_q5:=c9 o5 5 (by decide)
  generalize h_q5 : mZ o5 5=q5 at c_q5
  have c_o10:=aT q5 o5
  generalize h_o10 : cO q5 o5=jT at c_o10
  have c_q6:=c9 jT 10 (by decide)
  generalize h_q6 : mZ jT 10=q6 at c_q6
  have c_o20:=aT q6 jT
  generalize h_o20 : cO q6 jT=nB at c_o20
  have c_q7:=c9 nB 20 (by decide)
  generalize h_q7 : mZ nB 20=q7 at c_q7
  have c_o40:=aT q7 nB
  generalize h_o40 : cO q7 nB=sw at c_o40
  have c_q8:=c9 sw 10 (by decide)
  generalize h_q8 : mZ sw 10=q8 at c_q8
  have c_o50:=aT q8 jT
  generalize h_o50 : cO q8 jT=lR at c_o50
  have c_q9:=c9 lR 50 (by decide)
  generalize h_q9 : mZ lR 50=q9 at c_q9
  have c_o100:=aT q9 lR
  generalize h_o100 : cO q9 lR=ia at c_o100
  have c_q10:=c9 ia 100 (by decide)
  generalize h_q10 : mZ ia 100=q10 at c_q10
  have c_o200:=aT q10 ia
  generalize h_o200 : cO q10 ia=lS at c_o200
  have c_q11:=c9 lS 50 (by decide)
  generalize h_q11 : mZ lS 50=q11 at c_q11
  have c_o250:=aT q11 lR
  generalize h_o250 : cO q11 lR=oN at c_o250
  have c_q12:=c9 oN 5 (by decide)
  generalize h_q12 : mZ oN 5=q12 at c_q12
  have c_fin:=aT q12 elv
  generalize h_fin : cO q12 elv=fin at c_fin
  have eI : sx n=fin:=by
    subst h_fin h_q12 h_o250 h_q11 h_o200 h_q10 h_o100 h_q9 h_o50 h_q8 h_o40 h_q7 h_o20 h_q6 h_o10 h_q5 h_o5 h_q4 h_elv h_nine h_q2 h_two
    rfl
  rw [eI]
  clear eI h_two h_q2 h_nine h_elv h_q4 h_o5 h_q5 h_o10 h_q6 h_o20 h_q7 h_o40 h_q8 h_o50 h_q9 h_o100 h_q10 h_o200 h_q11 h_o250 h_q12 h_fin
  refine enter (n:=59) Tryz.func79 rfl rfl rfl (ah.start w []) ?_
  repeat (first | refine JC.seq ?_ | refine JC.region ?_)
  refine JL.box (r:=n.l.map aj) rfl rfl rfl fun b1 _=>?_
  refine JL.alloc mP rfl fun b2 _=>?_
  repeat (first | refine JL.q (by first|(apply OQ.af (cs:=n.l.map aj);exact eG;exact cg;rfl;exact (by repeat (first | exact Has.here | apply Has.there));rfl;exact Row.all)|(apply OQ.au (vs:=[.agg (n.l.map aj).toArray,N 1]);exact cq;rfl;exact (fun w' _=>c_two w'))) rfl ?_ | refine JC.seq ?_ | refine JC.region ?_ | refine JL.nil ?_ | refine JE.next ?_)
  refine JL.alloc mP rfl fun b3 _=>?_
  refine JL.ag (cs:=two.l.map aj) cg rfl rfl rfl (bn _) .here rfl ?_
  repeat (first | refine JC.seq ?_ | refine JL.nil ?_ | refine JE.next ?_)
  let vs : Nat→Nat→Value:=fun j x=>match j with
    | 0=>.agg (two.l.map aj).toArray
    | 1=>.agg (q2.l.map aj).toArray
    | 2=>.agg (n.l.map aj).toArray
    | 3=>.agg (nine.l.map aj).toArray
    | _=>Pt x 0
  let Ms : Nat→Nat→List aG:=fun j x=>match j with
    | 4=>[⟨x,Row 118 (bG.l.map aj),true⟩]
    | 5=>[⟨x,Row 118 (nine.l.map aj),true⟩]
    | 6=>[⟨b3,Row 118 (two.l.map aj),true⟩]
    | 7=>[⟨b2,Row 118 (bG.l.map aj),true⟩]
    | 8=>[⟨b1,Row 118 (n.l.map aj),true⟩]
    | _=>[]
  refine JC.grow (g:=⟨[(1,Pt b1 0),(2,Pt b2 0),(3,Pt b3 0)],9,vs,Ms,(fun j=>match j with | 1=>[(0,16)] | 3=>[(1,17),(2,18)] | 5=>[(4,4),(3,19)] | _=>[]),(fun j=>match j with | 0=>[6] | 2=>[8] | 5=>[4] | _=>[]),(fun j=>match j with | 5=>[4] | _=>[]),(fun j=>match j with | 5=>some 4 | _=>none)⟩) [(4,4)] [5,6,7,8] eP (by repeat (first | exact ai.nil | refine ai.cons _ _ _ rfl ?_)) (an.refl _) (by kernel_rfl) (by kernel_rfl) (by kernel_rfl) ?_ ?_
  · refine ⟨?_,?_,?_,?_,?_,?_,trivial⟩
    · (intro x EF MF Q kk;exact JL.q (OQ.af (cs:=two.l.map aj) eG cg rfl .here rfl Row.all) rfl (JL.nil (kk default nofun)))
    · (intro x EF MF Q kk;exact JL.q (OQ.au (vs:=[.agg (two.l.map aj).toArray,N 2]) cq rfl fun w' _=>c_q2 w') rfl (JL.nil (kk default nofun)))
    · (intro x EF MF Q kk;exact JL.q (OQ.af (cs:=n.l.map aj) eG cg rfl .here rfl Row.all) rfl (JL.nil (kk default nofun)))
    · (intro x EF MF Q kk;exact JL.q (OQ.au (vs:=[.agg (q2.l.map aj).toArray,.agg (n.l.map aj).toArray]) aO rfl fun w' _=>c_nine w') rfl (JL.nil (kk default nofun)))
    · (intro x EF MF Q kk;exact JL.alloc mP rfl fun b _=>JL.nil (kk b nofun))
    · (intro x EF MF Q kk;exact JL.ag (cs:=nine.l.map aj) cg rfl rfl rfl (bn _) .here rfl (JL.nil (kk (x 4) (fun k h=>by cases h;rfl))))
  · intro x hx
    have h5:=hx 5 4 (by decide) rfl
    show JE _ _ _ _ _ [(4,Pt (x 4) 0),(1,Pt b1 0),(2,Pt b2 0),(3,Pt b3 0)] [⟨(x 5),Row 118 (nine.l.map aj),true⟩,⟨b3,Row 118 (two.l.map aj),true⟩,⟨b2,Row 118 (bG.l.map aj),true⟩,⟨b1,Row 118 (n.l.map aj),true⟩]
    rw [h5]
    generalize x 4=b4
    clear hx h5 x vs Ms
    repeat (first | refine JC.seq ?_ | refine JC.region ?_ | refine JE.next ?_)
    repeat (refine JL.q (by first|(apply OQ.af (cs:=nine.l.map aj);exact eG;exact cg;rfl;exact (by repeat (first | exact Has.here | apply Has.there));rfl;exact Row.all)|(apply OQ.af (cs:=two.l.map aj);exact eG;exact cg;rfl;exact (by repeat (first | exact Has.here | apply Has.there));rfl;exact Row.all)|(apply OQ.au (vs:=[.agg (nine.l.map aj).toArray,.agg (two.l.map aj).toArray]);exact aO;rfl;exact (fun w' _=>c_elv w'))) rfl ?_)
    refine JL.alloc mP rfl fun b5 _=>?_
    refine JL.ag (cs:=elv.l.map aj) cg rfl rfl rfl (bn _) .here rfl ?_
    repeat (first | refine JC.seq ?_ | refine JL.nil ?_ | refine JE.next ?_)
    let vs : Nat→Nat→Value:=fun j x=>match j with
      | 0=>.agg (elv.l.map aj).toArray
      | 1=>.agg (q4.l.map aj).toArray
      | 2=>.agg (nine.l.map aj).toArray
      | 3=>.agg (o5.l.map aj).toArray
      | _=>Pt x 0
    let Ms : Nat→Nat→List aG:=fun j x=>match j with
      | 4=>[⟨x,Row 118 (bG.l.map aj),true⟩]
      | 5=>[⟨x,Row 118 (o5.l.map aj),true⟩]
      | 6=>[⟨b5,Row 118 (elv.l.map aj),true⟩]
      | 7=>[⟨b4,Row 118 (nine.l.map aj),true⟩]
      | 8=>[⟨b3,Row 118 (two.l.map aj),true⟩]
      | 9=>[⟨b2,Row 118 (bG.l.map aj),true⟩]
      | 10=>[⟨b1,Row 118 (n.l.map aj),true⟩]
      | _=>[]
    refine JC.grow (g:=⟨[(5,Pt b5 0),(4,Pt b4 0),(1,Pt b1 0),(2,Pt b2 0),(3,Pt b3 0)],11,vs,Ms,(fun j=>match j with | 1=>[(0,23)] | 3=>[(1,24),(2,25)] | 5=>[(4,6),(3,26)] | _=>[]),(fun j=>match j with | 0=>[6] | 2=>[7] | 5=>[4] | _=>[]),(fun j=>match j with | 5=>[4] | _=>[]),(fun j=>match j with | 5=>some 4 | _=>none)⟩) [(4,6)] [5,6,7,8,9,10] eP (by repeat (first | exact ai.nil | refine ai.cons _ _ _ rfl ?_)) (an.refl _) (by kernel_rfl) (by kernel_rfl) (by kernel_rfl) ?_ ?_
    · refine ⟨?_,?_,?_,?_,?_,?_,trivial⟩
      · (intro x EF MF Q kk;exact JL.q (OQ.af (cs:=elv.l.map aj) eG cg rfl .here rfl Row.all) rfl (JL.nil (kk default nofun)))
      · (intro x EF MF Q kk;exact JL.q (OQ.au (vs:=[.agg (elv.l.map aj).toArray,N 1]) cq rfl fun w' _=>c_q4 w') rfl (JL.nil (kk default nofun)))
      · (intro x EF MF Q kk;exact JL.q (OQ.af (cs:=nine.l.map aj) eG cg rfl .here rfl Row.all) rfl (JL.nil (kk default nofun)))
      · (intro x EF MF Q kk;exact JL.q (OQ.au (vs:=[.agg (q4.l.map aj).toArray,.agg (nine.l.map aj).toArray]) aO rfl fun w' _=>c_o5 w') rfl (JL.nil (kk default nofun)))
      · (intro x EF MF Q kk;exact JL.alloc mP rfl fun b _=>JL.nil (kk b nofun))
      · (intro x EF MF Q kk;exact JL.ag (cs:=o5.l.map aj) cg rfl rfl rfl (bn _) .here rfl (JL.nil (kk (x 4) (fun k h=>by cases h;rfl))))
    · intro x hx
      have h5:=hx 5 4 (by decide) rfl
      show JE _ _ _ _ _ [(6,Pt (x 4) 0),(5,Pt b5 0),(4,Pt b4 0),(1,Pt b1 0),(2,Pt b2 0),(3,Pt b3 0)] [⟨(x 5),Row 118 (o5.l.map aj),true⟩,⟨b5,Row 118 (elv.l.map aj),true⟩,⟨b4,Row 118 (nine.l.map aj),true⟩,⟨b3,Row 118 (two.l.map aj),true⟩,⟨b2,Row 118 (bG.l.map aj),true⟩,⟨b1,Row 118 (n.l.map aj),true⟩]
      rw [h5]
      generalize x 4=b6
      clear hx h5 x vs Ms
      repeat (first | refine JC.seq ?_ | refine JE.next ?_)
      let vs : Nat→Nat→Value:=fun j x=>match j with
        | 0=>.agg (o5.l.map aj).toArray
        | 1=>.agg (q5.l.map aj).toArray
        | 2=>.agg (o5.l.map aj).toArray
        | 3=>.agg (jT.l.map aj).toArray
        | _=>Pt x 0
      let Ms : Nat→Nat→List aG:=fun j x=>match j with
        | 4=>[⟨x,Row 118 (bG.l.map aj),true⟩]
        | 5=>[⟨x,Row 118 (jT.l.map aj),true⟩]
        | 6=>[⟨b6,Row 118 (o5.l.map aj),true⟩]
        | 7=>[⟨b5,Row 118 (elv.l.map aj),true⟩]
        | 8=>[⟨b4,Row 118 (nine.l.map aj),true⟩]
        | 9=>[⟨b3,Row 118 (two.l.map aj),true⟩]
        | 10=>[⟨b2,Row 118 (bG.l.map aj),true⟩]
        | 11=>[⟨b1,Row 118 (n.l.map aj),true⟩]
        | _=>[]
      refine JC.grow (g:=⟨[(6,Pt b6 0),(5,Pt b5 0),(4,Pt b4 0),(1,Pt b1 0),(2,Pt b2 0),(3,Pt b3 0)],12,vs,Ms,(fun j=>match j with | 1=>[(0,27)] | 3=>[(1,28),(2,29)] | 5=>[(4,7),(3,30)] | _=>[]),(fun j=>match j with | 0=>[6] | 2=>[6] | 5=>[4] | _=>[]),(fun j=>match j with | 5=>[4] | _=>[]),(fun j=>match j with | 5=>some 4 | _=>none)⟩) [(4,7)] [5,6,7,8,9,10,11] eP (by repeat (first | exact ai.nil | refine ai.cons _ _ _ rfl ?_)) (an.refl _) (by kernel_rfl) (by kernel_rfl) (by kernel_rfl) ?_ ?_
      · refine ⟨?_,?_,?_,?_,?_,?_,trivial⟩
        · (intro x EF MF Q kk;exact JL.q (OQ.af (cs:=o5.l.map aj) eG cg rfl .here rfl Row.all) rfl (JL.nil (kk default nofun)))
        · (intro x EF MF Q kk;exact JL.q (OQ.au (vs:=[.agg (o5.l.map aj).toArray,N 5]) cq rfl fun w' _=>c_q5 w') rfl (JL.nil (kk default nofun)))
        · (intro x EF MF Q kk;exact JL.q (OQ.af (cs:=o5.l.map aj) eG cg rfl .here rfl Row.all) rfl (JL.nil (kk default nofun)))
        · (intro x EF MF Q kk;exact JL.q (OQ.au (vs:=[.agg (q5.l.map aj).toArray,.agg (o5.l.map aj).toArray]) aO rfl fun w' _=>c_o10 w') rfl (JL.nil (kk default nofun)))
        · (intro x EF MF Q kk;exact JL.alloc mP rfl fun b _=>JL.nil (kk b nofun))
        · (intro x EF MF Q kk;exact JL.ag (cs:=jT.l.map aj) cg rfl rfl rfl (bn _) .here rfl (JL.nil (kk (x 4) (fun k h=>by cases h;rfl))))
      · intro x hx
        have h5:=hx 5 4 (by decide) rfl
        show JE _ _ _ _ _ [(7,Pt (x 4) 0),(6,Pt b6 0),(5,Pt b5 0),(4,Pt b4 0),(1,Pt b1 0),(2,Pt b2 0),(3,Pt b3 0)] [⟨(x 5),Row 118 (jT.l.map aj),true⟩,⟨b6,Row 118 (o5.l.map aj),true⟩,⟨b5,Row 118 (elv.l.map aj),true⟩,⟨b4,Row 118 (nine.l.map aj),true⟩,⟨b3,Row 118 (two.l.map aj),true⟩,⟨b2,Row 118 (bG.l.map aj),true⟩,⟨b1,Row 118 (n.l.map aj),true⟩]
        rw [h5]
        generalize x 4=b7
        clear hx h5 x vs Ms
        repeat (first | refine JC.seq ?_ | refine JE.next ?_)
        let vs : Nat→Nat→Value:=fun j x=>match j with
          | 0=>.agg (jT.l.map aj).toArray
          | 1=>.agg (q6.l.map aj).toArray
          | 2=>.agg (jT.l.map aj).toArray
          | 3=>.agg (nB.l.map aj).toArray
          | _=>Pt x 0
        let Ms : Nat→Nat→List aG:=fun j x=>match j with
          | 4=>[⟨x,Row 118 (bG.l.map aj),true⟩]
          | 5=>[⟨x,Row 118 (nB.l.map aj),true⟩]
          | 6=>[⟨b7,Row 118 (jT.l.map aj),true⟩]
          | 7=>[⟨b6,Row 118 (o5.l.map aj),true⟩]
          | 8=>[⟨b5,Row 118 (elv.l.map aj),true⟩]
          | 9=>[⟨b4,Row 118 (nine.l.map aj),true⟩]
          | 10=>[⟨b3,Row 118 (two.l.map aj),true⟩]
          | 11=>[⟨b2,Row 118 (bG.l.map aj),true⟩]
          | 12=>[⟨b1,Row 118 (n.l.map aj),true⟩]
          | _=>[]
        refine JC.grow (g:=⟨[(7,Pt b7 0),(6,Pt b6 0),(5,Pt b5 0),(4,Pt b4 0),(1,Pt b1 0),(2,Pt b2 0),(3,Pt b3 0)],13,vs,Ms,(fun j=>match j with | 1=>[(0,31)] | 3=>[(1,32),(2,33)] | 5=>[(4,8),(3,34)] | _=>[]),(fun j=>match j with | 0=>[6] | 2=>[6] | 5=>[4] | _=>[]),(fun j=>match j with | 5=>[4] | _=>[]),(fun j=>match j with | 5=>some 4 | _=>none)⟩) [(4,8)] [5,6,7,8,9,10,11,12] eP (by repeat (first | exact ai.nil | refine ai.cons _ _ _ rfl ?_)) (an.refl _) (by kernel_rfl) (by kernel_rfl) (by kernel_rfl) ?_ ?_
        · refine ⟨?_,?_,?_,?_,?_,?_,trivial⟩
          · (intro x EF MF Q kk;exact JL.q (OQ.af (cs:=jT.l.map aj) eG cg rfl .here rfl Row.all) rfl (JL.nil (kk default nofun)))
          · (intro x EF MF Q kk;exact JL.q (OQ.au (vs:=[.agg (jT.l.map aj).toArray,N 10]) cq rfl fun w' _=>c_q6 w') rfl (JL.nil (kk default nofun)))
          · (intro x EF MF Q kk;exact JL.q (OQ.af (cs:=jT.l.map aj) eG cg rfl .here rfl Row.all) rfl (JL.nil (kk default nofun)))
          · (intro x EF MF Q kk;exact JL.q (OQ.au (vs:=[.agg (q6.l.map aj).toArray,.agg (jT.l.map aj).toArray]) aO rfl fun w' _=>c_o20 w') rfl (JL.nil (kk default nofun)))
          · (intro x EF MF Q kk;exact JL.alloc mP rfl fun b _=>JL.nil (kk b nofun))
          · (intro x EF MF Q kk;exact JL.ag (cs:=nB.l.map aj) cg rfl rfl rfl (bn _) .here rfl (JL.nil (kk (x 4) (fun k h=>by cases h;rfl))))
        · intro x hx
          have h5:=hx 5 4 (by decide) rfl
          show JE _ _ _ _ _ [(8,Pt (x 4) 0),(7,Pt b7 0),(6,Pt b6 0),(5,Pt b5 0),(4,Pt b4 0),(1,Pt b1 0),(2,Pt b2 0),(3,Pt b3 0)] [⟨(x 5),Row 118 (nB.l.map aj),true⟩,⟨b7,Row 118 (jT.l.map aj),true⟩,⟨b6,Row 118 (o5.l.map aj),true⟩,⟨b5,Row 118 (elv.l.map aj),true⟩,⟨b4,Row 118 (nine.l.map aj),true⟩,⟨b3,Row 118 (two.l.map aj),true⟩,⟨b2,Row 118 (bG.l.map aj),true⟩,⟨b1,Row 118 (n.l.map aj),true⟩]
          rw [h5]
          generalize x 4=b8
          clear hx h5 x vs Ms
          repeat (first | refine JC.seq ?_ | refine JE.next ?_)
          let vs : Nat→Nat→Value:=fun j x=>match j with
            | 0=>.agg (nB.l.map aj).toArray
            | 1=>.agg (q7.l.map aj).toArray
            | 2=>.agg (nB.l.map aj).toArray
            | 3=>.agg (sw.l.map aj).toArray
            | _=>Pt x 0
          let Ms : Nat→Nat→List aG:=fun j x=>match j with
            | 4=>[⟨x,Row 118 (bG.l.map aj),true⟩]
            | 5=>[⟨x,Row 118 (sw.l.map aj),true⟩]
            | 6=>[⟨b8,Row 118 (nB.l.map aj),true⟩]
            | 7=>[⟨b7,Row 118 (jT.l.map aj),true⟩]
            | 8=>[⟨b6,Row 118 (o5.l.map aj),true⟩]
            | 9=>[⟨b5,Row 118 (elv.l.map aj),true⟩]
            | 10=>[⟨b4,Row 118 (nine.l.map aj),true⟩]
            | 11=>[⟨b3,Row 118 (two.l.map aj),true⟩]
            | 12=>[⟨b2,Row 118 (bG.l.map aj),true⟩]
            | 13=>[⟨b1,Row 118 (n.l.map aj),true⟩]
            | _=>[]
          refine JC.grow (g:=⟨[(8,Pt b8 0),(7,Pt b7 0),(6,Pt b6 0),(5,Pt b5 0),(4,Pt b4 0),(1,Pt b1 0),(2,Pt b2 0),(3,Pt b3 0)],14,vs,Ms,(fun j=>match j with | 1=>[(0,35)] | 3=>[(1,36),(2,37)] | 5=>[(4,9),(3,38)] | _=>[]),(fun j=>match j with | 0=>[6] | 2=>[6] | 5=>[4] | _=>[]),(fun j=>match j with | 5=>[4] | _=>[]),(fun j=>match j with | 5=>some 4 | _=>none)⟩) [(4,9)] [5,6,7,8,9,10,11,12,13] eP (by repeat (first | exact ai.nil | refine ai.cons _ _ _ rfl ?_)) (an.refl _) (by kernel_rfl) (by kernel_rfl) (by kernel_rfl) ?_ ?_
          · refine ⟨?_,?_,?_,?_,?_,?_,trivial⟩
            · (intro x EF MF Q kk;exact JL.q (OQ.af (cs:=nB.l.map aj) eG cg rfl .here rfl Row.all) rfl (JL.nil (kk default nofun)))
            · (intro x EF MF Q kk;exact JL.q (OQ.au (vs:=[.agg (nB.l.map aj).toArray,N 20]) cq rfl fun w' _=>c_q7 w') rfl (JL.nil (kk default nofun)))
            · (intro x EF MF Q kk;exact JL.q (OQ.af (cs:=nB.l.map aj) eG cg rfl .here rfl Row.all) rfl (JL.nil (kk default nofun)))
            · (intro x EF MF Q kk;exact JL.q (OQ.au (vs:=[.agg (q7.l.map aj).toArray,.agg (nB.l.map aj).toArray]) aO rfl fun w' _=>c_o40 w') rfl (JL.nil (kk default nofun)))
            · (intro x EF MF Q kk;exact JL.alloc mP rfl fun b _=>JL.nil (kk b nofun))
            · (intro x EF MF Q kk;exact JL.ag (cs:=sw.l.map aj) cg rfl rfl rfl (bn _) .here rfl (JL.nil (kk (x 4) (fun k h=>by cases h;rfl))))
          · intro x hx
            have h5:=hx 5 4 (by decide) rfl
            show JE _ _ _ _ _ [(9,Pt (x 4) 0),(8,Pt b8 0),(7,Pt b7 0),(6,Pt b6 0),(5,Pt b5 0),(4,Pt b4 0),(1,Pt b1 0),(2,Pt b2 0),(3,Pt b3 0)] [⟨(x 5),Row 118 (sw.l.map aj),true⟩,⟨b8,Row 118 (nB.l.map aj),true⟩,⟨b7,Row 118 (jT.l.map aj),true⟩,⟨b6,Row 118 (o5.l.map aj),true⟩,⟨b5,Row 118 (elv.l.map aj),true⟩,⟨b4,Row 118 (nine.l.map aj),true⟩,⟨b3,Row 118 (two.l.map aj),true⟩,⟨b2,Row 118 (bG.l.map aj),true⟩,⟨b1,Row 118 (n.l.map aj),true⟩]
            rw [h5]
            generalize x 4=b9
            clear hx h5 x vs Ms
            repeat (first | refine JC.seq ?_ | refine JE.next ?_)
            let vs : Nat→Nat→Value:=fun j x=>match j with
              | 0=>.agg (sw.l.map aj).toArray
              | 1=>.agg (q8.l.map aj).toArray
              | 2=>.agg (jT.l.map aj).toArray
              | 3=>.agg (lR.l.map aj).toArray
              | _=>Pt x 0
            let Ms : Nat→Nat→List aG:=fun j x=>match j with
              | 4=>[⟨x,Row 118 (bG.l.map aj),true⟩]
              | 5=>[⟨x,Row 118 (lR.l.map aj),true⟩]
              | 6=>[⟨b9,Row 118 (sw.l.map aj),true⟩]
              | 7=>[⟨b8,Row 118 (nB.l.map aj),true⟩]
              | 8=>[⟨b7,Row 118 (jT.l.map aj),true⟩]
              | 9=>[⟨b6,Row 118 (o5.l.map aj),true⟩]
              | 10=>[⟨b5,Row 118 (elv.l.map aj),true⟩]
              | 11=>[⟨b4,Row 118 (nine.l.map aj),true⟩]
              | 12=>[⟨b3,Row 118 (two.l.map aj),true⟩]
              | 13=>[⟨b2,Row 118 (bG.l.map aj),true⟩]
              | 14=>[⟨b1,Row 118 (n.l.map aj),true⟩]
              | _=>[]
            refine JC.grow (g:=⟨[(9,Pt b9 0),(8,Pt b8 0),(7,Pt b7 0),(6,Pt b6 0),(5,Pt b5 0),(4,Pt b4 0),(1,Pt b1 0),(2,Pt b2 0),(3,Pt b3 0)],15,vs,Ms,(fun j=>match j with | 1=>[(0,39)] | 3=>[(1,40),(2,41)] | 5=>[(4,10),(3,42)] | _=>[]),(fun j=>match j with | 0=>[6] | 2=>[8] | 5=>[4] | _=>[]),(fun j=>match j with | 5=>[4] | _=>[]),(fun j=>match j with | 5=>some 4 | _=>none)⟩) [(4,10)] [5,6,7,8,9,10,11,12,13,14] eP (by repeat (first | exact ai.nil | refine ai.cons _ _ _ rfl ?_)) (an.refl _) (by kernel_rfl) (by kernel_rfl) (by kernel_rfl) ?_ ?_
            · refine ⟨?_,?_,?_,?_,?_,?_,trivial⟩
              · (intro x EF MF Q kk;exact JL.q (OQ.af (cs:=sw.l.map aj) eG cg rfl .here rfl Row.all) rfl (JL.nil (kk default nofun)))
              · (intro x EF MF Q kk;exact JL.q (OQ.au (vs:=[.agg (sw.l.map aj).toArray,N 10]) cq rfl fun w' _=>c_q8 w') rfl (JL.nil (kk default nofun)))
              · (intro x EF MF Q kk;exact JL.q (OQ.af (cs:=jT.l.map aj) eG cg rfl .here rfl Row.all) rfl (JL.nil (kk default nofun)))
              · (intro x EF MF Q kk;exact JL.q (OQ.au (vs:=[.agg (q8.l.map aj).toArray,.agg (jT.l.map aj).toArray]) aO rfl fun w' _=>c_o50 w') rfl (JL.nil (kk default nofun)))
              · (intro x EF MF Q kk;exact JL.alloc mP rfl fun b _=>JL.nil (kk b nofun))
              · (intro x EF MF Q kk;exact JL.ag (cs:=lR.l.map aj) cg rfl rfl rfl (bn _) .here rfl (JL.nil (kk (x 4) (fun k h=>by cases h;rfl))))
            · intro x hx
              have h5:=hx 5 4 (by decide) rfl
              show JE _ _ _ _ _ [(10,Pt (x 4) 0),(9,Pt b9 0),(8,Pt b8 0),(7,Pt b7 0),(6,Pt b6 0),(5,Pt b5 0),(4,Pt b4 0),(1,Pt b1 0),(2,Pt b2 0),(3,Pt b3 0)] [⟨(x 5),Row 118 (lR.l.map aj),true⟩,⟨b9,Row 118 (sw.l.map aj),true⟩,⟨b8,Row 118 (nB.l.map aj),true⟩,⟨b7,Row 118 (jT.l.map aj),true⟩,⟨b6,Row 118 (o5.l.map aj),true⟩,⟨b5,Row 118 (elv.l.map aj),true⟩,⟨b4,Row 118 (nine.l.map aj),true⟩,⟨b3,Row 118 (two.l.map aj),true⟩,⟨b2,Row 118 (bG.l.map aj),true⟩,⟨b1,Row 118 (n.l.map aj),true⟩]
              rw [h5]
              generalize x 4=b10
              clear hx h5 x vs Ms
              repeat (first | refine JC.seq ?_ | refine JE.next ?_)
              let vs : Nat→Nat→Value:=fun j x=>match j with
                | 0=>.agg (lR.l.map aj).toArray
                | 1=>.agg (q9.l.map aj).toArray
                | 2=>.agg (lR.l.map aj).toArray
                | 3=>.agg (ia.l.map aj).toArray
                | _=>Pt x 0
              let Ms : Nat→Nat→List aG:=fun j x=>match j with
                | 4=>[⟨x,Row 118 (bG.l.map aj),true⟩]
                | 5=>[⟨x,Row 118 (ia.l.map aj),true⟩]
                | 6=>[⟨b10,Row 118 (lR.l.map aj),true⟩]
                | 7=>[⟨b9,Row 118 (sw.l.map aj),true⟩]
                | 8=>[⟨b8,Row 118 (nB.l.map aj),true⟩]
                | 9=>[⟨b7,Row 118 (jT.l.map aj),true⟩]
                | 10=>[⟨b6,Row 118 (o5.l.map aj),true⟩]
                | 11=>[⟨b5,Row 118 (elv.l.map aj),true⟩]
                | 12=>[⟨b4,Row 118 (nine.l.map aj),true⟩]
                | 13=>[⟨b3,Row 118 (two.l.map aj),true⟩]
                | 14=>[⟨b2,Row 118 (bG.l.map aj),true⟩]
                | 15=>[⟨b1,Row 118 (n.l.map aj),true⟩]
                | _=>[]
              refine JC.grow (g:=⟨[(10,Pt b10 0),(9,Pt b9 0),(8,Pt b8 0),(7,Pt b7 0),(6,Pt b6 0),(5,Pt b5 0),(4,Pt b4 0),(1,Pt b1 0),(2,Pt b2 0),(3,Pt b3 0)],16,vs,Ms,(fun j=>match j with | 1=>[(0,43)] | 3=>[(1,44),(2,45)] | 5=>[(4,11),(3,46)] | _=>[]),(fun j=>match j with | 0=>[6] | 2=>[6] | 5=>[4] | _=>[]),(fun j=>match j with | 5=>[4] | _=>[]),(fun j=>match j with | 5=>some 4 | _=>none)⟩) [(4,11)] [5,6,7,8,9,10,11,12,13,14,15] eP (by repeat (first | exact ai.nil | refine ai.cons _ _ _ rfl ?_)) (an.refl _) (by kernel_rfl) (by kernel_rfl) (by kernel_rfl) ?_ ?_
              · refine ⟨?_,?_,?_,?_,?_,?_,trivial⟩
                · (intro x EF MF Q kk;exact JL.q (OQ.af (cs:=lR.l.map aj) eG cg rfl .here rfl Row.all) rfl (JL.nil (kk default nofun)))
                · (intro x EF MF Q kk;exact JL.q (OQ.au (vs:=[.agg (lR.l.map aj).toArray,N 50]) cq rfl fun w' _=>c_q9 w') rfl (JL.nil (kk default nofun)))
                · (intro x EF MF Q kk;exact JL.q (OQ.af (cs:=lR.l.map aj) eG cg rfl .here rfl Row.all) rfl (JL.nil (kk default nofun)))
                · (intro x EF MF Q kk;exact JL.q (OQ.au (vs:=[.agg (q9.l.map aj).toArray,.agg (lR.l.map aj).toArray]) aO rfl fun w' _=>c_o100 w') rfl (JL.nil (kk default nofun)))
                · (intro x EF MF Q kk;exact JL.alloc mP rfl fun b _=>JL.nil (kk b nofun))
                · (intro x EF MF Q kk;exact JL.ag (cs:=ia.l.map aj) cg rfl rfl rfl (bn _) .here rfl (JL.nil (kk (x 4) (fun k h=>by cases h;rfl))))
              · intro x hx
                have h5:=hx 5 4 (by decide) rfl
                show JE _ _ _ _ _ [(11,Pt (x 4) 0),(10,Pt b10 0),(9,Pt b9 0),(8,Pt b8 0),(7,Pt b7 0),(6,Pt b6 0),(5,Pt b5 0),(4,Pt b4 0),(1,Pt b1 0),(2,Pt b2 0),(3,Pt b3 0)] [⟨(x 5),Row 118 (ia.l.map aj),true⟩,⟨b10,Row 118 (lR.l.map aj),true⟩,⟨b9,Row 118 (sw.l.map aj),true⟩,⟨b8,Row 118 (nB.l.map aj),true⟩,⟨b7,Row 118 (jT.l.map aj),true⟩,⟨b6,Row 118 (o5.l.map aj),true⟩,⟨b5,Row 118 (elv.l.map aj),true⟩,⟨b4,Row 118 (nine.l.map aj),true⟩,⟨b3,Row 118 (two.l.map aj),true⟩,⟨b2,Row 118 (bG.l.map aj),true⟩,⟨b1,Row 118 (n.l.map aj),true⟩]
                rw [h5]
                generalize x 4=b11
                clear hx h5 x vs Ms
                repeat (first | refine JC.seq ?_ | refine JE.next ?_)
                let vs : Nat→Nat→Value:=fun j x=>match j with
                  | 0=>.agg (ia.l.map aj).toArray
                  | 1=>.agg (q10.l.map aj).toArray
                  | 2=>.agg (ia.l.map aj).toArray
                  | 3=>.agg (lS.l.map aj).toArray
                  | _=>Pt x 0
                let Ms : Nat→Nat→List aG:=fun j x=>match j with
                  | 4=>[⟨x,Row 118 (bG.l.map aj),true⟩]
                  | 5=>[⟨x,Row 118 (lS.l.map aj),true⟩]
                  | 6=>[⟨b11,Row 118 (ia.l.map aj),true⟩]
                  | 7=>[⟨b10,Row 118 (lR.l.map aj),true⟩]
                  | 8=>[⟨b9,Row 118 (sw.l.map aj),true⟩]
                  | 9=>[⟨b8,Row 118 (nB.l.map aj),true⟩]
                  | 10=>[⟨b7,Row 118 (jT.l.map aj),true⟩]
                  | 11=>[⟨b6,Row 118 (o5.l.map aj),true⟩]
                  | 12=>[⟨b5,Row 118 (elv.l.map aj),true⟩]
                  | 13=>[⟨b4,Row 118 (nine.l.map aj),true⟩]
                  | 14=>[⟨b3,Row 118 (two.l.map aj),true⟩]
                  | 15=>[⟨b2,Row 118 (bG.l.map aj),true⟩]
                  | 16=>[⟨b1,Row 118 (n.l.map aj),true⟩]
                  | _=>[]
                refine JC.grow (g:=⟨[(11,Pt b11 0),(10,Pt b10 0),(9,Pt b9 0),(8,Pt b8 0),(7,Pt b7 0),(6,Pt b6 0),(5,Pt b5 0),(4,Pt b4 0),(1,Pt b1 0),(2,Pt b2 0),(3,Pt b3 0)],17,vs,Ms,(fun j=>match j with | 1=>[(0,47)] | 3=>[(1,48),(2,49)] | 5=>[(4,12),(3,50)] | _=>[]),(fun j=>match j with | 0=>[6] | 2=>[6] | 5=>[4] | _=>[]),(fun j=>match j with | 5=>[4] | _=>[]),(fun j=>match j with | 5=>some 4 | _=>none)⟩) [(4,12)] [5,6,7,8,9,10,11,12,13,14,15,16] eP (by repeat (first | exact ai.nil | refine ai.cons _ _ _ rfl ?_)) (an.refl _) (by kernel_rfl) (by kernel_rfl) (by kernel_rfl) ?_ ?_
                · refine ⟨?_,?_,?_,?_,?_,?_,trivial⟩
                  · (intro x EF MF Q kk;exact JL.q (OQ.af (cs:=ia.l.map aj) eG cg rfl .here rfl Row.all) rfl (JL.nil (kk default nofun)))
                  · (intro x EF MF Q kk;exact JL.q (OQ.au (vs:=[.agg (ia.l.map aj).toArray,N 100]) cq rfl fun w' _=>c_q10 w') rfl (JL.nil (kk default nofun)))
                  · (intro x EF MF Q kk;exact JL.q (OQ.af (cs:=ia.l.map aj) eG cg rfl .here rfl Row.all) rfl (JL.nil (kk default nofun)))
                  · (intro x EF MF Q kk;exact JL.q (OQ.au (vs:=[.agg (q10.l.map aj).toArray,.agg (ia.l.map aj).toArray]) aO rfl fun w' _=>c_o200 w') rfl (JL.nil (kk default nofun)))
                  · (intro x EF MF Q kk;exact JL.alloc mP rfl fun b _=>JL.nil (kk b nofun))
                  · (intro x EF MF Q kk;exact JL.ag (cs:=lS.l.map aj) cg rfl rfl rfl (bn _) .here rfl (JL.nil (kk (x 4) (fun k h=>by cases h;rfl))))
                · intro x hx
                  have h5:=hx 5 4 (by decide) rfl
                  show JE _ _ _ _ _ [(12,Pt (x 4) 0),(11,Pt b11 0),(10,Pt b10 0),(9,Pt b9 0),(8,Pt b8 0),(7,Pt b7 0),(6,Pt b6 0),(5,Pt b5 0),(4,Pt b4 0),(1,Pt b1 0),(2,Pt b2 0),(3,Pt b3 0)] [⟨(x 5),Row 118 (lS.l.map aj),true⟩,⟨b11,Row 118 (ia.l.map aj),true⟩,⟨b10,Row 118 (lR.l.map aj),true⟩,⟨b9,Row 118 (sw.l.map aj),true⟩,⟨b8,Row 118 (nB.l.map aj),true⟩,⟨b7,Row 118 (jT.l.map aj),true⟩,⟨b6,Row 118 (o5.l.map aj),true⟩,⟨b5,Row 118 (elv.l.map aj),true⟩,⟨b4,Row 118 (nine.l.map aj),true⟩,⟨b3,Row 118 (two.l.map aj),true⟩,⟨b2,Row 118 (bG.l.map aj),true⟩,⟨b1,Row 118 (n.l.map aj),true⟩]
                  rw [h5]
                  generalize x 4=b12
                  clear hx h5 x vs Ms
                  repeat (first | refine JC.seq ?_ | refine JE.next ?_)
                  let vs : Nat→Nat→Value:=fun j x=>match j with
                    | 0=>.agg (lS.l.map aj).toArray
                    | 1=>.agg (q11.l.map aj).toArray
                    | 2=>.agg (lR.l.map aj).toArray
                    | 3=>.agg (oN.l.map aj).toArray
                    | _=>Pt x 0
                  let Ms : Nat→Nat→List aG:=fun j x=>match j with
                    | 4=>[⟨x,Row 118 (bG.l.map aj),true⟩]
                    | 5=>[⟨x,Row 118 (oN.l.map aj),true⟩]
                    | 6=>[⟨b12,Row 118 (lS.l.map aj),true⟩]
                    | 7=>[⟨b11,Row 118 (ia.l.map aj),true⟩]
                    | 8=>[⟨b10,Row 118 (lR.l.map aj),true⟩]
                    | 9=>[⟨b9,Row 118 (sw.l.map aj),true⟩]
                    | 10=>[⟨b8,Row 118 (nB.l.map aj),true⟩]
                    | 11=>[⟨b7,Row 118 (jT.l.map aj),true⟩]
                    | 12=>[⟨b6,Row 118 (o5.l.map aj),true⟩]
                    | 13=>[⟨b5,Row 118 (elv.l.map aj),true⟩]
                    | 14=>[⟨b4,Row 118 (nine.l.map aj),true⟩]
                    | 15=>[⟨b3,Row 118 (two.l.map aj),true⟩]
                    | 16=>[⟨b2,Row 118 (bG.l.map aj),true⟩]
                    | 17=>[⟨b1,Row 118 (n.l.map aj),true⟩]
                    | _=>[]
                  refine JC.grow (g:=⟨[(12,Pt b12 0),(11,Pt b11 0),(10,Pt b10 0),(9,Pt b9 0),(8,Pt b8 0),(7,Pt b7 0),(6,Pt b6 0),(5,Pt b5 0),(4,Pt b4 0),(1,Pt b1 0),(2,Pt b2 0),(3,Pt b3 0)],18,vs,Ms,(fun j=>match j with | 1=>[(0,51)] | 3=>[(1,52),(2,53)] | 5=>[(4,13),(3,54)] | _=>[]),(fun j=>match j with | 0=>[6] | 2=>[8] | 5=>[4] | _=>[]),(fun j=>match j with | 5=>[4] | _=>[]),(fun j=>match j with | 5=>some 4 | _=>none)⟩) [(4,13)] [5,6,7,8,9,10,11,12,13,14,15,16,17] eP (by repeat (first | exact ai.nil | refine ai.cons _ _ _ rfl ?_)) (an.refl _) (by kernel_rfl) (by kernel_rfl) (by kernel_rfl) ?_ ?_
                  · refine ⟨?_,?_,?_,?_,?_,?_,trivial⟩
                    · (intro x EF MF Q kk;exact JL.q (OQ.af (cs:=lS.l.map aj) eG cg rfl .here rfl Row.all) rfl (JL.nil (kk default nofun)))
                    · (intro x EF MF Q kk;exact JL.q (OQ.au (vs:=[.agg (lS.l.map aj).toArray,N 50]) cq rfl fun w' _=>c_q11 w') rfl (JL.nil (kk default nofun)))
                    · (intro x EF MF Q kk;exact JL.q (OQ.af (cs:=lR.l.map aj) eG cg rfl .here rfl Row.all) rfl (JL.nil (kk default nofun)))
                    · (intro x EF MF Q kk;exact JL.q (OQ.au (vs:=[.agg (q11.l.map aj).toArray,.agg (lR.l.map aj).toArray]) aO rfl fun w' _=>c_o250 w') rfl (JL.nil (kk default nofun)))
                    · (intro x EF MF Q kk;exact JL.alloc mP rfl fun b _=>JL.nil (kk b nofun))
                    · (intro x EF MF Q kk;exact JL.ag (cs:=oN.l.map aj) cg rfl rfl rfl (bn _) .here rfl (JL.nil (kk (x 4) (fun k h=>by cases h;rfl))))
                  · intro x hx
                    have h5:=hx 5 4 (by decide) rfl
                    show JE _ _ _ _ _ [(13,Pt (x 4) 0),(12,Pt b12 0),(11,Pt b11 0),(10,Pt b10 0),(9,Pt b9 0),(8,Pt b8 0),(7,Pt b7 0),(6,Pt b6 0),(5,Pt b5 0),(4,Pt b4 0),(1,Pt b1 0),(2,Pt b2 0),(3,Pt b3 0)] [⟨(x 5),Row 118 (oN.l.map aj),true⟩,⟨b12,Row 118 (lS.l.map aj),true⟩,⟨b11,Row 118 (ia.l.map aj),true⟩,⟨b10,Row 118 (lR.l.map aj),true⟩,⟨b9,Row 118 (sw.l.map aj),true⟩,⟨b8,Row 118 (nB.l.map aj),true⟩,⟨b7,Row 118 (jT.l.map aj),true⟩,⟨b6,Row 118 (o5.l.map aj),true⟩,⟨b5,Row 118 (elv.l.map aj),true⟩,⟨b4,Row 118 (nine.l.map aj),true⟩,⟨b3,Row 118 (two.l.map aj),true⟩,⟨b2,Row 118 (bG.l.map aj),true⟩,⟨b1,Row 118 (n.l.map aj),true⟩]
                    rw [h5]
                    generalize x 4=b13
                    clear hx h5 x vs Ms
                    repeat (first | refine JC.seq ?_ | refine JE.next ?_)
                    refine JC.tail 4 eP (by kernel_rfl) ?_
                    simp only [List.take_succ_cons,List.take_zero,List.drop_succ_cons,List.drop_zero]
                    repeat (first | refine JQ.q (by first|(apply OQ.af (cs:=oN.l.map aj);exact eG;exact cg;rfl;exact (by repeat (first | exact Has.here | apply Has.there));rfl;exact Row.all)|(apply OQ.af (cs:=elv.l.map aj);exact eG;exact cg;rfl;exact (by repeat (first | exact Has.here | apply Has.there));rfl;exact Row.all)|(apply OQ.au (vs:=[.agg (oN.l.map aj).toArray,N 5]);exact cq;rfl;exact (fun w' _=>c_q12 w'))|(apply OQ.au (vs:=[.agg (q12.l.map aj).toArray,.agg (elv.l.map aj).toArray]);exact aO;rfl;exact (fun w' _=>c_fin w'))) rfl ?_ | refine JQ.bC ?_)
                    refine JL.ag (cs:=fin.l.map aj) cg rfl rfl rfl (bn _) (by repeat (first | exact e9.here | apply e9.there)) rfl ?_
                    repeat (first | refine JL.nil ?_ | refine JE.next ?_)
                    refine JC.ret (JE.aR rfl (RV.av eG cg rfl (by repeat (first | exact Has.here | apply Has.there)) rfl Row.all) ?_)
                    exact fun w' hw=>⟨rfl,hw.aM⟩
end
section
set_option maxRecDepth 10000
open Sl dW
theorem E8 {l : List dS} {i : Nat} (h : i<l.length) : (l.map aj)[i]?=some (aj (l.getD i 0)):=by
  simp [h]
theorem E9 (l : List dS) (i : Nat) (x : dS) : (l.map aj).set i (aj x)=(l.set i x).map aj:=by rw [List.map_set]
theorem z8 : aL Tryz.prog 102:=⟨_,Tryz.func102,rfl,by kernel_rfl⟩
theorem CC : aL Tryz.prog 80:=⟨_,Tryz.func80,rfl,by kernel_rfl⟩
theorem nC : aL Tryz.prog 95:=⟨_,Tryz.func95,rfl,by kernel_rfl⟩
theorem lV : aL Tryz.prog 76:=⟨_,Tryz.func76,rfl,by kernel_rfl⟩
set_option maxHeartbeats 16000000 in
theorem CD (n : N5) (w : World) : Calls Tryz.prog 102 [.agg (n.l.map aj).toArray].toArray w fun e w'=>e=.returned (.agg ((vQ n).l.map aj).toArray)∧Ext w w':=by
  have eL:=GS n
  have hll : ∀ c i,(FQ n.l c i).length=5:=fun c i=>Bh n.l c i
  refine enter (n:=36) Tryz.func102 rfl rfl rfl (ah.start w []) ?_
  repeat (first | refine JC.seq ?_ | refine JC.region ?_)
  refine JL.box (r:=n.l.map aj) rfl rfl rfl fun b1 _=>?_
  refine JL.alloc mP rfl fun b2 _=>?_
  repeat (first | refine JL.q (by first|(apply OQ.af (cs:=n.l.map aj);exact eG;exact cg;rfl;exact (.there .here);rfl;exact Row.all)|(apply OQ.move;rfl)|(apply OQ.assign;rfl)) rfl ?_ | refine JC.seq ?_ | refine JC.region ?_ | refine JC.block ?_ | refine JL.nil ?_ | refine JE.next ?_)
  refine JC.loop (fun i : Nat=>[(1,Pt b1 0),(2,Pt b2 0),(3,aj (iC n.l 19#64 i)),(9,.agg (n.l.map aj).toArray),(10,N i)])
    (fun _=>[⟨b2,Row 118 (bG.l.map aj),true⟩,⟨b1,Row 118 (n.l.map aj),true⟩])
    (fun i=>5 - i) (fun i=>i≤5) 0 (by omega) (by repeat (first | exact ai.nil | refine ai.cons _ _ _ rfl ?_)) (an.refl _) ?_
  intro i hi
  repeat (first | refine JL.q (by (apply OQ.bN;rfl;rfl)) rfl ?_ | refine JC.seq ?_ | refine JC.region ?_ | refine JL.nil ?_ | refine JE.next ?_)
  refine JC.cond rfl (fun h=>?_) (fun h=>?_)
  · have hi' : i<5:=of_decide_eq_true h
    clear h hi
    have hc : (n.l.map aj)[i]?=some (aj (n.l.getD i 0)):=E8 hi'
    have eR : iC n.l 19#64 (i+1)=(n.l.getD i 0+iC n.l 19#64 i) >>> 51:=rfl
    generalize n.l.getD i 0=y at hc eR
    repeat (first | refine JL.q (by first|(apply OQ.index;exact Tryz.underlying118;exact xV;exact fZ;rfl;rfl;exact hi';exact hc)|(apply OQ.move;rfl)|(apply OQ.assign;rfl)|(apply OQ.oe;rfl;rfl)|(apply OQ.jF;rfl;rfl)|(apply OQ.aY;rfl;rfl;exact (by (try simp only []);omega))) rfl ?_ | refine JC.seq ?_ | refine JC.region ?_ | refine JC.block ?_ | refine JC.skip ?_ | refine JL.nil ?_ | refine JE.next ?_ | refine JE.aq ?_)
    refine JE.again (i:=i) (i+1) (by omega) (by omega) ?_ (an.refl _)
    rw [eR]
    exact (by repeat (first | exact ai.nil | refine ai.cons _ _ _ rfl ?_))
  · have hi' : ¬ i<5:=of_decide_eq_false h
    obtain rfl : i=5:=by omega
    clear h hi hi'
    generalize iC n.l 19#64 5=ov at eL ⊢
    repeat (first | refine JL.q (by first|(apply OQ.af (cs:=n.l.map aj);exact eG;exact cg;rfl;exact (.there .here);rfl;exact Row.all)|(apply OQ.qb (a:=19#64);rfl;rfl)|(apply OQ.move;rfl)|(apply OQ.assign;rfl)) rfl ?_ | refine JC.seq ?_ | refine JC.region ?_ | refine JC.block ?_ | refine JC.exit ?_ | refine JL.nil ?_ | refine JE.next ?_ | refine JE.ax ?_ | refine JE.aA ?_)
    generalize 19#64 * ov=C at eL ⊢
    refine JC.loop (fun i : Nat=>[(1,Pt b1 0),(2,Pt b2 0),(6,aj (iC n.l C i)),(20,.agg (n.l.map aj).toArray),(21,N i)])
      (fun i=>[⟨b2,Row 118 (bG.l.map aj),true⟩,⟨b1,Row 118 ((FQ n.l C i).map aj),true⟩])
      (fun i=>5 - i) (fun i=>i≤5) 0 (by omega) (by repeat (first | exact ai.nil | refine ai.cons _ _ _ rfl ?_)) (an.refl _) ?_
    intro i hi
    repeat (first | refine JL.q (by (apply OQ.bN;rfl;rfl)) rfl ?_ | refine JC.seq ?_ | refine JC.region ?_ | refine JL.nil ?_ | refine JE.next ?_)
    refine JC.cond rfl (fun h=>?_) (fun h=>?_)
    · have hi' : i<5:=of_decide_eq_true h
      clear h hi
      have hc : (n.l.map aj)[i]?=some (aj (n.l.getD i 0)):=E8 hi'
      have eR : iC n.l C (i+1)=(n.l.getD i 0+iC n.l C i) >>> 51:=rfl
      have eS : FQ n.l C (i+1)=(FQ n.l C i).set i ((n.l.getD i 0+iC n.l C i) &&& 2251799813685247#64):=rfl
      have hlen:=hll C i
      generalize FQ n.l C i=X at eS hlen ⊢
      generalize n.l.getD i 0=y at hc eR eS
      repeat (first | refine JL.q (by first|(apply OQ.index;exact Tryz.underlying118;exact xV;exact fZ;rfl;rfl;exact hi';exact hc)|(apply OQ.m9 (b:=2251799813685247#64);rfl;rfl)|(apply OQ.aD;exact Tryz.underlying118;exact xV;rfl;rfl;exact hi')|(apply OQ.move;rfl)|(apply OQ.assign;rfl)|(apply OQ.oe;rfl;rfl)|(apply OQ.jF;rfl;rfl)) rfl ?_ | refine JC.seq ?_ | refine JC.region ?_ | refine JC.block ?_ | refine JC.skip ?_ | refine JL.nil ?_ | refine JE.next ?_)
      refine JL.az (r':=(FQ n.l C (i+1)).map aj) xV rfl rfl rfl rfl (.there .here) (by rw [List.length_map,hlen];exact hi') (by rw [eS];exact E9 _ _ _) ?_
      repeat (first | refine JL.q (by first|(apply OQ.move;rfl)|(apply OQ.assign;rfl)|(apply OQ.aY;rfl;rfl;exact (by (try simp only []);omega))) rfl ?_ | refine JC.region ?_ | refine JL.nil ?_ | refine JE.next ?_ | refine JE.aq ?_)
      refine JE.again (i:=i) (i+1) (by omega) (by omega) ?_ (an.refl _)
      rw [eR]
      exact (by repeat (first | exact ai.nil | refine ai.cons _ _ _ rfl ?_))
    · have hi' : ¬ i<5:=of_decide_eq_false h
      obtain rfl : i=5:=by omega
      clear h hi hi'
      rw [eL]
      generalize vQ n=X
      repeat (first | refine JL.q (by (apply OQ.af (cs:=X.l.map aj);exact eG;exact cg;rfl;exact (.there .here);rfl;exact Row.all)) rfl ?_ | refine JC.seq ?_ | refine JC.region ?_ | refine JC.exit ?_ | refine JE.next ?_ | refine JE.ax ?_ | refine JE.aA ?_)
      refine JL.ag (cs:=X.l.map aj) cg rfl rfl rfl (bn _) .here rfl ?_
      repeat (first | refine JL.nil ?_ | refine JE.next ?_)
      refine JC.ret (JE.aR rfl (RV.av eG cg rfl .here rfl Row.all) ?_)
      exact fun w' hw=>⟨rfl,hw.aM⟩
theorem NW : dP Tryz.prog 154=some 4:=by kernel_rfl
theorem NX : zc Tryz.prog 154=some (([0,0,0,0] : List dS).map aj):=by kernel_rfl
set_option maxHeartbeats 16000000 in
theorem Fa (n : N5) (w : World) : Calls Tryz.prog 80 [.agg (n.l.map aj).toArray].toArray w fun e w'=>e=.returned (.agg ((Kn n).map U8).toArray)∧Ext w w':=by
  have cl:=CD n
  have eK : Kn n=Bi (xO (vQ n)) 32:=rfl
  rw [eK]
  clear eK
  generalize vQ n=m at cl ⊢
  have c0 : (m.l.map aj)[0]?=some (aj m.a0):=rfl
  have c1 : (m.l.map aj)[1]?=some (aj m.a1):=rfl
  have c2 : (m.l.map aj)[2]?=some (aj m.a2):=rfl
  have c3 : (m.l.map aj)[3]?=some (aj m.a3):=rfl
  have c4 : (m.l.map aj)[4]?=some (aj m.a4):=rfl
  refine enter (n:=52) Tryz.func80 rfl rfl rfl (ah.start w []) ?_
  repeat (first | refine JC.seq ?_ | refine JC.region ?_)
  refine JL.box (r:=n.l.map aj) rfl rfl rfl fun b1 _=>?_
  refine JL.alloc hU rfl fun b2 _=>?_
  repeat (first | refine JL.q (by first|(apply OQ.af (cs:=n.l.map aj);exact eG;exact cg;rfl;exact (.there .here);rfl;exact Row.all)|(apply OQ.au;exact z8;rfl;exact (fun w' _=>cl w'))) rfl ?_ | refine JC.seq ?_ | refine JC.region ?_ | refine JL.nil ?_ | refine JE.next ?_)
  refine JL.ag (cs:=m.l.map aj) cg rfl rfl rfl (bn _) (.there .here) rfl ?_
  repeat (first | refine JL.q (by first|(apply OQ.aD;exact Tryz.underlying118;exact xV;rfl;rfl;exact (by decide))|(apply OQ.load;exact fZ;rfl;exact (.there .here);exact (Row.cell c0))|(apply OQ.load;exact fZ;rfl;exact (.there .here);exact (Row.cell c1))|(apply OQ.load;exact fZ;rfl;exact (.there .here);exact (Row.cell c2))|(apply OQ.load;exact fZ;rfl;exact (.there .here);exact (Row.cell c3))|(apply OQ.load;exact fZ;rfl;exact (.there .here);exact (Row.cell c4))|(apply OQ.tV;rfl;rfl)|(apply OQ.BK;rfl;rfl)|(apply OQ.jF;rfl;rfl)) rfl ?_ | refine JC.seq ?_ | refine JC.region ?_ | refine JL.nil ?_ | refine JE.next ?_)
  refine JL.q (OQ.pure (v:=.agg ((xO m).map aj).toArray) rfl rfl (by kernel_rfl)) rfl ?_
  refine JL.alloc NX rfl fun b3 _=>?_
  refine JL.ag (cs:=(xO m).map aj) NW rfl rfl rfl (bn _) .here rfl ?_
  have hw4 : (xO m).length=4:=rfl
  generalize xO m=W at hw4 ⊢
  repeat (first | refine JC.seq ?_ | refine JC.region ?_ | refine JL.nil ?_ | refine JE.next ?_)
  refine JL.alloc hU rfl fun b4 _=>?_
  repeat (first | refine JL.q (by (apply OQ.move;rfl)) rfl ?_ | refine JC.seq ?_ | refine JC.region ?_ | refine JC.block ?_ | refine JL.nil ?_ | refine JE.next ?_)
  refine JC.loop (fun i : Nat=>[(1,Pt b1 0),(2,Pt b2 0),(3,Pt b3 0),(4,Pt b4 0),(36,N i)])
    (fun i=>[⟨b4,Row 23 ((Bi W i).map U8),true⟩,⟨b3,Row 154 (W.map aj),true⟩,⟨b2,Row 23 ((List.replicate 32 (0 : By)).map U8),true⟩])
    (fun i=>32 - i) (fun i=>i≤32) 0 (by omega) (by repeat (first | exact ai.nil | refine ai.cons _ _ _ rfl ?_)) (.keep _ _ _ _ _ _ (fun _ h=>h) (.keep _ _ _ _ _ _ (fun _ h=>h) (.keep _ _ _ _ _ _ (fun _ h=>h) (.nil _)))) ?_
  intro i hi
  have hlen:=Bj W i
  repeat (first | refine JL.q (by (apply OQ.bN;rfl;rfl)) rfl ?_ | refine JC.seq ?_ | refine JC.region ?_ | refine JL.nil ?_ | refine JE.next ?_)
  refine JC.cond rfl (fun h=>?_) (fun h=>?_)
  · have hi' : i<32:=of_decide_eq_true h
    clear h hi
    have hc:=E8 (l:=W) (i:=i / 8) (by omega)
    have eS : Bi W (i+1)=(Bi W i).set i ((W.getD (i / 8) 0 >>> (i % 8 * 8)).setWidth 8):=rfl
    generalize Bi W i=X at eS hlen ⊢
    repeat (first | refine JL.q (by first|(apply OQ.aD;exact Tryz.underlying154;exact xV;rfl;rfl;exact (by (try simp only []);omega))|(apply OQ.load;exact fZ;rfl;exact (.there .here);exact (Row.cell hc))|(apply OQ.aD;exact Tryz.underlying23;exact wB;rfl;rfl;exact hi')|(apply OQ.move;rfl)|(apply OQ.assign;rfl)|(apply OQ.jF;rfl;rfl)|(apply OQ.iJ;rfl;rfl;exact (by (try simp only []);omega))|(apply OQ.yI;rfl;rfl;exact (by (try simp only []);omega))|(apply OQ.Dl;rfl;rfl;exact (by (try simp only []);omega);exact (by (try simp only []);omega))|(apply OQ.lG;rfl;rfl;rfl)) rfl ?_ | refine JC.seq ?_ | refine JC.region ?_ | refine JC.block ?_ | refine JC.skip ?_ | refine JL.nil ?_ | refine JE.next ?_)
    refine JL.az (r':=(Bi W (i+1)).map U8) wB rfl rfl rfl rfl .here (by rw [List.length_map,hlen];exact hi') (by rw [eS];exact sj _ _ _) ?_
    repeat (first | refine JL.q (by first|(apply OQ.move;rfl)|(apply OQ.aY;rfl;rfl;exact (by (try simp only []);omega))) rfl ?_ | refine JC.region ?_ | refine JL.nil ?_ | refine JE.next ?_ | refine JE.aq ?_)
    exact JE.again (i:=i) (i+1) (by omega) (by omega) (by repeat (first | exact ai.nil | refine ai.cons _ _ _ rfl ?_)) (an.refl _)
  · have hi' : ¬ i<32:=of_decide_eq_false h
    obtain rfl : i=32:=by omega
    clear h hi hi'
    have hl' : ((Bi W 32).map U8).length=32:=by rw [List.length_map,hlen]
    generalize Bi W 32=X at hl' ⊢
    repeat (first | refine JL.q (by (apply OQ.af (cs:=X.map U8);exact aQ;exact aB;rfl;exact .here;exact hl';exact Row.all)) rfl ?_ | refine JC.seq ?_ | refine JC.region ?_ | refine JC.exit ?_ | refine JE.next ?_ | refine JE.ax ?_ | refine JE.aA ?_)
    refine JL.ag (cs:=X.map U8) aB rfl rfl hl' (aU _) (.there (.there .here)) (by simp) ?_
    repeat (first | refine JL.nil ?_ | refine JE.next ?_)
    refine JC.ret (JE.aR rfl (RV.av aQ aB rfl (.there (.there .here)) hl' Row.all) ?_)
    exact fun w' hw=>⟨rfl,hw.aM⟩
set_option maxHeartbeats 16000000 in
theorem oQ (c : Bool) (a b : N5) (w : World) : Calls Tryz.prog 95 [.agg (a.l.map aj).toArray,.agg (b.l.map aj).toArray,U8 (bt c)].toArray w
    fun e w'=>e=.returned (.tuple #[.agg ((if c then b else a).l.map aj).toArray,.agg ((if c then a else b).l.map aj).toArray])∧Ext w w':=by
  have hm:=G1 c
  have hab : a.l.length=b.l.length:=rfl
  have eX : iZ c a.l b.l 5=(if c then b else a).l:=by cases c <;> rfl
  have eY : iZ c b.l a.l 5=(if c then a else b).l:=by cases c <;> rfl
  have z1 : iZ c a.l b.l 0=a.l:=by cases c <;> rfl
  have z2 : iZ c b.l a.l 0=b.l:=by cases c <;> rfl
  have lX : ∀ i,(iZ c a.l b.l i).length=5:=fun i=>xS c hab i
  have lY : ∀ i,(iZ c b.l a.l i).length=5:=fun i=>xS c hab.symm i
  have gX : ∀ i,i<5→((iZ c a.l b.l i).map aj)[i]?=some (aj (a.l.getD i 0)):=fun i hi=>by rw [List.getElem?_map,xT c hab hi];rfl
  have gY : ∀ i,i<5→((iZ c b.l a.l i).map aj)[i]?=some (aj (b.l.getD i 0)):=fun i hi=>by rw [List.getElem?_map,xT c hab.symm hi];rfl
  have sX : ∀ i,i<5→(iZ c a.l b.l i).set i (a.l.getD i 0 ^^^ (Cy c &&& (a.l.getD i 0 ^^^ b.l.getD i 0)))=iZ c a.l b.l (i+1):=fun i hi=>xU c hab hi (E4 c _ _)
  have sY : ∀ i,i<5→(iZ c b.l a.l i).set i (b.l.getD i 0 ^^^ (Cy c &&& (a.l.getD i 0 ^^^ b.l.getD i 0)))=iZ c b.l a.l (i+1):=fun i hi=>xU c hab.symm hi (JG c _ _)
  generalize (if c then b else a).l=A at eX ⊢
  generalize (if c then a else b).l=B at eY ⊢
  refine enter (n:=41) Tryz.func95 rfl rfl rfl (ah.start w []) ?_
  repeat (first | refine JC.seq ?_ | refine JC.region ?_)
  refine JL.box (r:=a.l.map aj) rfl rfl rfl fun b3 _=>?_
  refine JL.box (r:=b.l.map aj) rfl rfl rfl fun b4 _=>?_
  refine JL.alloc mP rfl fun b6 _=>?_
  refine JL.alloc mP rfl fun b7 _=>?_
  repeat (first | refine JL.q (by first|(apply OQ.rj;rfl;rfl;rfl)|(apply OQ.KH;rfl)|(apply OQ.move;rfl)|(apply OQ.assign;rfl)) rfl ?_ | refine JC.seq ?_ | refine JC.region ?_ | refine JC.block ?_ | refine JL.nil ?_ | refine JE.next ?_)
  rw [hm]
  refine JC.loop (fun i : Nat=>[(3,Pt b3 0),(4,Pt b4 0),(6,Pt b6 0),(7,Pt b7 0),(8,aj (Cy c)),(14,N i)])
    (fun i=>[⟨b7,Row 118 (bG.l.map aj),true⟩,⟨b6,Row 118 (bG.l.map aj),true⟩,⟨b4,Row 118 ((iZ c b.l a.l i).map aj),true⟩,⟨b3,Row 118 ((iZ c a.l b.l i).map aj),true⟩])
    (fun i=>5 - i) (fun i=>i≤5) 0 (by omega) (by repeat (first | exact ai.nil | refine ai.cons _ _ _ rfl ?_)) (.keep _ _ _ _ _ _ (fun _ h=>h) (.keep _ _ _ _ _ _ (fun _ h=>h) (.keep _ _ _ _ _ _ (fun _ h=>by rw [z2];exact h) (.keep _ _ _ _ _ _ (fun _ h=>by rw [z1];exact h) (.nil _))))) ?_
  intro i hi
  repeat (first | refine JL.q (by (apply OQ.bN;rfl;rfl)) rfl ?_ | refine JC.seq ?_ | refine JC.region ?_ | refine JL.nil ?_ | refine JE.next ?_)
  refine JC.cond rfl (fun h=>?_) (fun h=>?_)
  · have hi' : i<5:=of_decide_eq_true h
    clear h hi eX eY z1 z2
    have hX:=gX i hi'
    have hY:=gY i hi'
    have tX:=sX i hi'
    have tY:=sY i hi'
    have kX:=lX i
    have kY:=lY i
    clear gX gY sX sY lX lY
    generalize iZ c a.l b.l i=X at hX tX kX ⊢
    generalize iZ c b.l a.l i=Y at hY tY kY ⊢
    generalize a.l.getD i 0=x at hX tX tY
    generalize b.l.getD i 0=y at hY tX tY
    repeat (first | refine JL.q (by first|(apply OQ.move;rfl)|(apply OQ.assign;rfl)) rfl ?_ | refine JC.seq ?_ | refine JC.region ?_ | refine JC.block ?_ | refine JC.skip ?_ | refine JL.nil ?_ | refine JE.next ?_)
    refine JC.quiet eP (by kernel_rfl) ?_
    repeat (first | refine JL.q (by first|(apply OQ.aD;exact Tryz.underlying118;exact xV;rfl;rfl;exact hi')|(apply OQ.load;exact fZ;rfl;exact (by repeat (first | exact Has.here | apply Has.there));exact (Row.cell hX))|(apply OQ.load;exact fZ;rfl;exact (by repeat (first | exact Has.here | apply Has.there));exact (Row.cell hY))|(apply OQ.DF;rfl;rfl)|(apply OQ.m9;rfl;rfl)|(apply OQ.move;rfl)|(apply OQ.assign;rfl)) rfl ?_ | refine JQ.q (by first|(apply OQ.aD;exact Tryz.underlying118;exact xV;rfl;rfl;exact hi')|(apply OQ.load;exact fZ;rfl;exact (by repeat (first | exact Has.here | apply Has.there));exact (Row.cell hX))|(apply OQ.load;exact fZ;rfl;exact (by repeat (first | exact Has.here | apply Has.there));exact (Row.cell hY))|(apply OQ.DF;rfl;rfl)|(apply OQ.m9;rfl;rfl)|(apply OQ.move;rfl)|(apply OQ.assign;rfl)) rfl ?_ | refine JC.seq ?_ | refine JC.region ?_ | refine JQ.nil ?_ | refine JE.next ?_)
    refine JL.az (r':=(iZ c a.l b.l (i+1)).map aj) xV rfl rfl rfl rfl (by repeat (first | exact e9.here | apply e9.there)) (by rw [List.length_map,kX];exact hi') (by rw [← tX];exact E9 _ _ _) ?_
    repeat (first | refine JL.q (by first|(apply OQ.aD;exact Tryz.underlying118;exact xV;rfl;rfl;exact hi')|(apply OQ.load;exact fZ;rfl;exact (by repeat (first | exact Has.here | apply Has.there));exact (Row.cell hY))|(apply OQ.DF;rfl;rfl)|(apply OQ.move;rfl)) rfl ?_ | refine JC.region ?_ | refine JL.nil ?_ | refine JE.next ?_)
    refine JL.az (r':=(iZ c b.l a.l (i+1)).map aj) xV rfl rfl rfl rfl (by repeat (first | exact e9.here | apply e9.there)) (by rw [List.length_map,kY];exact hi') (by rw [← tY];exact E9 _ _ _) ?_
    repeat (first | refine JL.q (by first|(apply OQ.move;rfl)|(apply OQ.aY;rfl;rfl;exact (by (try simp only []);omega))) rfl ?_ | refine JC.region ?_ | refine JL.nil ?_ | refine JE.next ?_ | refine JE.aq ?_)
    exact JE.again (i:=i) (i+1) (by omega) (by omega) (by repeat (first | exact ai.nil | refine ai.cons _ _ _ rfl ?_)) (an.refl _)
  · have hi' : ¬ i<5:=of_decide_eq_false h
    obtain rfl : i=5:=by omega
    clear h hi hi'
    have hX:=lX 5
    have hY:=lY 5
    clear gX gY sX sY lX lY
    rw [eX] at hX ⊢
    rw [eY] at hY ⊢
    generalize A=X at *
    generalize B=Y at *
    repeat (first | refine JC.seq ?_ | refine JC.exit ?_ | refine JE.next ?_ | refine JE.ax ?_ | refine JE.aA ?_)
    let vs : Nat→Nat→Value:=fun j x=>match j with
      | 0=>.agg (X.map aj).toArray
      | 1=>.agg (Y.map aj).toArray
      | _=>Pt x 0
    let Ms : Nat→Nat→List aG:=fun j x=>match j with
      | 2=>[⟨b6,Row 118 (X.map aj),true⟩]
      | 3=>[⟨b7,Row 118 (Y.map aj),true⟩]
      | 4=>[⟨b7,Row 118 (bG.l.map aj),true⟩]
      | 5=>[⟨b6,Row 118 (bG.l.map aj),true⟩]
      | 6=>[⟨b4,Row 118 (Y.map aj),true⟩]
      | 7=>[⟨b3,Row 118 (X.map aj),true⟩]
      | _=>[]
    refine JC.grow (g:=⟨[(3,Pt b3 0),(4,Pt b4 0),(6,Pt b6 0),(7,Pt b7 0)],8,vs,Ms,(fun j=>match j with | 2=>[(0,39)] | 3=>[(1,40)] | _=>[]),(fun j=>match j with | 0=>[7] | 1=>[6] | 2=>[5] | 3=>[4] | _=>[]),(fun j=>match j with | 2=>[5] | 3=>[4] | _=>[]),(fun j=>match j with | _=>none)⟩) [] [2,3,6,7] eP (by repeat (first | exact ai.nil | refine ai.cons _ _ _ rfl ?_)) (an.refl _) (by kernel_rfl) (by kernel_rfl) (by kernel_rfl) ?_ ?_
    · refine ⟨?_,?_,?_,?_,trivial⟩
      · (intro x EF MF Q kk;exact JL.q (OQ.af (cs:=X.map aj) eG cg rfl .here (by rw [List.length_map];exact hX) Row.all) rfl (JL.nil (kk default nofun)))
      · (intro x EF MF Q kk;exact JL.q (OQ.af (cs:=Y.map aj) eG cg rfl .here (by rw [List.length_map];exact hY) Row.all) rfl (JL.nil (kk default nofun)))
      · (intro x EF MF Q kk;exact JL.ag (cs:=X.map aj) cg rfl rfl (by rw [List.length_map];exact hX) (bn _) .here rfl (JL.nil (kk default nofun)))
      · (intro x EF MF Q kk;exact JL.ag (cs:=Y.map aj) cg rfl rfl (by rw [List.length_map];exact hY) (bn _) .here rfl (JL.nil (kk default nofun)))
    · intro x hx
      show JE _ _ _ _ _ [(3,Pt b3 0),(4,Pt b4 0),(6,Pt b6 0),(7,Pt b7 0)] [⟨b6,Row 118 (X.map aj),true⟩,⟨b7,Row 118 (Y.map aj),true⟩,⟨b4,Row 118 (Y.map aj),true⟩,⟨b3,Row 118 (X.map aj),true⟩]
      clear hx x vs Ms
      have kX : (X.map aj).length=5:=by rw [List.length_map];exact hX
      have kY : (Y.map aj).length=5:=by rw [List.length_map];exact hY
      refine JE.next ?_
      refine JC.ret ?_
      refine JE.gI rfl (RV.av eG cg rfl (by repeat (first | exact Has.here | apply Has.there)) kX Row.all) (RV.av eG cg rfl (by repeat (first | exact Has.here | apply Has.there)) kY Row.all) ?_
      exact fun w' hw=>⟨rfl,hw.aM⟩
end
section
set_option maxRecDepth 10000
open Sl dW
def lW : L5:=⟨bG,bG,bG,bG⟩
theorem xZ : dP Tryz.prog 121=some 20:=by kernel_rfl
theorem G5 : gy Tryz.prog 121=true:=by kernel_rfl
theorem JR : zc Tryz.prog 121=some (lW.l.map aj):=by kernel_rfl
theorem vX : aL Tryz.prog 77:=⟨_,Tryz.func77,rfl,by kernel_rfl⟩
set_option maxHeartbeats 16000000 in
theorem nD (c : Bool) (s : L5) (w : World) : Calls Tryz.prog 76 [.agg (s.l.map aj).toArray,U8 (bt c)].toArray w fun e w'=>e=.returned (.agg ((EZ c s).l.map aj).toArray)∧Ext w w':=by
  obtain ⟨x2,z2,x3,z3⟩:=s
  have cx:=oQ c x2 x3
  have cz:=oQ c z2 z3
  have e : EZ c ⟨x2,z2,x3,z3⟩=⟨if c then x3 else x2,if c then z3 else z2,if c then x2 else x3,if c then z2 else z3⟩:=by cases c <;> rfl
  rw [e]
  clear e
  generalize (if c then x3 else x2)=X2 at cx ⊢
  generalize (if c then x2 else x3)=X3 at cx ⊢
  generalize (if c then z3 else z2)=Z2 at cz ⊢
  generalize (if c then z2 else z3)=Z3 at cz ⊢
  refine enter (n:=28) Tryz.func76 rfl rfl rfl (ah.start w []) ?_
  repeat (first | refine JC.seq ?_ | refine JC.region ?_)
  refine JL.box (r:=(x2.l++z2.l++x3.l++z3.l).map aj) rfl rfl rfl fun b2 _=>?_
  refine JL.alloc JR rfl fun b4 _=>?_
  repeat (first | refine JL.q (by first|(apply OQ.af (cs:=x2.l.map aj);exact eG;exact cg;rfl;exact (.there .here);rfl;exact (Row.cells rfl))|(apply OQ.af (cs:=x3.l.map aj);exact eG;exact cg;rfl;exact (.there .here);rfl;exact (Row.cells rfl))|(apply OQ.au (vs:=[.agg (x2.l.map aj).toArray,.agg (x3.l.map aj).toArray,U8 (bt c)]);exact nC;rfl;exact (fun w' _=>cx w'))|(apply OQ.extract;rfl;rfl)|(apply OQ.move;rfl)|(apply OQ.bM;rfl;rfl;rfl;exact (by decide);rfl)) rfl ?_ | refine JC.seq ?_ | refine JC.region ?_ | refine JL.nil ?_ | refine JE.next ?_)
  refine JL.aW (cs:=X2.l.map aj) (r':=(X2.l++z2.l++x3.l++z3.l).map aj) cg rfl rfl rfl (bn _) (.there .here) (Nat.le_of_ble_eq_true rfl) rfl ?_
  repeat (refine JL.q (by (apply OQ.bM;rfl;rfl;rfl;exact (by decide);rfl)) rfl ?_)
  refine JL.aW (cs:=X3.l.map aj) (r':=(X2.l++z2.l++X3.l++z3.l).map aj) cg rfl rfl rfl (bn _) (.there .here) (Nat.le_of_ble_eq_true rfl) rfl ?_
  repeat (first | refine JL.q (by first|(apply OQ.af (cs:=z2.l.map aj);exact eG;exact cg;rfl;exact (.there .here);rfl;exact (Row.cells rfl))|(apply OQ.af (cs:=z3.l.map aj);exact eG;exact cg;rfl;exact (.there .here);rfl;exact (Row.cells rfl))|(apply OQ.au (vs:=[.agg (z2.l.map aj).toArray,.agg (z3.l.map aj).toArray,U8 (bt c)]);exact nC;rfl;exact (fun w' _=>cz w'))|(apply OQ.extract;rfl;rfl)|(apply OQ.move;rfl)|(apply OQ.bM;rfl;rfl;rfl;exact (by decide);rfl)) rfl ?_ | refine JC.seq ?_ | refine JC.region ?_ | refine JL.nil ?_ | refine JE.next ?_)
  refine JL.aW (cs:=Z2.l.map aj) (r':=(X2.l++Z2.l++X3.l++z3.l).map aj) cg rfl rfl rfl (bn _) (.there .here) (Nat.le_of_ble_eq_true rfl) rfl ?_
  repeat (refine JL.q (by (apply OQ.bM;rfl;rfl;rfl;exact (by decide);rfl)) rfl ?_)
  refine JL.aW (cs:=Z3.l.map aj) (r':=(X2.l++Z2.l++X3.l++Z3.l).map aj) cg rfl rfl rfl (bn _) (.there .here) (Nat.le_of_ble_eq_true rfl) rfl ?_
  repeat (first | refine JL.q (by (apply OQ.af (cs:=(X2.l++Z2.l++X3.l++Z3.l).map aj);exact G5;exact xZ;rfl;exact (.there .here);rfl;exact Row.all)) rfl ?_ | refine JC.seq ?_ | refine JC.region ?_ | refine JL.nil ?_ | refine JE.next ?_)
  refine JL.ag (cs:=(X2.l++Z2.l++X3.l++Z3.l).map aj) xZ rfl rfl rfl (bn _) .here rfl ?_
  repeat (first | refine JL.nil ?_ | refine JE.next ?_)
  refine JC.ret (JE.aR rfl (RV.av G5 xZ rfl .here rfl Row.all) ?_)
  exact fun w' hw=>⟨rfl,hw.aM⟩
set_option maxHeartbeats 64000000 in
set_option maxRecDepth 4000 in
theorem x5 (x1 : N5) (s : L5) (w : World) : Calls Tryz.prog 77 [.agg (s.l.map aj).toArray,.agg (x1.l.map aj).toArray].toArray w fun e w'=>e=.returned (.agg ((vS x1 s).l.map aj).toArray)∧Ext w w':=by
  obtain ⟨X2,Z2,X3,Z3⟩:=s
  have c_A:=qP X2 Z2
  generalize h_A : pR X2 Z2=A at c_A
  have c_B:=gu X2 Z2
  generalize h_B : nW X2 Z2=B at c_B
  have c_C:=qP X3 Z3
  generalize h_C : pR X3 Z3=C at c_C
  have c_D:=gu X3 Z3
  generalize h_D : nW X3 Z3=D at c_D
  have c_AA:=aT A A
  generalize h_AA : cO A A=AA at c_AA
  have c_BB:=aT B B
  generalize h_BB : cO B B=BB at c_BB
  have c_DA:=aT D A
  generalize h_DA : cO D A=DA at c_DA
  have c_CB:=aT C B
  generalize h_CB : cO C B=CB at c_CB
  have c_E:=gu AA BB
  generalize h_E : nW AA BB=E at c_E
  have c_M:=qP DA CB
  generalize h_M : pR DA CB=M at c_M
  have c_S:=gu DA CB
  generalize h_S : nW DA CB=S at c_S
  have c_R1:=aT AA BB
  generalize h_R1 : cO AA BB=R1 at c_R1
  have c_F:=aT cN E
  generalize h_F : cO cN E=F at c_F
  have c_G:=qP AA F
  generalize h_G : pR AA F=G at c_G
  have c_R2:=aT E G
  generalize h_R2 : cO E G=R2 at c_R2
  have c_R3:=aT M M
  generalize h_R3 : cO M M=R3 at c_R3
  have c_SS:=aT S S
  generalize h_SS : cO S S=SS at c_SS
  have c_R4:=aT x1 SS
  generalize h_R4 : cO x1 SS=R4 at c_R4
  have eS : vS x1 ⟨X2,Z2,X3,Z3⟩=⟨R1,R2,R3,R4⟩:=by
    subst h_R4 h_SS h_R3 h_R2 h_G h_F h_R1 h_S h_M h_E h_CB h_DA h_BB h_AA h_D h_C h_B h_A
    rfl
  rw [eS]
  clear eS h_A h_B h_C h_D h_AA h_BB h_DA h_CB h_E h_M h_S h_R1 h_F h_G h_R2 h_R3 h_SS h_R4
  refine enter (n:=76) Tryz.func77 rfl rfl rfl (ah.start w []) ?_
  repeat (first | refine JC.seq ?_ | refine JC.region ?_)
  refine JL.box (r:=(X2.l++Z2.l++X3.l++Z3.l).map aj) rfl rfl rfl fun b2 _=>?_
  refine JL.box (r:=x1.l.map aj) rfl rfl rfl fun b3 _=>?_
  refine JL.alloc JR rfl fun b4 _=>?_
  repeat (first | refine JC.seq ?_ | refine JL.nil ?_ | refine JE.next ?_)
  let vs : Nat→Nat→Value:=fun j x=>match j with
    | 0=>Pt b2 0
    | 1=>.agg (X2.l.map aj).toArray
    | 2=>Pt b2 5
    | 3=>.agg (Z2.l.map aj).toArray
    | 4=>.agg (A.l.map aj).toArray
    | 5=>Pt b2 0
    | 6=>.agg (X2.l.map aj).toArray
    | 7=>Pt b2 5
    | 8=>.agg (Z2.l.map aj).toArray
    | 9=>.agg (B.l.map aj).toArray
    | _=>Pt x 0
  let Ms : Nat→Nat→List aG:=fun j x=>match j with
    | 10=>[⟨x,Row 118 (bG.l.map aj),true⟩]
    | 11=>[⟨x,Row 118 (bG.l.map aj),true⟩]
    | 12=>[⟨x,Row 118 (A.l.map aj),true⟩]
    | 13=>[⟨x,Row 118 (B.l.map aj),true⟩]
    | 14=>[⟨b4,Row 121 (lW.l.map aj),true⟩]
    | 15=>[⟨b3,Row 118 (x1.l.map aj),true⟩]
    | 16=>[⟨b2,Row 121 ((X2.l++Z2.l++X3.l++Z3.l).map aj),true⟩]
    | _=>[]
  refine JC.grow (g:=⟨[(2,Pt b2 0),(3,Pt b3 0),(4,Pt b4 0)],17,vs,Ms,(fun j=>match j with | 1=>[(0,16)] | 3=>[(2,18)] | 4=>[(1,17),(3,19)] | 6=>[(5,21)] | 8=>[(7,23)] | 9=>[(6,22),(8,24)] | 12=>[(10,5),(4,20)] | 13=>[(11,6),(9,25)] | _=>[]),(fun j=>match j with | 1=>[16] | 3=>[16] | 6=>[16] | 8=>[16] | 12=>[10] | 13=>[11] | _=>[]),(fun j=>match j with | 12=>[10] | 13=>[11] | _=>[]),(fun j=>match j with | 12=>some 10 | 13=>some 11 | _=>none)⟩) [(10,5),(11,6)] [12,13,14,15,16] eP (by repeat (first | exact ai.nil | refine ai.cons _ _ _ rfl ?_)) (an.refl _) (by kernel_rfl) (by kernel_rfl) (by kernel_rfl) ?_ ?_
  · refine ⟨?_,?_,?_,?_,?_,?_,?_,?_,?_,?_,?_,?_,?_,?_,trivial⟩
    · (intro x EF MF Q kk;exact JL.q (OQ.wO (o:=0) rfl rfl rfl (by decide) rfl rfl) rfl (JL.nil (kk default nofun)))
    · (intro x EF MF Q kk;exact JL.q (OQ.af (cs:=X2.l.map aj) eG cg rfl .here rfl (Row.cells rfl)) rfl (JL.nil (kk default nofun)))
    · (intro x EF MF Q kk;exact JL.q (OQ.wO (o:=5) rfl rfl rfl (by decide) rfl rfl) rfl (JL.nil (kk default nofun)))
    · (intro x EF MF Q kk;exact JL.q (OQ.af (cs:=Z2.l.map aj) eG cg rfl .here rfl (Row.cells rfl)) rfl (JL.nil (kk default nofun)))
    · (intro x EF MF Q kk;exact JL.q (OQ.au (vs:=[.agg (X2.l.map aj).toArray,.agg (Z2.l.map aj).toArray]) oO rfl fun w' _=>c_A w') rfl (JL.nil (kk default nofun)))
    · (intro x EF MF Q kk;exact JL.q (OQ.wO (o:=0) rfl rfl rfl (by decide) rfl rfl) rfl (JL.nil (kk default nofun)))
    · (intro x EF MF Q kk;exact JL.q (OQ.af (cs:=X2.l.map aj) eG cg rfl .here rfl (Row.cells rfl)) rfl (JL.nil (kk default nofun)))
    · (intro x EF MF Q kk;exact JL.q (OQ.wO (o:=5) rfl rfl rfl (by decide) rfl rfl) rfl (JL.nil (kk default nofun)))
    · (intro x EF MF Q kk;exact JL.q (OQ.af (cs:=Z2.l.map aj) eG cg rfl .here rfl (Row.cells rfl)) rfl (JL.nil (kk default nofun)))
    · (intro x EF MF Q kk;exact JL.q (OQ.au (vs:=[.agg (X2.l.map aj).toArray,.agg (Z2.l.map aj).toArray]) fP rfl fun w' _=>c_B w') rfl (JL.nil (kk default nofun)))
    · (intro x EF MF Q kk;exact JL.alloc mP rfl fun b _=>JL.nil (kk b nofun))
    · (intro x EF MF Q kk;exact JL.alloc mP rfl fun b _=>JL.nil (kk b nofun))
    · (intro x EF MF Q kk;exact JL.ag (cs:=A.l.map aj) cg rfl rfl rfl (bn _) .here rfl (JL.nil (kk (x 10) (fun k h=>by cases h;rfl))))
    · (intro x EF MF Q kk;exact JL.ag (cs:=B.l.map aj) cg rfl rfl rfl (bn _) .here rfl (JL.nil (kk (x 11) (fun k h=>by cases h;rfl))))
  · intro x hx
    have h12:=hx 12 10 (by decide) rfl
    have h13:=hx 13 11 (by decide) rfl
    show JE _ _ _ _ _ [(5,Pt (x 10) 0),(6,Pt (x 11) 0),(2,Pt b2 0),(3,Pt b3 0),(4,Pt b4 0)] [⟨(x 12),Row 118 (A.l.map aj),true⟩,⟨(x 13),Row 118 (B.l.map aj),true⟩,⟨b4,Row 121 (lW.l.map aj),true⟩,⟨b3,Row 118 (x1.l.map aj),true⟩,⟨b2,Row 121 ((X2.l++Z2.l++X3.l++Z3.l).map aj),true⟩]
    rw [h12,h13]
    generalize x 10=b5
    generalize x 11=b6
    clear hx h12 h13 x vs Ms
    repeat (first | refine JC.seq ?_ | refine JE.next ?_)
    let vs : Nat→Nat→Value:=fun j x=>match j with
      | 0=>Pt b2 10
      | 1=>.agg (X3.l.map aj).toArray
      | 2=>Pt b2 15
      | 3=>.agg (Z3.l.map aj).toArray
      | 4=>.agg (C.l.map aj).toArray
      | 5=>Pt b2 10
      | 6=>.agg (X3.l.map aj).toArray
      | 7=>Pt b2 15
      | 8=>.agg (Z3.l.map aj).toArray
      | 9=>.agg (D.l.map aj).toArray
      | _=>Pt x 0
    let Ms : Nat→Nat→List aG:=fun j x=>match j with
      | 10=>[⟨x,Row 118 (bG.l.map aj),true⟩]
      | 11=>[⟨x,Row 118 (bG.l.map aj),true⟩]
      | 12=>[⟨x,Row 118 (C.l.map aj),true⟩]
      | 13=>[⟨x,Row 118 (D.l.map aj),true⟩]
      | 14=>[⟨b5,Row 118 (A.l.map aj),true⟩]
      | 15=>[⟨b6,Row 118 (B.l.map aj),true⟩]
      | 16=>[⟨b4,Row 121 (lW.l.map aj),true⟩]
      | 17=>[⟨b3,Row 118 (x1.l.map aj),true⟩]
      | 18=>[⟨b2,Row 121 ((X2.l++Z2.l++X3.l++Z3.l).map aj),true⟩]
      | _=>[]
    refine JC.grow (g:=⟨[(5,Pt b5 0),(6,Pt b6 0),(2,Pt b2 0),(3,Pt b3 0),(4,Pt b4 0)],19,vs,Ms,(fun j=>match j with | 1=>[(0,26)] | 3=>[(2,28)] | 4=>[(1,27),(3,29)] | 6=>[(5,31)] | 8=>[(7,33)] | 9=>[(6,32),(8,34)] | 12=>[(10,7),(4,30)] | 13=>[(11,8),(9,35)] | _=>[]),(fun j=>match j with | 1=>[18] | 3=>[18] | 6=>[18] | 8=>[18] | 12=>[10] | 13=>[11] | _=>[]),(fun j=>match j with | 12=>[10] | 13=>[11] | _=>[]),(fun j=>match j with | 12=>some 10 | 13=>some 11 | _=>none)⟩) [(10,7),(11,8)] [12,13,14,15,16,17,18] eP (by repeat (first | exact ai.nil | refine ai.cons _ _ _ rfl ?_)) (an.refl _) (by kernel_rfl) (by kernel_rfl) (by kernel_rfl) ?_ ?_
    · refine ⟨?_,?_,?_,?_,?_,?_,?_,?_,?_,?_,?_,?_,?_,?_,trivial⟩
      · (intro x EF MF Q kk;exact JL.q (OQ.wO (o:=10) rfl rfl rfl (by decide) rfl rfl) rfl (JL.nil (kk default nofun)))
      · (intro x EF MF Q kk;exact JL.q (OQ.af (cs:=X3.l.map aj) eG cg rfl .here rfl (Row.cells rfl)) rfl (JL.nil (kk default nofun)))
      · (intro x EF MF Q kk;exact JL.q (OQ.wO (o:=15) rfl rfl rfl (by decide) rfl rfl) rfl (JL.nil (kk default nofun)))
      · (intro x EF MF Q kk;exact JL.q (OQ.af (cs:=Z3.l.map aj) eG cg rfl .here rfl (Row.cells rfl)) rfl (JL.nil (kk default nofun)))
      · (intro x EF MF Q kk;exact JL.q (OQ.au (vs:=[.agg (X3.l.map aj).toArray,.agg (Z3.l.map aj).toArray]) oO rfl fun w' _=>c_C w') rfl (JL.nil (kk default nofun)))
      · (intro x EF MF Q kk;exact JL.q (OQ.wO (o:=10) rfl rfl rfl (by decide) rfl rfl) rfl (JL.nil (kk default nofun)))
      · (intro x EF MF Q kk;exact JL.q (OQ.af (cs:=X3.l.map aj) eG cg rfl .here rfl (Row.cells rfl)) rfl (JL.nil (kk default nofun)))
      · (intro x EF MF Q kk;exact JL.q (OQ.wO (o:=15) rfl rfl rfl (by decide) rfl rfl) rfl (JL.nil (kk default nofun)))
      · (intro x EF MF Q kk;exact JL.q (OQ.af (cs:=Z3.l.map aj) eG cg rfl .here rfl (Row.cells rfl)) rfl (JL.nil (kk default nofun)))
      · (intro x EF MF Q kk;exact JL.q (OQ.au (vs:=[.agg (X3.l.map aj).toArray,.agg (Z3.l.map aj).toArray]) fP rfl fun w' _=>c_D w') rfl (JL.nil (kk default nofun)))
      · (intro x EF MF Q kk;exact JL.alloc mP rfl fun b _=>JL.nil (kk b nofun))
      · (intro x EF MF Q kk;exact JL.alloc mP rfl fun b _=>JL.nil (kk b nofun))
      · (intro x EF MF Q kk;exact JL.ag (cs:=C.l.map aj) cg rfl rfl rfl (bn _) .here rfl (JL.nil (kk (x 10) (fun k h=>by cases h;rfl))))
      · (intro x EF MF Q kk;exact JL.ag (cs:=D.l.map aj) cg rfl rfl rfl (bn _) .here rfl (JL.nil (kk (x 11) (fun k h=>by cases h;rfl))))
    · intro x hx
      have h12:=hx 12 10 (by decide) rfl
      have h13:=hx 13 11 (by decide) rfl
      show JE _ _ _ _ _ [(7,Pt (x 10) 0),(8,Pt (x 11) 0),(5,Pt b5 0),(6,Pt b6 0),(2,Pt b2 0),(3,Pt b3 0),(4,Pt b4 0)] [⟨(x 12),Row 118 (C.l.map aj),true⟩,⟨(x 13),Row 118 (D.l.map aj),true⟩,⟨b5,Row 118 (A.l.map aj),true⟩,⟨b6,Row 118 (B.l.map aj),true⟩,⟨b4,Row 121 (lW.l.map aj),true⟩,⟨b3,Row 118 (x1.l.map aj),true⟩,⟨b2,Row 121 ((X2.l++Z2.l++X3.l++Z3.l).map aj),true⟩]
      rw [h12,h13]
      generalize x 10=b7
      generalize x 11=b8
      clear hx h12 h13 x vs Ms
      repeat (first | refine JC.seq ?_ | refine JE.next ?_)
      let vs : Nat→Nat→Value:=fun j x=>match j with
        | 0=>.agg (A.l.map aj).toArray
        | 1=>.agg (A.l.map aj).toArray
        | 2=>.agg (AA.l.map aj).toArray
        | 3=>.agg (B.l.map aj).toArray
        | 4=>.agg (B.l.map aj).toArray
        | 5=>.agg (BB.l.map aj).toArray
        | _=>Pt x 0
      let Ms : Nat→Nat→List aG:=fun j x=>match j with
        | 6=>[⟨x,Row 118 (bG.l.map aj),true⟩]
        | 7=>[⟨x,Row 118 (bG.l.map aj),true⟩]
        | 8=>[⟨x,Row 118 (AA.l.map aj),true⟩]
        | 9=>[⟨x,Row 118 (BB.l.map aj),true⟩]
        | 10=>[⟨b7,Row 118 (C.l.map aj),true⟩]
        | 11=>[⟨b8,Row 118 (D.l.map aj),true⟩]
        | 12=>[⟨b5,Row 118 (A.l.map aj),true⟩]
        | 13=>[⟨b6,Row 118 (B.l.map aj),true⟩]
        | 14=>[⟨b4,Row 121 (lW.l.map aj),true⟩]
        | 15=>[⟨b3,Row 118 (x1.l.map aj),true⟩]
        | 16=>[⟨b2,Row 121 ((X2.l++Z2.l++X3.l++Z3.l).map aj),true⟩]
        | _=>[]
      refine JC.grow (g:=⟨[(7,Pt b7 0),(8,Pt b8 0),(5,Pt b5 0),(6,Pt b6 0),(2,Pt b2 0),(3,Pt b3 0),(4,Pt b4 0)],17,vs,Ms,(fun j=>match j with | 2=>[(0,36),(1,37)] | 5=>[(3,39),(4,40)] | 8=>[(6,9),(2,38)] | 9=>[(7,10),(5,41)] | _=>[]),(fun j=>match j with | 0=>[12] | 1=>[12] | 3=>[13] | 4=>[13] | 8=>[6] | 9=>[7] | _=>[]),(fun j=>match j with | 8=>[6] | 9=>[7] | _=>[]),(fun j=>match j with | 8=>some 6 | 9=>some 7 | _=>none)⟩) [(6,9),(7,10)] [8,9,10,11,12,13,14,15,16] eP (by repeat (first | exact ai.nil | refine ai.cons _ _ _ rfl ?_)) (an.refl _) (by kernel_rfl) (by kernel_rfl) (by kernel_rfl) ?_ ?_
      · refine ⟨?_,?_,?_,?_,?_,?_,?_,?_,?_,?_,trivial⟩
        · (intro x EF MF Q kk;exact JL.q (OQ.af (cs:=A.l.map aj) eG cg rfl .here rfl Row.all) rfl (JL.nil (kk default nofun)))
        · (intro x EF MF Q kk;exact JL.q (OQ.af (cs:=A.l.map aj) eG cg rfl .here rfl Row.all) rfl (JL.nil (kk default nofun)))
        · (intro x EF MF Q kk;exact JL.q (OQ.au (vs:=[.agg (A.l.map aj).toArray,.agg (A.l.map aj).toArray]) aO rfl fun w' _=>c_AA w') rfl (JL.nil (kk default nofun)))
        · (intro x EF MF Q kk;exact JL.q (OQ.af (cs:=B.l.map aj) eG cg rfl .here rfl Row.all) rfl (JL.nil (kk default nofun)))
        · (intro x EF MF Q kk;exact JL.q (OQ.af (cs:=B.l.map aj) eG cg rfl .here rfl Row.all) rfl (JL.nil (kk default nofun)))
        · (intro x EF MF Q kk;exact JL.q (OQ.au (vs:=[.agg (B.l.map aj).toArray,.agg (B.l.map aj).toArray]) aO rfl fun w' _=>c_BB w') rfl (JL.nil (kk default nofun)))
        · (intro x EF MF Q kk;exact JL.alloc mP rfl fun b _=>JL.nil (kk b nofun))
        · (intro x EF MF Q kk;exact JL.alloc mP rfl fun b _=>JL.nil (kk b nofun))
        · (intro x EF MF Q kk;exact JL.ag (cs:=AA.l.map aj) cg rfl rfl rfl (bn _) .here rfl (JL.nil (kk (x 6) (fun k h=>by cases h;rfl))))
        · (intro x EF MF Q kk;exact JL.ag (cs:=BB.l.map aj) cg rfl rfl rfl (bn _) .here rfl (JL.nil (kk (x 7) (fun k h=>by cases h;rfl))))
      · intro x hx
        have h8:=hx 8 6 (by decide) rfl
        have h9:=hx 9 7 (by decide) rfl
        show JE _ _ _ _ _ [(9,Pt (x 6) 0),(10,Pt (x 7) 0),(7,Pt b7 0),(8,Pt b8 0),(5,Pt b5 0),(6,Pt b6 0),(2,Pt b2 0),(3,Pt b3 0),(4,Pt b4 0)] [⟨(x 8),Row 118 (AA.l.map aj),true⟩,⟨(x 9),Row 118 (BB.l.map aj),true⟩,⟨b7,Row 118 (C.l.map aj),true⟩,⟨b8,Row 118 (D.l.map aj),true⟩,⟨b5,Row 118 (A.l.map aj),true⟩,⟨b6,Row 118 (B.l.map aj),true⟩,⟨b4,Row 121 (lW.l.map aj),true⟩,⟨b3,Row 118 (x1.l.map aj),true⟩,⟨b2,Row 121 ((X2.l++Z2.l++X3.l++Z3.l).map aj),true⟩]
        rw [h8,h9]
        generalize x 6=b9
        generalize x 7=b10
        clear hx h8 h9 x vs Ms
        repeat (first | refine JC.seq ?_ | refine JE.next ?_)
        let vs : Nat→Nat→Value:=fun j x=>match j with
          | 0=>.agg (D.l.map aj).toArray
          | 1=>.agg (A.l.map aj).toArray
          | 2=>.agg (DA.l.map aj).toArray
          | 3=>.agg (C.l.map aj).toArray
          | 4=>.agg (B.l.map aj).toArray
          | 5=>.agg (CB.l.map aj).toArray
          | _=>Pt x 0
        let Ms : Nat→Nat→List aG:=fun j x=>match j with
          | 6=>[⟨x,Row 118 (bG.l.map aj),true⟩]
          | 7=>[⟨x,Row 118 (bG.l.map aj),true⟩]
          | 8=>[⟨x,Row 118 (DA.l.map aj),true⟩]
          | 9=>[⟨x,Row 118 (CB.l.map aj),true⟩]
          | 10=>[⟨b9,Row 118 (AA.l.map aj),true⟩]
          | 11=>[⟨b10,Row 118 (BB.l.map aj),true⟩]
          | 12=>[⟨b7,Row 118 (C.l.map aj),true⟩]
          | 13=>[⟨b8,Row 118 (D.l.map aj),true⟩]
          | 14=>[⟨b5,Row 118 (A.l.map aj),true⟩]
          | 15=>[⟨b6,Row 118 (B.l.map aj),true⟩]
          | 16=>[⟨b4,Row 121 (lW.l.map aj),true⟩]
          | 17=>[⟨b3,Row 118 (x1.l.map aj),true⟩]
          | 18=>[⟨b2,Row 121 ((X2.l++Z2.l++X3.l++Z3.l).map aj),true⟩]
          | _=>[]
        refine JC.grow (g:=⟨[(9,Pt b9 0),(10,Pt b10 0),(7,Pt b7 0),(8,Pt b8 0),(5,Pt b5 0),(6,Pt b6 0),(2,Pt b2 0),(3,Pt b3 0),(4,Pt b4 0)],19,vs,Ms,(fun j=>match j with | 2=>[(0,42),(1,43)] | 5=>[(3,45),(4,46)] | 8=>[(6,11),(2,44)] | 9=>[(7,12),(5,47)] | _=>[]),(fun j=>match j with | 0=>[13] | 1=>[14] | 3=>[12] | 4=>[15] | 8=>[6] | 9=>[7] | _=>[]),(fun j=>match j with | 8=>[6] | 9=>[7] | _=>[]),(fun j=>match j with | 8=>some 6 | 9=>some 7 | _=>none)⟩) [(6,11),(7,12)] [8,9,10,11,12,13,14,15,16,17,18] eP (by repeat (first | exact ai.nil | refine ai.cons _ _ _ rfl ?_)) (an.refl _) (by kernel_rfl) (by kernel_rfl) (by kernel_rfl) ?_ ?_
        · refine ⟨?_,?_,?_,?_,?_,?_,?_,?_,?_,?_,trivial⟩
          · (intro x EF MF Q kk;exact JL.q (OQ.af (cs:=D.l.map aj) eG cg rfl .here rfl Row.all) rfl (JL.nil (kk default nofun)))
          · (intro x EF MF Q kk;exact JL.q (OQ.af (cs:=A.l.map aj) eG cg rfl .here rfl Row.all) rfl (JL.nil (kk default nofun)))
          · (intro x EF MF Q kk;exact JL.q (OQ.au (vs:=[.agg (D.l.map aj).toArray,.agg (A.l.map aj).toArray]) aO rfl fun w' _=>c_DA w') rfl (JL.nil (kk default nofun)))
          · (intro x EF MF Q kk;exact JL.q (OQ.af (cs:=C.l.map aj) eG cg rfl .here rfl Row.all) rfl (JL.nil (kk default nofun)))
          · (intro x EF MF Q kk;exact JL.q (OQ.af (cs:=B.l.map aj) eG cg rfl .here rfl Row.all) rfl (JL.nil (kk default nofun)))
          · (intro x EF MF Q kk;exact JL.q (OQ.au (vs:=[.agg (C.l.map aj).toArray,.agg (B.l.map aj).toArray]) aO rfl fun w' _=>c_CB w') rfl (JL.nil (kk default nofun)))
          · (intro x EF MF Q kk;exact JL.alloc mP rfl fun b _=>JL.nil (kk b nofun))
          · (intro x EF MF Q kk;exact JL.alloc mP rfl fun b _=>JL.nil (kk b nofun))
          · (intro x EF MF Q kk;exact JL.ag (cs:=DA.l.map aj) cg rfl rfl rfl (bn _) .here rfl (JL.nil (kk (x 6) (fun k h=>by cases h;rfl))))
          · (intro x EF MF Q kk;exact JL.ag (cs:=CB.l.map aj) cg rfl rfl rfl (bn _) .here rfl (JL.nil (kk (x 7) (fun k h=>by cases h;rfl))))
        · intro x hx
          have h8:=hx 8 6 (by decide) rfl
          have h9:=hx 9 7 (by decide) rfl
          show JE _ _ _ _ _ [(11,Pt (x 6) 0),(12,Pt (x 7) 0),(9,Pt b9 0),(10,Pt b10 0),(7,Pt b7 0),(8,Pt b8 0),(5,Pt b5 0),(6,Pt b6 0),(2,Pt b2 0),(3,Pt b3 0),(4,Pt b4 0)] [⟨(x 8),Row 118 (DA.l.map aj),true⟩,⟨(x 9),Row 118 (CB.l.map aj),true⟩,⟨b9,Row 118 (AA.l.map aj),true⟩,⟨b10,Row 118 (BB.l.map aj),true⟩,⟨b7,Row 118 (C.l.map aj),true⟩,⟨b8,Row 118 (D.l.map aj),true⟩,⟨b5,Row 118 (A.l.map aj),true⟩,⟨b6,Row 118 (B.l.map aj),true⟩,⟨b4,Row 121 (lW.l.map aj),true⟩,⟨b3,Row 118 (x1.l.map aj),true⟩,⟨b2,Row 121 ((X2.l++Z2.l++X3.l++Z3.l).map aj),true⟩]
          rw [h8,h9]
          generalize x 6=b11
          generalize x 7=b12
          clear hx h8 h9 x vs Ms
          repeat (first | refine JC.seq ?_ | refine JC.region ?_ | refine JE.next ?_)
          repeat (refine JL.q (by first|(apply OQ.af (cs:=AA.l.map aj);exact eG;exact cg;rfl;exact (by repeat (first | exact Has.here | apply Has.there));rfl;exact Row.all)|(apply OQ.af (cs:=BB.l.map aj);exact eG;exact cg;rfl;exact (by repeat (first | exact Has.here | apply Has.there));rfl;exact Row.all)|(apply OQ.au (vs:=[.agg (AA.l.map aj).toArray,.agg (BB.l.map aj).toArray]);exact fP;rfl;exact (fun w' _=>c_E w'))) rfl ?_)
          refine JL.alloc mP rfl fun b13 _=>?_
          refine JL.ag (cs:=E.l.map aj) cg rfl rfl rfl (bn _) .here rfl ?_
          repeat (first | refine JC.seq ?_ | refine JL.nil ?_ | refine JE.next ?_)
          let vs : Nat→Nat→Value:=fun j x=>match j with
            | 0=>.agg (DA.l.map aj).toArray
            | 1=>.agg (CB.l.map aj).toArray
            | 2=>.agg (M.l.map aj).toArray
            | 3=>.agg (DA.l.map aj).toArray
            | 4=>.agg (CB.l.map aj).toArray
            | 5=>.agg (S.l.map aj).toArray
            | _=>Pt x 0
          let Ms : Nat→Nat→List aG:=fun j x=>match j with
            | 6=>[⟨x,Row 118 (bG.l.map aj),true⟩]
            | 7=>[⟨x,Row 118 (bG.l.map aj),true⟩]
            | 8=>[⟨x,Row 118 (M.l.map aj),true⟩]
            | 9=>[⟨x,Row 118 (S.l.map aj),true⟩]
            | 10=>[⟨b13,Row 118 (E.l.map aj),true⟩]
            | 11=>[⟨b11,Row 118 (DA.l.map aj),true⟩]
            | 12=>[⟨b12,Row 118 (CB.l.map aj),true⟩]
            | 13=>[⟨b9,Row 118 (AA.l.map aj),true⟩]
            | 14=>[⟨b10,Row 118 (BB.l.map aj),true⟩]
            | 15=>[⟨b7,Row 118 (C.l.map aj),true⟩]
            | 16=>[⟨b8,Row 118 (D.l.map aj),true⟩]
            | 17=>[⟨b5,Row 118 (A.l.map aj),true⟩]
            | 18=>[⟨b6,Row 118 (B.l.map aj),true⟩]
            | 19=>[⟨b4,Row 121 (lW.l.map aj),true⟩]
            | 20=>[⟨b3,Row 118 (x1.l.map aj),true⟩]
            | 21=>[⟨b2,Row 121 ((X2.l++Z2.l++X3.l++Z3.l).map aj),true⟩]
            | _=>[]
          refine JC.grow (g:=⟨[(13,Pt b13 0),(11,Pt b11 0),(12,Pt b12 0),(9,Pt b9 0),(10,Pt b10 0),(7,Pt b7 0),(8,Pt b8 0),(5,Pt b5 0),(6,Pt b6 0),(2,Pt b2 0),(3,Pt b3 0),(4,Pt b4 0)],22,vs,Ms,(fun j=>match j with | 2=>[(0,51),(1,52)] | 5=>[(3,54),(4,55)] | 8=>[(6,14),(2,53)] | 9=>[(7,15),(5,56)] | _=>[]),(fun j=>match j with | 0=>[11] | 1=>[12] | 3=>[11] | 4=>[12] | 8=>[6] | 9=>[7] | _=>[]),(fun j=>match j with | 8=>[6] | 9=>[7] | _=>[]),(fun j=>match j with | 8=>some 6 | 9=>some 7 | _=>none)⟩) [(6,14),(7,15)] [8,9,10,11,12,13,14,15,16,17,18,19,20,21] eP (by repeat (first | exact ai.nil | refine ai.cons _ _ _ rfl ?_)) (an.refl _) (by kernel_rfl) (by kernel_rfl) (by kernel_rfl) ?_ ?_
          · refine ⟨?_,?_,?_,?_,?_,?_,?_,?_,?_,?_,trivial⟩
            · (intro x EF MF Q kk;exact JL.q (OQ.af (cs:=DA.l.map aj) eG cg rfl .here rfl Row.all) rfl (JL.nil (kk default nofun)))
            · (intro x EF MF Q kk;exact JL.q (OQ.af (cs:=CB.l.map aj) eG cg rfl .here rfl Row.all) rfl (JL.nil (kk default nofun)))
            · (intro x EF MF Q kk;exact JL.q (OQ.au (vs:=[.agg (DA.l.map aj).toArray,.agg (CB.l.map aj).toArray]) oO rfl fun w' _=>c_M w') rfl (JL.nil (kk default nofun)))
            · (intro x EF MF Q kk;exact JL.q (OQ.af (cs:=DA.l.map aj) eG cg rfl .here rfl Row.all) rfl (JL.nil (kk default nofun)))
            · (intro x EF MF Q kk;exact JL.q (OQ.af (cs:=CB.l.map aj) eG cg rfl .here rfl Row.all) rfl (JL.nil (kk default nofun)))
            · (intro x EF MF Q kk;exact JL.q (OQ.au (vs:=[.agg (DA.l.map aj).toArray,.agg (CB.l.map aj).toArray]) fP rfl fun w' _=>c_S w') rfl (JL.nil (kk default nofun)))
            · (intro x EF MF Q kk;exact JL.alloc mP rfl fun b _=>JL.nil (kk b nofun))
            · (intro x EF MF Q kk;exact JL.alloc mP rfl fun b _=>JL.nil (kk b nofun))
            · (intro x EF MF Q kk;exact JL.ag (cs:=M.l.map aj) cg rfl rfl rfl (bn _) .here rfl (JL.nil (kk (x 6) (fun k h=>by cases h;rfl))))
            · (intro x EF MF Q kk;exact JL.ag (cs:=S.l.map aj) cg rfl rfl rfl (bn _) .here rfl (JL.nil (kk (x 7) (fun k h=>by cases h;rfl))))
          · intro x hx
            have h8:=hx 8 6 (by decide) rfl
            have h9:=hx 9 7 (by decide) rfl
            show JE _ _ _ _ _ [(14,Pt (x 6) 0),(15,Pt (x 7) 0),(13,Pt b13 0),(11,Pt b11 0),(12,Pt b12 0),(9,Pt b9 0),(10,Pt b10 0),(7,Pt b7 0),(8,Pt b8 0),(5,Pt b5 0),(6,Pt b6 0),(2,Pt b2 0),(3,Pt b3 0),(4,Pt b4 0)] [⟨(x 8),Row 118 (M.l.map aj),true⟩,⟨(x 9),Row 118 (S.l.map aj),true⟩,⟨b13,Row 118 (E.l.map aj),true⟩,⟨b11,Row 118 (DA.l.map aj),true⟩,⟨b12,Row 118 (CB.l.map aj),true⟩,⟨b9,Row 118 (AA.l.map aj),true⟩,⟨b10,Row 118 (BB.l.map aj),true⟩,⟨b7,Row 118 (C.l.map aj),true⟩,⟨b8,Row 118 (D.l.map aj),true⟩,⟨b5,Row 118 (A.l.map aj),true⟩,⟨b6,Row 118 (B.l.map aj),true⟩,⟨b4,Row 121 (lW.l.map aj),true⟩,⟨b3,Row 118 (x1.l.map aj),true⟩,⟨b2,Row 121 ((X2.l++Z2.l++X3.l++Z3.l).map aj),true⟩]
            rw [h8,h9]
            generalize x 6=b14
            generalize x 7=b15
            clear hx h8 h9 x vs Ms
            repeat (first | refine JC.seq ?_ | refine JE.next ?_)
            refine JC.tail 19 eP (by kernel_rfl) ?_
            simp only [List.take_succ_cons,List.take_zero,List.drop_succ_cons,List.drop_zero]
            repeat (refine JQ.q (by first|(apply OQ.af (cs:=AA.l.map aj);exact eG;exact cg;rfl;exact (by repeat (first | exact Has.here | apply Has.there));rfl;exact Row.all)|(apply OQ.af (cs:=BB.l.map aj);exact eG;exact cg;rfl;exact (by repeat (first | exact Has.here | apply Has.there));rfl;exact Row.all)|(apply OQ.af (cs:=E.l.map aj);exact eG;exact cg;rfl;exact (by repeat (first | exact Has.here | apply Has.there));rfl;exact Row.all)|(apply OQ.au (vs:=[.agg (AA.l.map aj).toArray,.agg (BB.l.map aj).toArray]);exact aO;rfl;exact (fun w' _=>c_R1 w'))) rfl ?_)
            refine JQ.q (OQ.pure (v:=.agg (cN.l.map aj).toArray) rfl rfl (by kernel_rfl)) rfl ?_
            repeat (refine JQ.q (by first|(apply OQ.af (cs:=E.l.map aj);exact eG;exact cg;rfl;exact (by repeat (first | exact Has.here | apply Has.there));rfl;exact Row.all)|(apply OQ.af (cs:=M.l.map aj);exact eG;exact cg;rfl;exact (by repeat (first | exact Has.here | apply Has.there));rfl;exact Row.all)|(apply OQ.af (cs:=S.l.map aj);exact eG;exact cg;rfl;exact (by repeat (first | exact Has.here | apply Has.there));rfl;exact Row.all)|(apply OQ.af (cs:=x1.l.map aj);exact eG;exact cg;rfl;exact (by repeat (first | exact Has.here | apply Has.there));rfl;exact Row.all)|(apply OQ.au (vs:=[.agg (cN.l.map aj).toArray,.agg (E.l.map aj).toArray]);exact aO;rfl;exact (fun w' _=>c_F w'))|(apply OQ.au (vs:=[.agg (AA.l.map aj).toArray,.agg (F.l.map aj).toArray]);exact oO;rfl;exact (fun w' _=>c_G w'))|(apply OQ.au (vs:=[.agg (E.l.map aj).toArray,.agg (G.l.map aj).toArray]);exact aO;rfl;exact (fun w' _=>c_R2 w'))|(apply OQ.au (vs:=[.agg (M.l.map aj).toArray,.agg (M.l.map aj).toArray]);exact aO;rfl;exact (fun w' _=>c_R3 w'))|(apply OQ.au (vs:=[.agg (S.l.map aj).toArray,.agg (S.l.map aj).toArray]);exact aO;rfl;exact (fun w' _=>c_SS w'))|(apply OQ.au (vs:=[.agg (x1.l.map aj).toArray,.agg (SS.l.map aj).toArray]);exact aO;rfl;exact (fun w' _=>c_R4 w'))) rfl ?_)
            refine JQ.q (OQ.pure (v:=.agg ((R1.l++R2.l++R3.l++R4.l).map aj).toArray) rfl rfl (by kernel_rfl)) rfl ?_
            repeat (refine JQ.bC ?_)
            refine JL.ag (cs:=(R1.l++R2.l++R3.l++R4.l).map aj) xZ rfl rfl rfl (bn _) (by repeat (first | exact e9.here | apply e9.there)) rfl ?_
            repeat (first | refine JL.nil ?_ | refine JE.next ?_)
            refine JC.ret (JE.aR rfl (RV.av G5 xZ rfl (by repeat (first | exact Has.here | apply Has.there)) rfl Row.all) ?_)
            exact fun w' hw=>⟨rfl,hw.aM⟩
end
section
namespace dW
def oR (x : By) : List By:=x::List.replicate 31 0
end dW
end
section
set_option maxRecDepth 10000
open Sl dW
theorem x6 : aL Tryz.prog 74:=⟨_,Tryz.func74,rfl,by kernel_rfl⟩
theorem kK : aL Tryz.prog 54:=⟨_,Tryz.func54,rfl,by kernel_rfl⟩
theorem oS : aL Tryz.prog 33:=⟨_,Tryz.func33,rfl,by kernel_rfl⟩
theorem mQ (k u : List By) : (aH k u).length=32:=iS _
section
variable {P : Program} {n : Nat} {E : Env} {C : World→Prop} {dst : Option Tmp} {ty t t' : TypeId} {pos : String} {aft : Array Edge} {g : Option (Nat × Bool)} {x y : Operand}
theorem OQ.Lv {a b r : BitVec 8} (hx : ev E x=some (U8 a)) (hy : ev E y=some (U8 b)) (h : a &&& b=r) : OQ P n E C ⟨dst,.binOp .and t x y t',ty,pos,aft,g⟩ (U8 r):=h ▸ OQ.FZ hx hy
end
theorem JS : ∀ x : By,x &&& 248#8=x / 8 * 8:=by decide +kernel
theorem G6 : ∀ x : By,x &&& 127#8 ||| 64#8=x % 64+64:=by decide +kernel
set_option maxHeartbeats 8000000 in
theorem z9 (k : List By) (hk : k.length=32) (w : World) : Calls Tryz.prog 74 [.agg (k.map U8).toArray].toArray w fun e w'=>e=.returned (.agg ((bJ k).map U8).toArray)∧Ext w w':=by
  have hc0:=kD (l:=k) (i:=0) (by omega)
  have hc31:=kD (l:=k.set 0 (k.getD 0 0 / 8 * 8)) (i:=31) (by rw [List.length_set];omega)
  have hlK : ((bJ k).map U8).length=32:=by rw [List.length_map,kF];exact hk
  refine enter (n:=16) Tryz.func74 rfl rfl rfl (ah.start w []) ?_
  repeat (first | refine JC.seq ?_ | refine JC.region ?_)
  refine JL.box (r:=k.map U8) rfl rfl rfl fun b1 _=>?_
  refine JL.alloc hU rfl fun b2 _=>?_
  repeat (first | refine JL.q (by first|(apply OQ.aD;exact Tryz.underlying23;exact wB;rfl;rfl;exact (by decide))|(apply OQ.load;exact GL;rfl;exact (.there .here);exact (Row.cell hc0))|(apply OQ.FZ (b:=248#8);rfl;rfl)|(apply OQ.assign;rfl)) rfl ?_ | refine JC.seq ?_ | refine JC.region ?_ | refine JL.nil ?_ | refine JE.next ?_)
  refine JL.az (r':=(k.set 0 (k.getD 0 0 / 8 * 8)).map U8) wB rfl rfl rfl rfl (.there .here) (by rw [List.length_map,hk];decide) (by rw [JS];exact sj _ _ _) ?_
  repeat (first | refine JL.q (by first|(apply OQ.aD;exact Tryz.underlying23;exact wB;rfl;rfl;exact (by decide))|(apply OQ.load;exact GL;rfl;exact (.there .here);exact (Row.cell hc31))|(apply OQ.FZ (b:=127#8);rfl;rfl)|(apply OQ.Nt (b:=64#8);rfl;rfl)|(apply OQ.move;rfl)) rfl ?_ | refine JC.seq ?_ | refine JC.region ?_ | refine JL.nil ?_ | refine JE.next ?_)
  refine JL.az (r':=(bJ k).map U8) wB rfl rfl rfl rfl (.there .here) (by rw [List.length_map,List.length_set,hk];decide) (by rw [G6];exact sj _ _ _) ?_
  generalize bJ k=K at hlK ⊢
  repeat (first | refine JL.q (by (apply OQ.af (cs:=K.map U8);exact aQ;exact aB;rfl;exact (.there .here);exact hlK;exact Row.all)) rfl ?_ | refine JC.seq ?_ | refine JC.region ?_ | refine JL.nil ?_ | refine JE.next ?_)
  refine JL.ag (cs:=K.map U8) aB rfl rfl hlK (aU _) .here (by simp) ?_
  repeat (first | refine JL.nil ?_ | refine JE.next ?_)
  refine JC.ret (JE.aR rfl (RV.av aQ aB rfl .here hlK Row.all) ?_)
  exact fun w' hw=>⟨rfl,hw.aM⟩
set_option maxHeartbeats 32000000 in
set_option maxRecDepth 4000 in
theorem mR (k u : List By) (hk : k.length=32) (hu : u.length=32) (w : World) : Calls Tryz.prog 54 [.agg (k.map U8).toArray,.agg (u.map U8).toArray].toArray w fun e w'=>e=.returned (.agg ((aH k u).map U8).toArray)∧Ext w w':=by
  have cC:=z9 k hk
  have cN:=vT u hu
  have eM:=G0 k u hu
  have lM:=mQ k u
  unfold JF at eM
  have hK : (bJ k).length=32:=by rw [kF];exact hk
  have hlk : (k.map U8).length=32:=by rw [List.length_map];exact hk
  have hlu : (u.map U8).length=32:=by rw [List.length_map];exact hu
  have hlK : ((bJ k).map U8).length=32:=by rw [List.length_map];exact hK
  generalize bJ k=K at cC eM hK hlK
  generalize cv u=x1 at cN eM
  generalize aH k u=R at eM lM ⊢
  refine enter (n:=47) Tryz.func54 rfl rfl rfl (ah.start w []) ?_
  repeat (first | refine JC.seq ?_ | refine JC.region ?_)
  refine JL.box (r:=k.map U8) rfl rfl rfl fun b2 _=>?_
  refine JL.box (r:=u.map U8) rfl rfl rfl fun b3 _=>?_
  refine JL.alloc hU rfl fun b4 _=>?_
  repeat (first | refine JC.seq ?_ | refine JL.nil ?_ | refine JE.next ?_)
  let vs : Nat→Nat→Value:=fun j x=>match j with
    | 0=>.agg (k.map U8).toArray
    | 1=>.agg (K.map U8).toArray
    | 2=>.agg (u.map U8).toArray
    | 3=>.agg (x1.l.map aj).toArray
    | _=>Pt x 0
  let Ms : Nat→Nat→List aG:=fun j x=>match j with
    | 4=>[⟨x,Row 23 ((List.replicate 32 (0 : By)).map U8),true⟩]
    | 5=>[⟨x,Row 118 (bG.l.map aj),true⟩]
    | 6=>[⟨x,Row 23 (K.map U8),true⟩]
    | 7=>[⟨x,Row 118 (x1.l.map aj),true⟩]
    | 8=>[⟨b4,Row 23 ((List.replicate 32 (0 : By)).map U8),true⟩]
    | 9=>[⟨b3,Row 23 (u.map U8),true⟩]
    | 10=>[⟨b2,Row 23 (k.map U8),true⟩]
    | _=>[]
  refine JC.grow (g:=⟨[(2,Pt b2 0),(3,Pt b3 0),(4,Pt b4 0)],11,vs,Ms,(fun j=>match j with | 1=>[(0,11)] | 3=>[(2,13)] | 6=>[(4,5),(1,12)] | 7=>[(5,6),(3,14)] | _=>[]),(fun j=>match j with | 0=>[10] | 2=>[9] | 6=>[4] | 7=>[5] | _=>[]),(fun j=>match j with | 6=>[4] | 7=>[5] | _=>[]),(fun j=>match j with | 6=>some 4 | 7=>some 5 | _=>none)⟩) [(4,5),(5,6)] [6,7,8,9,10] eP (by repeat (first | exact ai.nil | refine ai.cons _ _ _ rfl ?_)) (an.refl _) (by kernel_rfl) (by kernel_rfl) (by kernel_rfl) ?_ ?_
  · refine ⟨?_,?_,?_,?_,?_,?_,?_,?_,trivial⟩
    · (intro x EF MF Q kk;exact JL.q (OQ.af (cs:=k.map U8) aQ aB rfl .here hlk Row.all) rfl (JL.nil (kk default nofun)))
    · (intro x EF MF Q kk;exact JL.q (OQ.au (vs:=[.agg (k.map U8).toArray]) x6 rfl fun w' _=>cC w') rfl (JL.nil (kk default nofun)))
    · (intro x EF MF Q kk;exact JL.q (OQ.af (cs:=u.map U8) aQ aB rfl .here hlu Row.all) rfl (JL.nil (kk default nofun)))
    · (intro x EF MF Q kk;exact JL.q (OQ.au (vs:=[.agg (u.map U8).toArray]) tD rfl fun w' _=>cN w') rfl (JL.nil (kk default nofun)))
    · (intro x EF MF Q kk;exact JL.alloc hU rfl fun b _=>JL.nil (kk b nofun))
    · (intro x EF MF Q kk;exact JL.alloc mP rfl fun b _=>JL.nil (kk b nofun))
    · (intro x EF MF Q kk;exact JL.ag (cs:=K.map U8) aB rfl rfl hlK (aU _) .here rfl (JL.nil (kk (x 4) (fun k h=>by cases h;rfl))))
    · (intro x EF MF Q kk;exact JL.ag (cs:=x1.l.map aj) cg rfl rfl rfl (bn _) .here rfl (JL.nil (kk (x 5) (fun k h=>by cases h;rfl))))
  · intro x hx
    have h6:=hx 6 4 (by decide) rfl
    have h7:=hx 7 5 (by decide) rfl
    show JE _ _ _ _ _ [(5,Pt (x 4) 0),(6,Pt (x 5) 0),(2,Pt b2 0),(3,Pt b3 0),(4,Pt b4 0)] [⟨(x 6),Row 23 (K.map U8),true⟩,⟨(x 7),Row 118 (x1.l.map aj),true⟩,⟨b4,Row 23 ((List.replicate 32 (0 : By)).map U8),true⟩,⟨b3,Row 23 (u.map U8),true⟩,⟨b2,Row 23 (k.map U8),true⟩]
    rw [h6,h7]
    generalize x 4=b5
    generalize x 5=b6
    clear hx h6 h7 x vs Ms
    repeat (first | refine JC.seq ?_ | refine JC.region ?_ | refine JE.next ?_)
    refine JL.q (OQ.pure (v:=.agg (xP.l.map aj).toArray) rfl rfl (by kernel_rfl)) rfl ?_
    repeat (refine JL.q (by (apply OQ.af (cs:=x1.l.map aj);exact eG;exact cg;rfl;exact (by repeat (first | exact Has.here | apply Has.there));rfl;exact Row.all)) rfl ?_)
    refine JL.q (OQ.pure (v:=.agg (xP.l.map aj).toArray) rfl rfl (by kernel_rfl)) rfl ?_
    refine JL.q (OQ.pure (v:=.agg ((jy x1 (le K) 0).l.map aj).toArray) rfl rfl (by kernel_rfl)) rfl ?_
    refine JL.alloc JR rfl fun b7 _=>?_
    refine JL.ag (cs:=(jy x1 (le K) 0).l.map aj) xZ rfl rfl rfl (bn _) .here rfl ?_
    repeat (first | refine JL.q (by (apply OQ.move;rfl)) rfl ?_ | refine JC.seq ?_ | refine JC.region ?_ | refine JC.block ?_ | refine JL.nil ?_ | refine JE.next ?_)
    refine JC.loop (fun n : Nat=>[(4,Pt b4 0),(5,Pt b5 0),(6,Pt b6 0),(7,Pt b7 0),(19,N n)])
      (fun n=>[⟨b7,Row 121 ((jy x1 (le K) n).l.map aj),true⟩,⟨b5,Row 23 (K.map U8),true⟩,⟨b6,Row 118 (x1.l.map aj),true⟩,⟨b4,Row 23 ((List.replicate 32 (0 : By)).map U8),true⟩])
      (fun n=>255 - n) (fun n=>n≤255) 0 (by omega) (by repeat (first | exact ai.nil | refine ai.cons _ _ _ rfl ?_)) (.keep _ _ _ _ _ _ (fun _ h=>h) (.keep _ _ _ _ _ _ (fun _ h=>h) (.keep _ _ _ _ _ _ (fun _ h=>h) (.keep _ _ _ _ _ _ (fun _ h=>h) (.nil _))))) ?_
    intro n hn
    repeat (first | refine JL.q (by (apply OQ.bN;rfl;rfl)) rfl ?_ | refine JC.seq ?_ | refine JC.region ?_ | refine JL.nil ?_ | refine JE.next ?_)
    refine JC.cond rfl (fun h=>?_) (fun h=>?_)
    · have hn' : n<255:=of_decide_eq_true h
      clear h hn eM
      have eN : jy x1 (le K) (n+1)=EZ ((le K).testBit (254 - n)) (vS x1 (EZ ((le K).testBit (254 - n)) (jy x1 (le K) n))):=rfl
      have hcb:=kD (l:=K) (i:=(254 - n) / 8) (by omega)
      have hbit : (K.getD ((254 - n) / 8) 0 >>> ((254 - n) % 8)) &&& 1#8=bt ((le K).testBit (254 - n)):=by rw [Lu _ _ (by omega),zT]
      have b32 : (254 - n) / 8<32:=by omega
      generalize (le K).testBit (254 - n)=c at eN hbit
      generalize jy x1 (le K) n=s at eN ⊢
      have c1:=nD c s
      generalize EZ c s=s1 at eN c1
      have c2:=x5 x1 s1
      generalize vS x1 s1=s2 at eN c2
      have c3:=nD c s2
      rw [← eN] at c3
      have e3 : jy x1 (le K) (n+1)=jy x1 (le K) (n+1):=rfl
      generalize hs3 : jy x1 (le K) (n+1)=s3 at c3
      clear eN e3
      repeat (first | refine JL.q (by first|(apply OQ.aD;exact Tryz.underlying23;exact wB;rfl;rfl;exact b32)|(apply OQ.load;exact GL;rfl;exact (.there .here);exact (Row.cell hcb))|(apply OQ.KG;rfl;rfl)|(apply OQ.Lv (b:=1#8) (r:=bt c);rfl;rfl;exact hbit)|(apply OQ.move;rfl)|(apply OQ.assign;rfl)|(apply OQ.jq;rfl;rfl;exact (by (try simp only []);omega);exact (by (try simp only []);omega))|(apply OQ.yI;rfl;rfl;exact (by (try simp only []);omega))|(apply OQ.Dl;rfl;rfl;exact (by (try simp only []);omega);exact (by (try simp only []);omega))) rfl ?_ | refine JC.seq ?_ | refine JC.region ?_ | refine JC.block ?_ | refine JC.skip ?_ | refine JL.nil ?_ | refine JE.next ?_)
      refine JC.tail 7 eP (by kernel_rfl) ?_
      simp only [List.take_succ_cons,List.take_zero,List.drop_succ_cons,List.drop_zero]
      repeat (first | refine JQ.q (by first|(apply OQ.af (cs:=s.l.map aj);exact G5;exact xZ;rfl;exact .here;rfl;exact Row.all)|(apply OQ.af (cs:=x1.l.map aj);exact eG;exact cg;rfl;exact (by repeat (first | exact Has.here | apply Has.there));rfl;exact Row.all)|(apply OQ.au (vs:=[.agg (s.l.map aj).toArray,U8 (bt c)]);exact lV;rfl;exact (fun w' _=>c1 w'))|(apply OQ.au (vs:=[.agg (s1.l.map aj).toArray,.agg (x1.l.map aj).toArray]);exact vX;rfl;exact (fun w' _=>c2 w'))|(apply OQ.au (vs:=[.agg (s2.l.map aj).toArray,U8 (bt c)]);exact lV;rfl;exact (fun w' _=>c3 w'))|(apply OQ.move;rfl)) rfl ?_ | refine JQ.bC ?_)
      refine JL.ag (cs:=s3.l.map aj) xZ rfl rfl rfl (bn _) .here rfl ?_
      rw [← hs3]
      repeat (first | refine JL.q (by first|(apply OQ.move;rfl)|(apply OQ.aY;rfl;rfl;exact (by (try simp only []);omega))) rfl ?_ | refine JC.region ?_ | refine JL.nil ?_ | refine JE.next ?_ | refine JE.aq ?_)
      exact JE.again (i:=n) (n+1) (by omega) (by omega) (by repeat (first | exact ai.nil | refine ai.cons _ _ _ rfl ?_)) (an.refl _)
    · have hn' : ¬ n<255:=of_decide_eq_false h
      obtain rfl : n=255:=by omega
      clear h hn hn'
      generalize jy x1 (le K) 255=s at eM ⊢
      obtain ⟨x2,z2,x3,z3⟩:=s
      have c1:=xY z2
      have c2:=aT x2 (sx z2)
      have c3:=Fa (cO x2 (sx z2))
      have eM' : Kn (cO x2 (sx z2))=R:=eM
      rw [eM'] at c3
      clear eM eM'
      generalize cO x2 (sx z2)=q at c2 c3
      generalize sx z2=v at c1 c2
      have hR : (R.map U8).length=32:=by rw [List.length_map];exact lM
      repeat (first | refine JC.seq ?_ | refine JC.exit ?_ | refine JE.next ?_ | refine JE.ax ?_ | refine JE.aA ?_)
      refine JC.tail 7 eP (by kernel_rfl) ?_
      simp only [List.take_succ_cons,List.take_zero,List.drop_succ_cons,List.drop_zero]
      repeat (first | refine JQ.q (by first|(apply OQ.af (cs:=x2.l.map aj);exact eG;exact cg;rfl;exact .here;rfl;exact (Row.cells rfl))|(apply OQ.af (cs:=z2.l.map aj);exact eG;exact cg;rfl;exact .here;rfl;exact (Row.cells rfl))|(apply OQ.au (vs:=[.agg (z2.l.map aj).toArray]);exact vW;rfl;exact (fun w' _=>c1 w'))|(apply OQ.au (vs:=[.agg (x2.l.map aj).toArray,.agg (v.l.map aj).toArray]);exact aO;rfl;exact (fun w' _=>c2 w'))|(apply OQ.au (vs:=[.agg (q.l.map aj).toArray]);exact CC;rfl;exact (fun w' _=>c3 w'))|(apply OQ.bM;rfl;rfl;rfl;exact (by decide);rfl)) rfl ?_ | refine JQ.bC ?_)
      refine JL.ag (cs:=R.map U8) aB rfl rfl hR (aU _) (by repeat (first | exact e9.here | apply e9.there)) (by simp) ?_
      repeat (first | refine JL.nil ?_ | refine JE.next ?_)
      refine JC.ret (JE.aR rfl (RV.av aQ aB rfl (by repeat (first | exact Has.here | apply Has.there)) hR Row.all) ?_)
      exact fun w' hw=>⟨rfl,hw.aM⟩
set_option maxHeartbeats 8000000 in
theorem qp (k : List By) (hk : k.length=32) (w : World) : Calls Tryz.prog 33 [.agg (k.map U8).toArray].toArray w fun e w'=>e=.returned (.agg ((aH k (oR 9)).map U8).toArray)∧Ext w w':=by
  have c:=mR k (oR 9) hk rfl
  have hlk : (k.map U8).length=32:=by rw [List.length_map];exact hk
  have hly : ((aH k (oR 9)).map U8).length=32:=by rw [List.length_map];exact mQ _ _
  generalize aH k (oR 9)=Y at c hly ⊢
  refine enter (n:=6) Tryz.func33 rfl rfl rfl (ah.start w []) ?_
  repeat (first | refine JC.seq ?_ | refine JC.region ?_)
  refine JL.box (r:=k.map U8) rfl rfl rfl fun b1 _=>?_
  refine JL.alloc hU rfl fun b2 _=>?_
  repeat (first | refine JL.q (by (apply OQ.af (cs:=k.map U8);exact aQ;exact aB;rfl;exact (.there .here);exact hlk;exact Row.all)) rfl ?_ | refine JC.seq ?_ | refine JC.region ?_ | refine JL.nil ?_ | refine JE.next ?_)
  refine JL.q (OQ.pure (v:=.agg ((oR 9).map U8).toArray) rfl rfl (by kernel_rfl)) rfl ?_
  repeat (refine JL.q (by (apply OQ.au (vs:=[.agg (k.map U8).toArray,.agg ((oR 9).map U8).toArray]);exact kK;rfl;exact (fun w' _=>c w'))) rfl ?_)
  refine JL.ag (cs:=Y.map U8) aB rfl rfl hly (aU _) .here (by simp) ?_
  repeat (first | refine JL.nil ?_ | refine JE.next ?_)
  refine JC.ret (JE.aR rfl (RV.av aQ aB rfl .here hly Row.all) ?_)
  exact fun w' hw=>⟨rfl,hw.aM⟩
end
section
set_option maxRecDepth 10000
open Sl dW
section
variable {P : Program} {n : Nat} {E : Env} {C : World→Prop} {dst : Option Tmp} {ty t t' : TypeId} {pos : String} {aft : Array Edge} {g : Option (Nat × Bool)} {x y : Operand} {v u : Value} {cs : List Value}
theorem OQ.JT (hx : ev E x=some v) (hy : ev E y=some u) (h : P.built t [(0,v),(1,u)]=some cs.toArray) : OQ P n E C ⟨dst,.build t #[(0,x),(1,y)],ty,pos,aft,g⟩ (.agg cs.toArray):=
  OQ.run fun a ha w _=>by
    have h1:=ha.eval hx
    have h2:=ha.eval hy
    have r:=run_build w t #[(0,v),(1,u)] cs.toArray (by simpa using h)
    simp [execOp,h1,h2,r]
end
theorem Lw (place : Nat→Option (Nat × Nat)) (h0 : place 0=some (0,32)) (h1 : place 1=some (32,32)) (a b : List By) (ha : a.length=32) (hb : b.length=32) :
    Instr.fill place (((List.replicate 64 (0 : By)).map U8).toArray) [(0,.agg (a.map U8).toArray),(1,.agg (b.map U8).toArray)]=some ((a++b).map U8).toArray:=by
  have e : Instr.fill place (((List.replicate 64 (0 : By)).map U8).toArray) [(0,.agg (a.map U8).toArray),(1,.agg (b.map U8).toArray)] =
      Instr.fill (fun i=>some (i * 32,32)) (((List.replicate 64 (0 : By)).map U8).toArray) [(0,.agg (a.map U8).toArray),(1,.agg (b.map U8).toArray)]:=by
    simp [Instr.fill,h0,h1]
  rw [e]
  obtain ⟨r,h6,h7,h8⟩:=Great.fill_dense (s:=32) (by decide) [.agg (a.map U8).toArray,.agg (b.map U8).toArray] 0 (((List.replicate 64 (0 : By)).map U8).toArray) (by simp [Value.cells,ha,hb]) (by simp)
  simp only [List.zipIdx_cons,List.zipIdx_nil,List.map_cons,List.map_nil] at h6
  have hr : r=((a++b).map U8).toArray:=by
    apply Array.ext_getElem?
    intro k
    rw [h8 k]
    by_cases hk : k<32
    · rw [if_pos (by simp;omega)]
      simp [Nat.div_eq_of_lt hk,Nat.mod_eq_of_lt hk,Value.cells,List.getElem?_append,ha,hk]
    · by_cases hk2 : k<64
      · rw [if_pos (by simp;omega)]
        have d : k / 32=1:=by omega
        have m : k % 32=k - 32:=by omega
        simp [d,m,Value.cells,List.getElem?_append,ha,hk]
      · rw [if_neg (by simp;omega),Array.getElem?_eq_none (by simp;omega),Array.getElem?_eq_none (by simp;omega)]
  rw [← hr]
  exact h6
theorem x7 : dP Tryz.prog 46=some 64:=by kernel_rfl
theorem Fb : gy Tryz.prog 46=true:=by kernel_rfl
theorem JU : zc Tryz.prog 46=some ((List.replicate 64 (0 : By)).map U8):=by kernel_rfl
theorem Aa (a b : List By) (ha : a.length=32) (hb : b.length=32) : Tryz.prog.built 46 [(0,.agg (a.map U8).toArray),(1,.agg (b.map U8).toArray)]=some ((a++b).map U8).toArray:=by
  have h : Tryz.prog.built 46 [(0,.agg (a.map U8).toArray),(1,.agg (b.map U8).toArray)]=Instr.fill (fun i=>#[(0,32),(32,32)][i]?) (((List.replicate 64 (0 : By)).map U8).toArray) [(0,.agg (a.map U8).toArray),(1,.agg (b.map U8).toArray)]:=by kernel_rfl
  rw [h]
  exact Lw _ rfl rfl a b ha hb
theorem pS : aL Tryz.prog 15:=⟨_,Tryz.func15,rfl,by kernel_rfl⟩
theorem vY : aL Tryz.prog 35:=⟨_,Tryz.func35,rfl,by kernel_rfl⟩
set_option maxHeartbeats 8000000 in
theorem sB (k : List By) (hk : k.length=32) (w : World) : Calls Tryz.prog 15 [.agg (k.map U8).toArray].toArray w fun e w'=>e=.returned (.agg ((k++aH k (oR 9)).map U8).toArray)∧Ext w w':=by
  have c:=qp k hk
  have hY:=mQ k (oR 9)
  generalize aH k (oR 9)=Y at c hY ⊢
  have hlk : (k.map U8).length=32:=by rw [List.length_map];exact hk
  have hlp : ((k++Y).map U8).length=64:=by rw [List.length_map,List.length_append,hk,hY]
  have bt:=Aa k Y hk hY
  refine enter (n:=7) Tryz.func15 rfl rfl rfl (ah.start w []) ?_
  repeat (first | refine JC.seq ?_ | refine JC.region ?_)
  refine JL.box (r:=k.map U8) rfl rfl rfl fun b1 _=>?_
  refine JL.alloc JU rfl fun b2 _=>?_
  repeat (first | refine JC.seq ?_ | refine JL.nil ?_ | refine JE.next ?_)
  refine JC.tail 4 eP (by kernel_rfl) ?_
  simp only [List.take_succ_cons,List.take_zero,List.drop_succ_cons,List.drop_zero]
  repeat (first | refine JQ.q (by first|(apply OQ.af (cs:=k.map U8);exact aQ;exact aB;rfl;exact (by repeat (first | exact Has.here | apply Has.there));exact hlk;exact Row.all)|(apply OQ.au (vs:=[.agg (k.map U8).toArray]);exact oS;rfl;exact (fun w' _=>c w'))|(apply OQ.JT;rfl;rfl;exact bt)) rfl ?_ | refine JQ.bC ?_)
  refine JL.ag (cs:=(k++Y).map U8) x7 rfl rfl hlp (aU _) .here (by simp) ?_
  repeat (first | refine JL.nil ?_ | refine JE.next ?_)
  refine JC.ret (JE.aR rfl (RV.av Fb x7 rfl .here hlp Row.all) ?_)
  exact fun w' hw=>⟨rfl,hw.aM⟩
theorem Fc {a b : List By} (_ha : a.length=32) : (((a++b).map U8).drop 0).take (a.map U8).length=a.map U8:=by
  simp [List.map_append]
theorem Ir {a b : List By} (ha : a.length=32) : (((a++b).map U8).drop 32).take (b.map U8).length=b.map U8:=by
  rw [List.map_append,List.drop_left' (by rw [List.length_map];exact ha),List.take_of_length_le (Nat.le_refl _)]
set_option maxHeartbeats 8000000 in
theorem x8 (a Y u : List By) (ha : a.length=32) (hY : Y.length=32) (hu : u.length=32) (w : World) : Calls Tryz.prog 35 [.agg ((a++Y).map U8).toArray,.agg (u.map U8).toArray].toArray w
    fun e w'=>e=.returned (.agg ((aH a u).map U8).toArray)∧Ext w w':=by
  have c:=mR a u ha hu
  have hla : (a.map U8).length=32:=by rw [List.length_map];exact ha
  have hlu : (u.map U8).length=32:=by rw [List.length_map];exact hu
  have hR : ((aH a u).map U8).length=32:=by rw [List.length_map];exact mQ _ _
  have h0:=Fc (b:=Y) ha
  generalize aH a u=R at c hR ⊢
  refine enter (n:=9) Tryz.func35 rfl rfl rfl (ah.start w []) ?_
  repeat (first | refine JC.seq ?_ | refine JC.region ?_)
  refine JL.box (r:=(a++Y).map U8) rfl rfl rfl fun b2 _=>?_
  refine JL.box (r:=u.map U8) rfl rfl rfl fun b3 _=>?_
  refine JL.alloc hU rfl fun b4 _=>?_
  repeat (first | refine JL.q (by first|(apply OQ.af (cs:=a.map U8);exact aQ;exact aB;rfl;exact (by repeat (first | exact Has.here | apply Has.there));exact hla;exact (Row.cells h0))|(apply OQ.af (cs:=u.map U8);exact aQ;exact aB;rfl;exact (by repeat (first | exact Has.here | apply Has.there));exact hlu;exact Row.all)|(apply OQ.au (vs:=[.agg (a.map U8).toArray,.agg (u.map U8).toArray]);exact kK;rfl;exact (fun w' _=>c w'))|(apply OQ.bM;rfl;rfl;rfl;exact (by decide);rfl)) rfl ?_ | refine JC.seq ?_ | refine JC.region ?_ | refine JL.nil ?_ | refine JE.next ?_)
  refine JL.ag (cs:=R.map U8) aB rfl rfl hR (aU _) .here (by simp) ?_
  repeat (first | refine JL.nil ?_ | refine JE.next ?_)
  refine JC.ret (JE.aR rfl (RV.av aQ aB rfl .here hR Row.all) ?_)
  exact fun w' hw=>⟨rfl,hw.aM⟩
end
section
open Sl ij mF dW
namespace ng
open qv iu
def Ab : ByteArray:=⟨#[114,97,116,99,104,101,116]⟩
def l7 (root sh : Bk) : Bk:=iX (bT root sh) (bytesOf Ab) (2 * 32)
def cr (root sh : Bk) : Bk:=(l7 root sh).take 32
def dO (root sh : Bk) : Bk:=(l7 root sh).drop 32
theorem mS (a b : Bk) : (l7 a b).length=64:=dz _ _ _
theorem fG (a b : Bk) : (cr a b).length=32:=by simp [cr,mS]
theorem eV (a b : Bk) : (dO a b).length=32:=by simp [dO,mS]
def m5 (c : Bk) : Bk:=bT c [2]
def jX (c : Bk) : Bk:=bT c [1]
def dU : Bk:=List.replicate 32 0
def x9 : Bk:=List.replicate 12 0
def fj (k : Bk) : Bk:=aH k (oR 9)
theorem ie (k : Bk) : (fj k).length=32:=iS _
theorem v7 (k u : Bk) : (aH k u).length=32:=iS _
def de (root own other : Bk) : bA:=⟨cr root (aH own other),own,other,true,false,dO root (aH own other),dU,0,0,0,[]⟩
def dI (root own : Bk) : bA:=⟨root,own,dU,false,false,dU,dU,0,0,0,[]⟩
theorem pT (root own other : Bk) (h2 : own.length=32) (h3 : other.length=32) : (de root own other).ok:=
  ⟨fG _ _,h2,h3,eV _ _,rfl,nofun⟩
theorem nZ (root own : Bk) (h1 : root.length=32) (h2 : own.length=32) : (dI root own).ok:=⟨h1,h2,rfl,rfl,rfl,nofun⟩
def sC (s : bA) : Hd:=⟨fj s.own,s.prev,s.sent⟩
def iw (key side p : Bk) : Bk:=jk (k1 key) (k2 key) x9 side p
def gL (key side z : Bk) : Bk × Nat:=gk (k1 key) (k2 key) x9 side z
def ya (s : bA) : bA:={ s with send:=m5 s.send,sent:=s.sent+1 }
def sD (s : bA) (side p : Bk) : Bk:=dH (sC s)++iw (jX s.send) (side++dH (sC s)) p
def jA (s : bA) (side p : Bk) : bA × Bk × Nat:=
  if s.bZ=false then (s,[],13) else if 2147483647≤s.sent then (s,[],12) else (ya s,sD s side p,0)
theorem sE (s : bA) : (sC s).chain.length=32:=ie _
theorem v8 {s : bA} (h : s.ok) : (ya s).ok:=⟨h.root,h.own,h.other,rfl,h.take,h.kept⟩
def Fe : Nat→Bk→Bk
  | 0,c=>c
  | k+1,c=>Fe k (m5 c)
def CE (o : Bk) : Nat→Nat→Bk→List Kp
  | 0,_,_=>[]
  | k+1,t,c=>⟨o,t,jX c⟩::CE o k (t+1) (m5 c)
theorem sF : ∀ (k : Nat) (c : Bk),Fe (k+1) c=m5 (Fe k c)
  | 0,_=>rfl
  | k+1,c=>sF k (m5 c)
theorem G7 {c : Bk} (h : c.length=32) : ∀ k : Nat,(Fe k c).length=32
  | 0=>h
  | k+1=>by rw [sF];rfl
theorem v9 (o : Bk) : ∀ (k t : Nat) (c : Bk),(CE o k t c).length=k
  | 0,_,_=>rfl
  | k+1,t,c=>by rw [CE,List.length_cons,v9 o k]
theorem yb (o : Bk) : ∀ (k t : Nat) (c : Bk),CE o (k+1) t c=CE o k t c++[⟨o,t+k,jX (Fe k c)⟩]
  | 0,t,c=>rfl
  | k+1,t,c=>by
    rw [CE,yb o k (t+1) (m5 c),CE,List.cons_append,show t+1+k=t+(k+1) by omega]
    rfl
theorem Ff {o : Bk} (ho : o.length=32) : ∀ (k t : Nat) (c : Bk),∀ x ∈ CE o k t c,x.ok
  | 0,_,_,x,h=>by cases h
  | k+1,t,c,x,h=>by
    rcases List.mem_cons.1 h with rfl | h
    · exact ⟨ho,rfl⟩
    · exact Ff ho k _ _ x h
def keep (l : List Kp) : List Kp:=(l.reverse.take 2000).reverse
theorem oT (l : List Kp) : keep l=l.drop (l.length - 2000):=by rw [keep,List.take_reverse,List.reverse_reverse]
theorem Fg {l : List Kp} {x : Kp} (h : x ∈ keep l) : x ∈ l:=by
  rw [oT] at h
  exact List.mem_of_mem_drop h
theorem G8 {l : List Kp} (h : l.length≤2000) : keep l=l:=by
  rw [oT,show l.length - 2000=0 by omega]
  rfl
theorem Fh (l : List Kp) : (keep l).length≤2000:=by rw [oT,List.length_drop];omega
def trim (s : bA) : bA:={ s with kept:=keep s.kept }
theorem pU (s : bA) : (trim s).kept=keep s.kept:=rfl
theorem Bn {s : bA} (h : s.ok) : (trim s).ok:=by
  refine ⟨h.root,h.own,h.other,h.send,h.take,fun x hx=>?_⟩
  rw [pU] at hx
  exact h.kept x (Fg hx)
theorem Bo {s : bA} (h : s.kept.length≤2000) : trim s=s:=by cases s;rw [trim,G8 h]
def kZ (s : bA) (k : Nat) : bA:={ s with take:=Fe k s.take,taken:=s.taken+k,kept:=s.kept++CE s.other k s.taken s.take }
def leave (s : bA) (to : Nat) : Option bA:=
  if 1000<to - s.taken then none else some (trim (kZ s (to - s.taken)))
theorem l9 (s : bA) : kZ s 0=s:=by cases s;simp [kZ,Fe,CE]
theorem Ac {s : bA} (h : s.ok) (k : Nat) : (kZ s k).ok:=⟨h.root,h.own,h.other,h.send,G7 h.take k,fun x hx=>by
  rcases List.mem_append.1 hx with hx | hx
  · exact h.kept x hx
  · exact Ff h.other _ _ _ x hx⟩
theorem sG {s : bA} {to : Nat} (h : 1000<to - s.taken) : leave s to=none:=by rw [leave,if_pos h]
theorem kL {s : bA} {to : Nat} (h : ¬ 1000<to - s.taken) : leave s to=some (trim (kZ s (to - s.taken))):=by rw [leave,if_neg h]
theorem Fi {s : bA} {to : Nat} (h : to≤s.taken) (hk : s.kept.length≤2000) : leave s to=some s:=by
  rw [kL (by omega),show to - s.taken=0 by omega,l9,Bo hk]
theorem me {s n : bA} {to : Nat} (h : s.ok) (e : leave s to=some n) : n.ok∧n.kept.length≤2000∧n.taken=max s.taken to:=by
  rw [leave] at e
  split at e
  · cases e
  · cases e
    refine ⟨Bn (Ac h _),by rw [pU];exact Fh _,?_⟩
    show s.taken+(to - s.taken)=_
    omega
def ir (n : bA) (ch fresh : Bk) : bA:=
  ⟨cr (cr n.root (aH n.own ch)) (aH fresh ch),fresh,ch,true,true,dO (cr n.root (aH n.own ch)) (aH fresh ch),dO n.root (aH n.own ch),0,0,n.sent,n.kept⟩
theorem pV {n : bA} (h : n.ok) {ch fresh : Bk} (hc : ch.length=32) (hf : fresh.length=32) : (ir n ch fresh).ok:=
  ⟨fG _ _,hf,hc,eV _ _,eV _ _,h.kept⟩
def m6 (s : bA) (h : Hd) (fresh : Bk) : Option bA:=
  if s.takes=true then (leave s h.prev).map fun n=>ir n h.chain fresh else some (ir s h.chain fresh)
def sH (h : Hd) (k : Kp) : Bool:=decide (k.chain=h.chain) && decide (k.num=h.num)
def sI (h : Hd) (l : List Kp) : Option Nat:=l.findIdx? (sH h)
def jB (s : bA) (h : Hd) (fresh : Bk) : Option bA:=if h.chain=s.other∧s.takes=true then some s else m6 s h fresh
def ef (m : bA) : bA:={ m with take:=m5 m.take,taken:=m.taken+1 }
def jU (s : bA) (h : Hd) (fresh : Bk) : Nat ⊕ (bA × Bk):=
  match sI h s.kept with
  | some i=>.inr ({ s with kept:=s.kept.eraseIdx i },(s.kept.getD i mW).key)
  | none=>match jB s h fresh with
    | none=>.inl 12
    | some n=>if h.num<n.taken then .inl 11 else match leave n h.num with
      | none=>.inl 12
      | some m=>.inr (ef m,jX m.take)
def fH (s : bA) (side z fresh : Bk) : bA × Bk × Nat:=
  match dy z with
  | none=>(s,[],3)
  | some (h,rest)=>match jU s h fresh with
    | .inl c=>(s,[],c)
    | .inr (n,key)=>if (gL key (side++dH h) rest).2=0 then (n,(gL key (side++dH h) rest).1,0) else (s,[],(gL key (side++dH h) rest).2)
theorem qq {s : bA} (h : s.ok) (i : Nat) : ({ s with kept:=s.kept.eraseIdx i } : bA).ok:=⟨h.root,h.own,h.other,h.send,h.take,fun x hx=>h.kept x (List.mem_of_mem_eraseIdx hx)⟩
theorem oU {s : bA} (h : s.ok) : (ef s).ok:=⟨h.root,h.own,h.other,h.send,rfl,h.kept⟩
theorem we {s n : bA} {h : Hd} {fresh : Bk} (hs : s.ok) (hc : h.chain.length=32) (hf : fresh.length=32) (hk : s.kept.length≤2000) (e : m6 s h fresh=some n) : n.ok∧n.kept.length≤2000∧n.taken=0:=by
  rw [m6] at e
  split at e
  · obtain ⟨m,hm,rfl⟩:=Option.map_eq_some_iff.1 e
    have:=me hs hm
    exact ⟨pV this.1 hc hf,this.2.1,rfl⟩
  · cases e
    exact ⟨pV hs hc hf,hk,rfl⟩
theorem CF {key side z : Bk} (h : ¬ (gL key side z).2=0) : (gL key side z).1=[]:=by
  rw [gL,gk] at h ⊢
  split
  · rfl
  · split at h
    · omega
    · split
      · next h2=>rw [if_pos h2] at h;exact absurd rfl h
      · rfl
theorem oV {s : bA} {side z fresh : Bk} (hh : dy z=none) : fH s side z fresh=(s,[],3):=by rw [fH,hh]
theorem mT {s : bA} {side z fresh rest : Bk} {h : Hd} {c : Nat} (hh : dy z=some (h,rest)) (hm : jU s h fresh=.inl c) : fH s side z fresh=(s,[],c):=by
  rw [fH,hh]
  dsimp only
  rw [hm]
theorem mU {s n : bA} {side z fresh rest key : Bk} {h : Hd} (hh : dy z=some (h,rest)) (hm : jU s h fresh=.inr (n,key)) (ho : (gL key (side++dH h) rest).2=0) : fH s side z fresh=(n,(gL key (side++dH h) rest).1,0):=by
  rw [fH,hh]
  dsimp only
  rw [hm]
  dsimp only
  rw [if_pos ho]
theorem sJ {s n : bA} {side z fresh rest key : Bk} {h : Hd} (hh : dy z=some (h,rest)) (hm : jU s h fresh=.inr (n,key)) (ho : ¬ (gL key (side++dH h) rest).2=0) : fH s side z fresh=(s,[],(gL key (side++dH h) rest).2):=by
  rw [fH,hh]
  dsimp only
  rw [hm]
  dsimp only
  rw [if_neg ho]
theorem yc {s : bA} {h : Hd} {fresh : Bk} {i : Nat} (hx : sI h s.kept=some i) : jU s h fresh=.inr ({ s with kept:=s.kept.eraseIdx i },(s.kept.getD i mW).key):=by rw [jU,hx]
theorem sK {s : bA} {h : Hd} {fresh : Bk} (hx : sI h s.kept=none) (ho : jB s h fresh=none) : jU s h fresh=.inl 12:=by
  rw [jU,hx]
  dsimp only
  rw [ho]
theorem Bp {s n : bA} {h : Hd} {fresh : Bk} (hx : sI h s.kept=none) (ho : jB s h fresh=some n) (hn : h.num<n.taken) : jU s h fresh=.inl 11:=by
  rw [jU,hx]
  dsimp only
  rw [ho]
  dsimp only
  rw [if_pos hn]
theorem Bq {s n : bA} {h : Hd} {fresh : Bk} (hx : sI h s.kept=none) (ho : jB s h fresh=some n) (hn : ¬ h.num<n.taken) (hl : leave n h.num=none) : jU s h fresh=.inl 12:=by
  rw [jU,hx]
  dsimp only
  rw [ho]
  dsimp only
  rw [if_neg hn,hl]
theorem wg {s n m : bA} {h : Hd} {fresh : Bk} (hx : sI h s.kept=none) (ho : jB s h fresh=some n) (hn : ¬ h.num<n.taken) (hl : leave n h.num=some m) : jU s h fresh=.inr (ef m,jX m.take):=by
  rw [jU,hx]
  dsimp only
  rw [ho]
  dsimp only
  rw [if_neg hn,hl]
end ng
end
section
open Sl ij mF dW
namespace ng
open qv iu
def JV (a : bA) (i : Nat) : bA:={ a with send:=Fe i a.send,sent:=i }
theorem CG (root own other : Bk) : JV (de root own other) 0=de root own other:=rfl
theorem uE (key side p : Bk) : gL key side (iw key side p)=(p,0):=xB _ _ _ _ _
def Ad (root own other fresh : Bk) : bA:=ir (dI root other) (fj own) fresh
theorem pW (root own other fresh : Bk) : (Ad root own other fresh).taken=0:=rfl
theorem Fj (root own other fresh : Bk) (h1 : own.length=32) (h2 : other.length=32) : (Ad root own other fresh).take=(de root own (fj other)).send:=by
  show dO root (aH other (aH own (oR 9)))=dO root (aH own (aH other (oR 9)))
  rw [zS own other _ h1 h2]
theorem yd (root own other fresh : Bk) (num prev : Nat) : jB (dI root other) ⟨fj own,prev,num⟩ fresh=some (Ad root own other fresh):=by
  rw [jB,if_neg (by simp [dI]),m6,if_neg (by simp [dI])]
  rfl
theorem Fk (root own other side p : Bk) (i : Nat) (hi : i≤2147483647) : dy (sD (JV (de root own other) i) side p)=some (⟨fj own,0,i⟩,iw (jX (Fe i (de root own other).send)) (side++dH ⟨fj own,0,i⟩) p):=
  BO (h:=⟨fj own,0,i⟩) (ie _) (Nat.zero_le _) hi _
def M3 (root own other fresh : Bk) (i : Nat) : bA:=ef (trim (kZ (Ad root own other fresh) i))
theorem G9 (root own other fresh : Bk) (i : Nat) (h1 : own.length=32) (h2 : other.length=32) : (trim (kZ (Ad root own other fresh) i)).take=Fe i (de root own (fj other)).send:=by
  rw [← Fj root own other fresh h1 h2]
  rfl
theorem Fl (root own other fresh side p : Bk) (i : Nat) (h1 : own.length=32) (h2 : other.length=32) (hi : i≤1000) :
    fH (dI root other) side (sD (JV (de root own (fj other)) i) side p) fresh=(M3 root own other fresh i,p,0):=by
  have hl : leave (Ad root own other fresh) i=some (trim (kZ (Ad root own other fresh) i)):=by rw [kL (by rw [pW];omega),pW,Nat.sub_zero]
  have hm:=wg (s:=dI root other) (h:=⟨fj own,0,i⟩) (fresh:=fresh) rfl (yd _ _ _ _ _ _) (by rw [pW];omega) hl
  rw [G9 root own other fresh i h1 h2] at hm
  have:=mU (side:=side) (Fk root own (fj other) side p i (by omega)) hm (by rw [uE])
  rw [uE] at this
  exact this
end ng
end
section
set_option maxRecDepth 10000
namespace Sl
section
variable {P : Program} {t tx e : TypeId}
theorem qz (w : World) (ty : TypeId) (i : TypeInfo) (ht : P.underlying t=some (.slice e)) (hk : P.underlying tx=some (.int .i64)) (hi : P.info? e=some i) (hz : i.zero=some (.int .u8 0)) (hs : i.size=1) (hb : i.bytes=1)
    (m : Nat) (hm : m≤281474976710656) (h0 : 0<m) (hfit : Builtin.nextslicecap m 0 * i.bytes≤281474976710656) :
    (Builtin.append_ #[t,tx] ty #[.slice none 0 0,N m]).run P w =
      .ok (.slice (some ⟨w.heap.size,0,none⟩) m (grownCap w m 0 e))
        (w.drew.alloc (.cells ((List.replicate m (Value.int .u8 0)).toArray++Builtin.zeroCells #[.int .u8 0] (grownCap w m 0 e - m)) e)):=by
  have h48' : ¬ (281474976710656<Builtin.nextslicecap m 0):=by rw [hb] at hfit;omega
  have hw : IntKind.i64.wrap (m : Int)=m:=jD (by omega) (by omega)
  have h1 : ¬ ((m : Int)<0):=by omega
  have h2 : ¬ ((281474976710656 : Int)<(m : Int)):=by omega
  have h3 : ¬ (m=0):=by omega
  have h63' : ¬ (9223372036854775807<(m : Int)):=by omega
  have hz' : (Value.int .u8 0).cells=#[Value.int .u8 0]:=rfl
  simp [Builtin.append_,Builtin.firstCells,run_underlying ht,run_underlying hk,sizeOf,typeInfo,zeroValue,hi,hz,hs,hb,asInt,asIntOf,N,hw,h1,h2,h3,h63',h48',Question.forced,newRow,grownCap,hz',uX]
variable {n : Nat} {w0 : World} {S : List Nat} {ops : Array Oper} {Q : Exit→Act→World→Prop} {l : List Oper} {E : Env} {M : List aG} {d b : Nat} {ty : TypeId} {pos : String} {aft : Array Edge} {x y : Operand}
theorem JL.Fm {m : Nat} (hu : P.underlying t=some (.slice e)) (hk : P.underlying tx=some (.int .i64)) (hi : EI P e (.int .u8 0) 1 1) (hx : ev E x=some (.slice none 0 0)) (hy : ev E y=some (N m)) (h0 : 0<m)
    (hsm : m≤140737488355328) (hd : Nat.blt d n=true)
    (kk : ∀ b' cap',JL P n w0 S ops Q l ((d,.slice (some ⟨b',0,none⟩) m cap')::E) (⟨b',Sl.aE e 1 m cap' (List.replicate m (Value.int .u8 0)),true⟩::M)) : JL P n w0 S ops Q (⟨some d,.call ⟨.builtin .append,#[x,y],#[t,tx]⟩,ty,pos,aft,none⟩::l) E M:=
  ⟨fun a w ha hw=>wpList_plain rfl fun K hK=>by
    obtain ⟨i,hi1,hi2,hi3,hi4⟩:=hi.get
    unfold Oper.wp
    simp only [execOp,resolve,invoke,builtin,Sem.run_bind,Sem.run_pure,Result.andThen_ok,List.map_toArray,List.map_cons,List.map_nil,ha.eval hx,ha.eval hy]
    have hfit:=growslice_fits (need:=m) (old:=0) (bytes:=1) (by omega) (by omega)
    rw [qz w ty i hu hk hi1 hi2 hi3 hi4 m (by omega) h0 (by rw [hi4];exact hfit)]
    have hge:=grownCap_ge w m 0 e
    generalize grownCap w m 0 e=nc at hge
    refine hK _ _ ((kk w.heap.size nc).go _ _ (ha.put d _ hd) (hw.push (.cells ((List.replicate m (Value.int .u8 0)).toArray++Builtin.zeroCells #[.int .u8 0] (nc - m)) e) ?_ rfl rfl rfl rfl))
    refine ⟨(Builtin.zeroCells #[.int .u8 0] (nc - m)).toList,by simp,?_,by rw [List.length_replicate,Nat.mul_one],hge⟩
    have h8 : (Builtin.zeroCells #[.int .u8 0] (nc - m)).size=nc - m:=by simp [Builtin.zeroCells]
    simp only [List.length_append,Array.length_toList,h8,List.length_replicate]
    omega⟩
end
end Sl
end
section
set_option maxRecDepth 10000
open Sl
theorem Lx : iI Tryz.prog 27=true:=by kernel_rfl
theorem He : dP Tryz.prog 27=some 1:=by kernel_rfl
theorem Ae : aL Tryz.prog 61:=⟨_,Tryz.func61,rfl,by kernel_rfl⟩
theorem kM : aL Tryz.prog 39:=⟨_,Tryz.func39,rfl,by kernel_rfl⟩
theorem Fo {e : TypeId} {k cap : Nat} {xs : List Value} : ∀ o,Sl.aE e 1 k cap xs o→Sl.aE e 1 0 cap [] o:=by
  rintro o ⟨sp,rfl,h1,h2,h3⟩
  exact ⟨xs++sp,rfl,by simpa using h1,rfl,Nat.zero_le _⟩
set_option maxHeartbeats 4000000 in
theorem CH (m : Nat) (h0 : 0<m) (hm : m≤1000000000) (w : World) :
    Calls Tryz.prog 61 [.slice none 0 0,N m].toArray w fun e w'=>∃ x : Nat × Nat,e=.returned (.slice (some ⟨x.1,0,none⟩) 0 x.2)∧ah w [] [⟨x.1,Sl.aE 5 1 0 x.2 [],true⟩] w':=by
  refine enter (n:=27) Tryz.func61 rfl rfl rfl (ah.start w []) ?_
  repeat (first | refine JL.q (by first|(apply OQ.gM (a:=m) (b:=0);rfl;rfl;exact (by omega))|(apply OQ.move;rfl)|(apply OQ.assign;rfl)) rfl ?_ | refine JC.seq ?_ | refine JC.region ?_ | refine JL.nil ?_ | refine JE.next ?_)
  refine JC.cond_false rfl rfl ?_
  repeat (first | refine JL.q (by first|(apply OQ.KK (k:=0) (cap:=0) (ad:=none);exact Tryz.underlying27;rfl)|(apply OQ.len (k:=0) (cap:=0) (ad:=none);exact Tryz.underlying27;rfl)|(apply OQ.jq (a:=0) (b:=0);rfl;rfl;exact (by decide);exact (by decide))|(apply OQ.jq (a:=m) (b:=0);rfl;rfl;exact (by omega);exact (by omega))|(apply OQ.Du (a:=m - 0) (b:=0);rfl;rfl;exact (by omega))|(apply OQ.move;rfl)|(apply OQ.assign;rfl)) rfl ?_ | refine JC.seq ?_ | refine JC.region ?_ | refine JC.skip ?_ | refine JL.nil ?_ | refine JE.next ?_)
  refine JC.cond_true rfl rfl ?_
  repeat (first | refine JL.q (by first|(apply OQ.KK (k:=0) (cap:=0) (ad:=none);exact Tryz.underlying27;rfl)|(apply OQ.nI (hi:=0) (len:=0) (cap:=0) (ad:=none);exact Tryz.underlying27;exact j6;rfl;rfl;exact (by decide))|(apply OQ.move;rfl)) rfl ?_ | refine JC.region ?_)
  refine JL.Fm (m:=m - 0) Tryz.underlying27 Tryz.underlying3 tW rfl rfl (by omega) (by omega) rfl fun b cap=>?_
  rw [Nat.sub_zero]
  refine JL.KJ (b:=b) .here (fun ob hA=>by obtain ⟨sp,_,_,_,h3⟩:=hA;exact h3) fun hcap=>?_
  repeat (first | refine JL.q (by first|(apply OQ.len (k:=0) (cap:=0) (ad:=none);exact Tryz.underlying27;rfl)|(apply OQ.to;exact (OQ.nI (ad:=some ⟨b,0,none⟩) (len:=m) (cap:=cap) (hi:=0) Tryz.underlying27 j6 rfl rfl (Nat.zero_le _));exact wP)|(apply OQ.move;rfl)|(apply OQ.assign;rfl)) rfl ?_ | refine JC.seq ?_ | refine JC.region ?_ | refine JL.nil ?_ | refine JE.next ?_)
  exact JC.ret (JE.aR rfl (RV.tmp rfl) fun w' hw=>⟨(b,cap),rfl,hw.weak (.keep _ _ _ _ _ _ Fo (.nil _))⟩)
def mg (a b : aJ) : Nat→List Bt
  | 0=>[]
  | 1=>a.l
  | _=>a.l++b.l
def JW (a b : aJ) : Nat→aJ
  | 0=>a
  | _=>b
theorem Ag {i : Nat} (h : i<2) : i=0∨i=1:=by omega
theorem uF (a b : aJ) {i : Nat} (h : i<2) : mg a b (i+1)=mg a b i++(JW a b i).l:=by
  rcases Ag h with rfl | rfl <;> rfl
theorem Fp (a b : aJ) {i : Nat} (h : i<2) : [a.v,b.v][i]?=some (JW a b i).v:=by
  rcases Ag h with rfl | rfl <;> rfl
theorem Br (a b : aJ) (i : Nat) : (mg a b i).length≤a.l.length+b.l.length:=by
  match i with
  | 0=>exact Nat.zero_le _
  | 1=>exact Nat.le_add_right _ _
  | i+2=>exact Nat.le_of_eq List.length_append
set_option maxHeartbeats 8000000 in
theorem mh (a b : aJ) (bs : Nat) (w : World) (ha : a.ok w) (hb : b.ok w) (hs : ∃ o,w.heap[bs]?=some o∧Row 27 [a.v,b.v] o) (h0 : 0<a.l.length+b.l.length) (hl : a.l.length+b.l.length≤1000000000) :
    Calls Tryz.prog 39 [.slice (some ⟨bs,0,none⟩) 2 2].toArray w fun e w'=>∃ x : Nat × Nat,e=.returned (.slice (some ⟨x.1,0,none⟩) (a.l++b.l).length x.2)∧ah w [] [⟨x.1,Sl.aE 5 1 (a.l++b.l).length x.2 ((a.l++b.l).map U8),true⟩] w':=by
  obtain ⟨o,ho,hA⟩:=hs
  have hok : ∀ i,i<2→(JW a b i).ok w:=fun i h=>by rcases Ag h with rfl | rfl <;> assumption
  refine enter (n:=36) Tryz.func39 rfl rfl rfl (ah.seen (S:=[]) ho hA) ?_
  repeat (first | refine JL.q (by first|(apply OQ.len (k:=2);exact Tryz.underlying53;rfl)|(apply OQ.move;rfl)|(apply OQ.assign;rfl)) rfl ?_ | refine JC.seq ?_ | refine JC.region ?_ | refine JC.block ?_ | refine JL.nil ?_ | refine JE.next ?_)
  refine JC.loop (fun i : Nat=>[(0,.slice (some ⟨bs,0,none⟩) 2 2),(3,N (mg a b i).length),(9,.slice (some ⟨bs,0,none⟩) 2 2),(10,N 2),(11,N i)]) (fun _=>[⟨bs,Row 27 [a.v,b.v],false⟩]) (fun i=>2 - i) (fun i=>i≤2) 0 (by decide) (by repeat (first | exact ai.nil | refine ai.cons _ _ _ rfl ?_)) (an.refl _) ?_
  intro i hi
  repeat (first | refine JL.q (by (apply OQ.bN (a:=i) (b:=2);rfl;rfl)) rfl ?_ | refine JC.seq ?_ | refine JC.region ?_ | refine JL.nil ?_ | refine JE.next ?_)
  refine JC.cond rfl (fun h=>?_) (fun h=>?_)
  · have hi' : i<2:=of_decide_eq_true h
    clear h
    have hv:=Fp a b hi'
    have hcs:=uF a b hi'
    have hle:=Br a b (i+1)
    have hln : (mg a b (i+1)).length=(mg a b i).length+(JW a b i).l.length:=by rw [hcs,List.length_append]
    generalize JW a b i=s at hv hln
    have hcell : ∀ o,Row 27 [a.v,b.v] o→cellAt o (0+i)=some s.v:=by rw [Nat.zero_add];exact Row.cell hv
    repeat (first | refine JL.q (by first|(apply OQ.g5 (i:=i) (b:=bs) (j:=0);exact Tryz.underlying53;exact He;rfl;rfl;exact hi')|(apply OQ.load (v:=s.v);exact Lx;rfl;exact .here;exact hcell)|(apply OQ.len (k:=s.l.length) (ad:=s.ad) (cap:=s.cap);exact Tryz.underlying27;rfl)|(apply OQ.aY (a:=(mg a b i).length) (b:=s.l.length);rfl;rfl;exact (by omega))|(apply OQ.gM (a:=(mg a b i).length+s.l.length) (b:=0);rfl;rfl;exact (by omega))|(apply OQ.move;rfl)|(apply OQ.assign;rfl)) rfl ?_ | refine JC.seq ?_ | refine JC.region ?_ | refine JC.block ?_ | refine JC.skip ?_ | refine JL.nil ?_ | refine JE.next ?_)
    refine JC.cond_false rfl rfl ?_
    repeat (first | refine JL.q (by first|(apply OQ.aY (a:=i) (b:=1);rfl;rfl;exact (by omega))|(apply OQ.move;rfl)) rfl ?_ | refine JC.region ?_ | refine JC.skip ?_ | refine JL.nil ?_ | refine JE.next ?_ | refine JE.aq ?_)
    rw [← hln]
    exact JE.again (i:=i) (i+1) hi' (by omega) (by repeat (first | exact ai.nil | refine ai.cons _ _ _ rfl ?_)) (an.refl _)
  · have hi' : i=2:=by have:=of_decide_eq_false h;omega
    subst hi'
    clear h hi
    have hcl : (mg a b 2).length=a.l.length+b.l.length:=List.length_append
    repeat (first | refine JL.q (by (apply OQ.move;rfl)) rfl ?_ | refine JC.seq ?_ | refine JC.region ?_ | refine JC.exit ?_ | refine JE.next ?_ | refine JE.ax ?_ | refine JE.aA ?_)
    refine JL.bV (ι:=Nat × Nat) (vs:=[.slice none 0 0,N (mg a b 2).length]) (fun x=>.slice (some ⟨x.1,0,none⟩) 0 x.2) (fun x=>[⟨x.1,Sl.aE 5 1 0 x.2 [],true⟩]) Ae rfl rfl (fun i=>by simp) (fun w' hw'=>CH _ (by omega) (by omega) w') ?_
    rintro ⟨bx,cap⟩
    try dsimp only
    repeat (first | refine JL.q (by first|(apply OQ.len (k:=2);exact Tryz.underlying53;rfl)|(apply OQ.move;rfl)|(apply OQ.assign;rfl)) rfl ?_ | refine JC.seq ?_ | refine JC.region ?_ | refine JC.block ?_ | refine JL.nil ?_ | refine JE.next ?_)
    refine JC.loop (fun z : Nat × Nat × Nat=>[(0,.slice (some ⟨bs,0,none⟩) 2 2),(6,.slice (some ⟨z.2.1,0,none⟩) (mg a b z.1).length z.2.2),(25,.slice (some ⟨bs,0,none⟩) 2 2),(26,N 2),(27,N z.1)]) (fun z=>[⟨z.2.1,Sl.aE 5 1 (mg a b z.1).length z.2.2 ((mg a b z.1).map U8),true⟩,⟨bs,Row 27 [a.v,b.v],false⟩]) (fun z=>2 - z.1) (fun z=>z.1≤2) (0,bx,cap) (Nat.zero_le _) (by repeat (first | exact ai.nil | refine ai.cons _ _ _ rfl ?_)) (an.refl _) ?_
    rintro ⟨i,bx,cap⟩ hi
    dsimp only at hi ⊢
    repeat (first | refine JL.q (by (apply OQ.bN (a:=i) (b:=2);rfl;rfl)) rfl ?_ | refine JC.seq ?_ | refine JC.region ?_ | refine JL.nil ?_ | refine JE.next ?_)
    refine JC.cond rfl (fun h=>?_) (fun h=>?_)
    · have hi' : i<2:=of_decide_eq_true h
      clear h
      have hv:=Fp a b hi'
      have hso:=hok i hi'
      have hcs:=uF a b hi'
      have hle:=Br a b (i+1)
      have hln : (mg a b (i+1)).length=(mg a b i).length+(JW a b i).l.length:=by rw [hcs,List.length_append]
      generalize JW a b i=s at hv hln hcs hso
      have hcell : ∀ o,Row 27 [a.v,b.v] o→cellAt o (0+i)=some s.v:=by rw [Nat.zero_add];exact Row.cell hv
      repeat (first | refine JL.q (by first|(apply OQ.g5 (i:=i) (b:=bs) (j:=0);exact Tryz.underlying53;exact He;rfl;rfl;exact hi')|(apply OQ.load (v:=s.v);exact Lx;rfl;exact (.there .here);exact hcell)|(apply OQ.move;rfl)|(apply OQ.assign;rfl)) rfl ?_ | refine JC.seq ?_ | refine JC.region ?_ | refine JC.block ?_ | refine JC.skip ?_ | refine JL.nil ?_ | refine JE.next ?_)
      refine JL.append (cs:=s.l.map U8) (m:=s.l.length) (ad:=s.ad) (sc:=s.cap) (fun b' cap'=>[⟨b',Sl.aE 5 1 ((mg a b i).length+s.l.length) cap' ((mg a b i).map U8++s.l.map U8),true⟩,⟨bs,Row 27 [a.v,b.v],false⟩]) Tryz.underlying27 tW rfl rfl (by intro _ _;repeat (first | exact aZ.here | apply aZ.there)) (by rw [List.length_map,Nat.mul_one]) (fun w' hw'=>(hso.holds hw' rfl).reads) (fun v hv=>by obtain ⟨q,_,rfl⟩:=List.mem_map.1 hv;rfl) rfl (by decide) (by omega) (by omega) rfl fun b' cap'=>?_
      rw [← List.map_append,← hcs,← hln]
      repeat (first | refine JL.q (by first|(apply OQ.aY (a:=i) (b:=1);rfl;rfl;exact (by omega))|(apply OQ.move;rfl)|(apply OQ.assign;rfl)) rfl ?_ | refine JC.region ?_ | refine JL.nil ?_ | refine JE.next ?_ | refine JE.aq ?_)
      exact JE.again (ι:=Nat × Nat × Nat) (i:=(i,bx,cap)) (i+1,b',cap') hi' (by dsimp only;omega) (by repeat (first | exact ai.nil | refine ai.cons _ _ _ rfl ?_)) (an.refl _)
    · have hi' : i=2:=by have:=of_decide_eq_false h;omega
      subst hi'
      clear h hi
      repeat (first | refine JL.q (by first|(apply OQ.move;rfl)|(apply OQ.assign;rfl)) rfl ?_ | refine JC.seq ?_ | refine JC.region ?_ | refine JC.exit ?_ | refine JL.nil ?_ | refine JE.next ?_ | refine JE.ax ?_ | refine JE.aA ?_)
      refine JC.ret (JE.aR rfl (RV.tmp rfl) fun w' hw=>⟨(bx,cap),rfl,hw.weak (.keep _ _ _ _ _ _ (fun _ h=>h) (.nil _))⟩)
end
section
set_option maxRecDepth 10000
open Sl
section
variable {P : Program} {n : Nat} {w0 : World} {S : List Nat} {ops : Array Oper} {Q : Exit→Act→World→Prop} {l : List Oper} {E : Env} {M : List aG} {C : World→Prop}
variable {dst : Option Tmp} {d : Nat} {t t' e ty : TypeId} {pos : String} {aft : Array Edge} {g : Option (Nat × Bool)} {x y : Operand}
theorem JL.mj {ι : Type} {X M0 : List aG} (vf : ι→Value) (Yf : ι→List aG) {f : FuncId} {xs : List Operand} {ats : Array TypeId} {vs : List Value} (hg : aL P f) (hx : m7 E xs=some vs) (hd : Nat.blt d n=true) (hX : ∀ e ∈ X,e.wr=true) (hY : ∀ i,∀ e ∈ Yf i,e.wr=true)
    (hc : ∀ w,ah w0 S (X++M0) w→ah w (keys X) X w→Calls P f vs.toArray w fun e w'=>∃ i,e=.returned (vf i)∧ah w (keys X) (Yf i) w')
    (k : ∀ i,JL P n w0 S ops Q l ((d,vf i)::E) (Yf i++M0)) : JL P n w0 S ops Q (⟨some d,.call ⟨.value (.func f),xs.toArray,ats⟩,ty,pos,aft,none⟩::l) E (X++M0):=
  JL.call (ι:=ι) vf (fun i=>Yf i++M0) hg hx hd (fun w hw=>(hc w hw (hw.own.weak (dN _ _))).mono fun _ _ ⟨i,h1,h2⟩=>⟨i,h1,hw.HN h2 hX (hY i)⟩) k
theorem OQ.Fq {ad : Option Addr} {k cap : Nat} (hu : P.underlying t=some (.slice e)) (hx : ev E x=some (.slice ad k cap)) (hy : ev E y=some (.slice none 0 0)) :
    OQ P n E C ⟨dst,.binOp .eql t x y t',ty,pos,aft,g⟩ (.bool ad.isNone):=
  OQ.run fun c ha w _=>by
    have h1:=ha.eval hx
    have h2:=ha.eval hy
    have h4 : (binOp .eql t (.slice ad k cap) (.slice none 0 0)).run P w=.ok (.bool ad.isNone) w:=by
      show (do pure (.bool (← Op.equal t (.slice ad k cap) (.slice none 0 0))) : Sem Value).run P w=_
      simp [Sem.run_bind,run_equal_slice_nil w t e ad k cap hu]
    simp [execOp,h1,h2,eqGuard,h4]
end
end
section
set_option maxRecDepth 10000
open Sl ij
def Ly : Nat→List (Nat × Nat)
  | 2=>[(1,5)]
  | 3=>[(0,4),(2,6)]
  | 6=>[(5,9)]
  | 7=>[(4,8),(6,10)]
  | 8=>[(3,7)]
  | 9=>[(7,11)]
  | _=>[]
def M4 : Nat→List Nat
  | 2=>[1]
  | 3=>[2,12]
  | 6=>[5]
  | 7=>[6,12]
  | 8=>[11]
  | 9=>[10]
  | _=>[]
def M5 : Nat→List Nat
  | 2=>[1]
  | 6=>[5]
  | 8=>[11]
  | 9=>[10]
  | _=>[]
theorem Fs {c : List B} (hc : c.length=32) {w' : World} {b b6 b5 : Nat} {u : B} (h1 : ∃ o,w'.heap[b]?=some o∧Row 23 (c.map U8) o) (h2 : ∃ o,w'.heap[b6]?=some o∧Row 27 [.slice (some ⟨b5,0,none⟩) 1 1] o) (h3 : ∃ o,w'.heap[b5]?=some o∧Row 5 [U8 u] o) (hG : g9 w') :
    Calls Tryz.prog 57 [.slice (some ⟨b,0,none⟩) 32 32,.slice (some ⟨b6,0,none⟩) 1 1].toArray w' fun e w''=>e=.returned (.agg ((bT c [u]).map U8).toArray)∧Ext w' w'':=by
  obtain ⟨o1,ho1,hA1⟩:=h1
  obtain ⟨o2,ho2,hA2⟩:=h2
  obtain ⟨o3,ho3,hA3⟩:=h3
  have h4 : aJ.ok w' ⟨some ⟨b5,0,none⟩,1,[u]⟩:=⟨by simp,Reads.block ho3 (Row.all _ hA3)⟩
  have:=oC ⟨some ⟨b,0,none⟩,32,c⟩ (some ⟨b6,0,none⟩) 1 [⟨some ⟨b5,0,none⟩,1,[u]⟩] w' hG ⟨Nat.le_of_eq hc,Reads.block ho1 (Row.all _ hA1)⟩ (Reads.block ho2 (Row.all _ hA2)) (by simpa using h4) (show c.length<4611686018427387904 by omega) (by simp) (by simp [total])
  simpa [aJ.v,hc] using this
set_option maxHeartbeats 8000000 in
theorem uG (c : List B) (hc : c.length=32) (w : World) (hG : g9 w) :
    Calls Tryz.prog 37 [.agg (c.map U8).toArray].toArray w fun e w'=>e=.returned (.tuple #[.agg ((bT c [2]).map U8).toArray,.agg ((bT c [1]).map U8).toArray])∧Ext w w':=by
  refine enter (n:=12) Tryz.func37 rfl rfl rfl (ah.start w []) ?_
  repeat (first | refine JC.seq ?_ | refine JC.region ?_)
  refine JL.box (r:=c.map U8) rfl rfl rfl fun b1 _=>?_
  refine JL.alloc fT rfl fun b2 _=>?_
  refine JL.alloc fT rfl fun b3 _=>?_
  repeat (first | refine JC.seq ?_ | refine JL.nil ?_ | refine JE.next ?_)
  let vs : Nat→X→Value:=fun i x=>match i with
    | 0=>.slice (some ⟨b1,0,none⟩) 32 32
    | 1=>.slice (some ⟨x.1,0,none⟩) 1 1
    | 2=>.slice (some ⟨x.1,0,none⟩) 1 1
    | 3=>.agg ((bT c [2]).map U8).toArray
    | 4=>.slice (some ⟨b1,0,none⟩) 32 32
    | 5=>.slice (some ⟨x.1,0,none⟩) 1 1
    | 6=>.slice (some ⟨x.1,0,none⟩) 1 1
    | _=>.agg ((bT c [1]).map U8).toArray
  let Ms : Nat→X→List aG:=fun i x=>match i with
    | 1=>[⟨x.1,Row 5 [U8 2],true⟩]
    | 2=>[⟨x.1,Row 27 [.slice (some ⟨x.2,0,none⟩) 1 1],true⟩,⟨x.2,Row 5 [U8 2],true⟩]
    | 5=>[⟨x.1,Row 5 [U8 1],true⟩]
    | 6=>[⟨x.1,Row 27 [.slice (some ⟨x.2,0,none⟩) 1 1],true⟩,⟨x.2,Row 5 [U8 1],true⟩]
    | 8=>[⟨b2,Row 23 ((bT c [2]).map U8),true⟩]
    | 9=>[⟨b3,Row 23 ((bT c [1]).map U8),true⟩]
    | 12=>[⟨b1,Row 23 (c.map U8),true⟩]
    | 11=>[⟨b2,Row 23 ((List.replicate 32 (0 : B)).map U8),true⟩]
    | 10=>[⟨b3,Row 23 ((List.replicate 32 (0 : B)).map U8),true⟩]
    | _=>[]
  refine JC.grow (g:=⟨[(1,Pt b1 0),(2,Pt b2 0),(3,Pt b3 0)],13,vs,Ms,Ly,M4,M5,fun _=>none⟩) [] [8,9] mixed (by repeat (first | exact ai.nil | refine ai.cons _ _ _ rfl ?_)) ?_ ?_ ?_ ?_ ?_ ?_
  · exact an.refl _
  · rfl
  · rfl
  · rfl
  · refine ⟨?_,?_,?_,?_,?_,?_,?_,?_,?_,?_,trivial⟩
    · intro x EF MF Q kk
      exact JL.q (OQ.jZ Tryz.underlying23 s5 rfl) rfl (JL.nil (kk (0,0) nofun))
    · intro x EF MF Q kk
      exact JL.fh Tryz.underlying27 e5 rfl rfl rfl rfl fun b _=>JL.nil (kk (b,0) nofun)
    · intro x EF MF Q kk
      exact JL.fh Tryz.underlying53 wY rfl rfl rfl rfl fun b _=>JL.nil (kk (b,(x 1).1) nofun)
    · intro x EF MF Q kk
      refine JL.q (OQ.au (vs:=[.slice (some ⟨b1,0,none⟩) 32 32,.slice (some ⟨(x 2).1,0,none⟩) 1 1]) fX rfl fun w' hw'=>Fs hc (hw'.get (.there (.there .here))) (hw'.get .here) (hw'.get (.there .here)) (hG.aM hw'.aM (by simp))) rfl (JL.nil (kk (0,0) nofun))
    · intro x EF MF Q kk
      exact JL.q (OQ.jZ Tryz.underlying23 s5 rfl) rfl (JL.nil (kk (0,0) nofun))
    · intro x EF MF Q kk
      exact JL.fh Tryz.underlying27 e5 rfl rfl rfl rfl fun b _=>JL.nil (kk (b,0) nofun)
    · intro x EF MF Q kk
      exact JL.fh Tryz.underlying53 wY rfl rfl rfl rfl fun b _=>JL.nil (kk (b,(x 5).1) nofun)
    · intro x EF MF Q kk
      refine JL.q (OQ.au (vs:=[.slice (some ⟨b1,0,none⟩) 32 32,.slice (some ⟨(x 6).1,0,none⟩) 1 1]) fX rfl fun w' hw'=>Fs hc (hw'.get (.there (.there .here))) (hw'.get .here) (hw'.get (.there .here)) (hG.aM hw'.aM (by simp))) rfl (JL.nil (kk (0,0) nofun))
    · intro x EF MF Q kk
      exact JL.ag fe rfl rfl (dK _) (dR _) .here (by simp) (JL.nil (kk (0,0) nofun))
    · intro x EF MF Q kk
      exact JL.ag fe rfl rfl (dK _) (dR _) .here (by simp) (JL.nil (kk (0,0) nofun))
  · intro x _
    repeat (refine JE.next ?_)
    refine JC.ret ?_
    skip
    refine JE.gI rfl (RV.av mY fe rfl .here (dK _) Row.all) (RV.av mY fe rfl (.there .here) (dK _) Row.all) fun w' hw=>⟨rfl,hw.aM⟩
def Lz : Nat→List (Nat × Nat)
  | 2=>[(0,4),(1,5)]
  | 5=>[(3,7),(4,8)]
  | 6=>[(2,6)]
  | 7=>[(5,9)]
  | _=>[]
def M6 : Nat→List Nat
  | 2=>[1,10]
  | 5=>[4,10]
  | 6=>[9]
  | 7=>[8]
  | _=>[]
def M7 : Nat→List Nat
  | 6=>[9]
  | 7=>[8]
  | _=>[]
theorem Bu {c : List B} (hc : c.length=32) {w' : World} {b b5 : Nat} {u : B} (h1 : ∃ o,w'.heap[b]?=some o∧Row 23 (c.map U8) o) (h3 : ∃ o,w'.heap[b5]?=some o∧Row 5 [U8 u] o) :
    Calls Tryz.prog 45 [.slice (some ⟨b,0,none⟩) 32 32,.slice (some ⟨b5,0,none⟩) 1 1].toArray w' fun e w''=>e=.returned (.agg ((bT c [u]).map U8).toArray)∧Ext w' w'':=by
  obtain ⟨o1,ho1,hA1⟩:=h1
  obtain ⟨o3,ho3,hA3⟩:=h3
  have:=jM ⟨some ⟨b,0,none⟩,32,c⟩ ⟨some ⟨b5,0,none⟩,1,[u]⟩ w' ⟨Nat.le_of_eq hc,Reads.block ho1 (Row.all _ hA1)⟩ ⟨by simp,Reads.block ho3 (Row.all _ hA3)⟩ (show c.length<35184372088000 by omega) (by simp)
  simpa [aJ.v,hc] using this
set_option maxHeartbeats 8000000 in
theorem sL (c : List B) (hc : c.length=32) (w : World) :
    Calls Tryz.prog 32 [.agg (c.map U8).toArray].toArray w fun e w'=>e=.returned (.tuple #[.agg ((bT c [2]).map U8).toArray,.agg ((bT c [1]).map U8).toArray])∧Ext w w':=by
  refine enter (n:=10) Tryz.func32 rfl rfl rfl (ah.start w []) ?_
  repeat (first | refine JC.seq ?_ | refine JC.region ?_)
  refine JL.box (r:=c.map U8) rfl rfl rfl fun b1 _=>?_
  refine JL.alloc fT rfl fun b2 _=>?_
  refine JL.alloc fT rfl fun b3 _=>?_
  repeat (first | refine JC.seq ?_ | refine JL.nil ?_ | refine JE.next ?_)
  let vs : Nat→X→Value:=fun i x=>match i with
    | 0=>.slice (some ⟨b1,0,none⟩) 32 32
    | 1=>.slice (some ⟨x.1,0,none⟩) 1 1
    | 2=>.agg ((bT c [2]).map U8).toArray
    | 3=>.slice (some ⟨b1,0,none⟩) 32 32
    | 4=>.slice (some ⟨x.1,0,none⟩) 1 1
    | _=>.agg ((bT c [1]).map U8).toArray
  let Ms : Nat→X→List aG:=fun i x=>match i with
    | 1=>[⟨x.1,Row 5 [U8 2],true⟩]
    | 4=>[⟨x.1,Row 5 [U8 1],true⟩]
    | 6=>[⟨b2,Row 23 ((bT c [2]).map U8),true⟩]
    | 7=>[⟨b3,Row 23 ((bT c [1]).map U8),true⟩]
    | 8=>[⟨b3,Row 23 ((List.replicate 32 (0 : B)).map U8),true⟩]
    | 9=>[⟨b2,Row 23 ((List.replicate 32 (0 : B)).map U8),true⟩]
    | 10=>[⟨b1,Row 23 (c.map U8),true⟩]
    | _=>[]
  refine JC.grow (g:=⟨[(1,Pt b1 0),(2,Pt b2 0),(3,Pt b3 0)],11,vs,Ms,Lz,M6,M7,fun _=>none⟩) [] [6,7] mixed (by repeat (first | exact ai.nil | refine ai.cons _ _ _ rfl ?_)) ?_ ?_ ?_ ?_ ?_ ?_
  · exact an.refl _
  · rfl
  · rfl
  · rfl
  · refine ⟨?_,?_,?_,?_,?_,?_,?_,?_,trivial⟩
    · intro x EF MF Q kk
      exact JL.q (OQ.jZ Tryz.underlying23 s5 rfl) rfl (JL.nil (kk (0,0) nofun))
    · intro x EF MF Q kk
      exact JL.fh Tryz.underlying27 e5 rfl rfl rfl rfl fun b _=>JL.nil (kk (b,0) nofun)
    · intro x EF MF Q kk
      exact JL.q (OQ.au (vs:=[.slice (some ⟨b1,0,none⟩) 32 32,.slice (some ⟨(x 1).1,0,none⟩) 1 1]) gO rfl fun w' hw'=>Bu hc (hw'.get (.there .here)) (hw'.get .here)) rfl (JL.nil (kk (0,0) nofun))
    · intro x EF MF Q kk
      exact JL.q (OQ.jZ Tryz.underlying23 s5 rfl) rfl (JL.nil (kk (0,0) nofun))
    · intro x EF MF Q kk
      exact JL.fh Tryz.underlying27 e5 rfl rfl rfl rfl fun b _=>JL.nil (kk (b,0) nofun)
    · intro x EF MF Q kk
      exact JL.q (OQ.au (vs:=[.slice (some ⟨b1,0,none⟩) 32 32,.slice (some ⟨(x 4).1,0,none⟩) 1 1]) gO rfl fun w' hw'=>Bu hc (hw'.get (.there .here)) (hw'.get .here)) rfl (JL.nil (kk (0,0) nofun))
    · intro x EF MF Q kk
      exact JL.ag fe rfl rfl (dK _) (dR _) .here (by simp) (JL.nil (kk (0,0) nofun))
    · intro x EF MF Q kk
      exact JL.ag fe rfl rfl (dK _) (dR _) .here (by simp) (JL.nil (kk (0,0) nofun))
  · intro x _
    repeat (refine JE.next ?_)
    refine JC.ret ?_
    skip
    refine JE.gI rfl (RV.av mY fe rfl .here (dK _) Row.all) (RV.av mY fe rfl (.there .here) (dK _) Row.all) fun w' hw=>⟨rfl,hw.aM⟩
end
section
set_option maxRecDepth 10000
open Sl ij mF dW ng
open qv (Bk)
open iu
theorem dV : dP Tryz.prog 26=some 166:=by kernel_rfl
theorem iy : gy Tryz.prog 26=true:=by kernel_rfl
theorem qt : dP Tryz.prog 32=some 34:=by kernel_rfl
theorem CI : gy Tryz.prog 32=true:=by kernel_rfl
theorem tE : dP Tryz.prog 57=some 65:=by kernel_rfl
theorem LA : gy Tryz.prog 57=true:=by kernel_rfl
theorem CJ : EI Tryz.prog 57 (.agg (dZ mW).toArray) 65 72:=by unfold EI;kernel_rfl
theorem NY : zc Tryz.prog 57=some (dZ mW):=by kernel_rfl
def dm : bA:=⟨dU,dU,dU,false,false,dU,dU,0,0,0,[]⟩
theorem br : dm.ok:=⟨rfl,rfl,rfl,rfl,rfl,nofun⟩
theorem uH : zc Tryz.prog 26=some (sec dm (.slice none 0 0)):=by kernel_rfl
def bO : Hd:=⟨dU,0,0⟩
theorem JX : zc Tryz.prog 32=some (hdc bO):=by kernel_rfl
theorem bB : iI Tryz.prog 3=true:=by kernel_rfl
theorem nE : dP Tryz.prog 3=some 1:=by kernel_rfl
theorem gv : iI Tryz.prog 4=true:=by kernel_rfl
theorem wh : dP Tryz.prog 4=some 1:=by kernel_rfl
theorem jc : iI Tryz.prog 24=true:=by kernel_rfl
theorem CK : dP Tryz.prog 24=some 1:=by kernel_rfl
theorem mo : Tryz.prog.eqGuardType Tryz.prog.depth 23=false:=by kernel_rfl
structure nF where
  ad : Option Addr
  cap : Nat
  l : List Kp
def nF.v (s : nF) : Value:=.slice s.ad s.l.length s.cap
structure nF.ok (w : World) (s : nF) : Prop where
  len : s.l.length≤s.cap
  reads : Reads w s.ad (aX s.l).flatten
  all : ∀ k ∈ s.l,k.ok
theorem nF.ok.holds {w0 w : World} {S : List Nat} {M : List aG} {s : nF} (h : s.ok w0) (hw : ah w0 S M w) (hS : S=[]) : s.ok w:=⟨h.len,hw.reads h.reads (fun _ a _=>by rw [hS];simp),h.all⟩
def LB : nF:=⟨none,0,[]⟩
theorem Hf (w : World) : LB.ok w:=⟨Nat.le_refl _,Reads.nil _ _,nofun⟩
def tF (q : Acc) (l : List Kp) : nF:=match q with
  | none=>LB
  | some p=>⟨some ⟨p.1,0,none⟩,p.2,l⟩
theorem Ah (q : Acc) (l : List Kp) : (tF q l).v=aC q l.length:=by cases q <;> rfl
theorem wj {q : Acc} {l : List Kp} (h : q=none→l=[]) : (tF q l).l=l:=by
  cases q with
  | none=>exact (h rfl).symm
  | some p=>rfl
def fV (q : Acc) (l : List Kp) : List aG:=u9 57 65 q (aX l)
theorem jC (q : Acc) (l : List Kp) : ∀ x ∈ fV q l,x.wr=true:=F2 _ _ _ _
theorem Bv {w0 w : World} {S : List Nat} {M : List aG} {q : Acc} {l : List Kp} (hl : ∀ k ∈ l,k.ok) (hw : ah w0 S (fV q l++M) w) : (tF q l).ok w:=by
  cases q with
  | none=>exact Hf w
  | some p=>
    have hw : ah w0 S (⟨p.1,Sl.aE 57 65 (aX l).length p.2 (aX l).flatten,true⟩::M) w:=hw
    obtain ⟨o,ho,hA⟩:=hw.get .here
    have hh:=Sl.aE.cells _ hA
    obtain ⟨sp,rfl,h2,h3,h4⟩:=hA
    exact ⟨by rw [ec] at h4;exact h4,Reads.block ho hh,hl⟩
def ff (b : Nat) (q : Acc) (s : bA) : List aG:=⟨b,Row 26 (sec s (aC q s.kept.length)),true⟩::fV q s.kept
theorem eg (b : Nat) (q : Acc) (s : bA) : ∀ x ∈ ff b q s,x.wr=true:=by
  intro x hx
  rcases List.mem_cons.1 hx with rfl | hx
  · rfl
  · exact jC _ _ x hx
theorem gw (q : Acc) (k : Nat) : (aC q k).oneCell'=true:=by cases q <;> rfl
theorem kN (q : Acc) (k : Nat) : (aC q k).cells=#[aC q k]:=by cases q <;> rfl
def Tb (S : List Nat) (w : World) : Prop:=(g9 w∧1 ∉ S)∧(GQ w∧0 ∉ S)
theorem Tb.g {w0 w : World} {S : List Nat} {M : List aG} (h : Tb S w0) (hw : ah w0 S M w) : g9 w:=h.1.1.aM hw.aM h.1.2
theorem Tb.q {w0 w : World} {S : List Nat} {M : List aG} (h : Tb S w0) (hw : ah w0 S M w) : GQ w:=h.2.1.aM hw.aM h.2.2
theorem Tb.own {w0 w : World} {S : List Nat} {X M : List aG} (h : Tb S w0) (hw : ah w0 S (X++M) w) (hX : ∀ e ∈ X,e.wr=true) : Tb (keys X) w:=by
  have hk : ∀ g,g<w0.heap.size→g ∉ S→g ∉ keys X:=fun g hg hS hm=>by
    obtain ⟨e,he,rfl⟩:=List.mem_map.1 hm
    rcases (hw.all e (List.mem_append_left _ he)).2 (hX e he) with h1 | h1
    · exact hS h1
    · omega
  exact ⟨⟨h.g hw,hk _ h.1.1.lt h.1.2⟩,⟨h.q hw,hk _ h.2.1.lt h.2.2⟩⟩
theorem Tb.nil {w : World} (h1 : g9 w) (h2 : GQ w) : Tb [] w:=⟨⟨h1,by simp⟩,⟨h2,by simp⟩⟩
def CL (a : Int) : Bool:=decide (0≤a) && decide (a≤2147483647)
theorem jV : aL Tryz.prog 22:=⟨_,Tryz.func22,rfl,by kernel_rfl⟩
set_option maxHeartbeats 4000000 in
theorem ye (a : Int) (w : World) : Calls Tryz.prog 22 [I a].toArray w fun e w'=>e=.returned (.bool (CL a))∧Ext w w':=by
  refine enter (n:=9) Tryz.func22 rfl rfl rfl (ah.start w []) ?_
  unfold CL
  obtain ⟨c1,h1⟩ : ∃ c,decide ((0 : Int)≤a)=c:=⟨_,rfl⟩
  obtain ⟨c2,h2⟩ : ∃ c,decide (a≤2147483647)=c:=⟨_,rfl⟩
  rw [h1,h2]
  cases c1
  · repeat (first | refine JL.q (by first|(apply OQ.BL (b:=0);rfl;rfl;exact h1)|(apply OQ.fl;rfl;rfl)|(apply OQ.move;rfl)|(apply OQ.assign;rfl)) rfl ?_ | refine JC.seq ?_ | refine JC.region ?_ | refine JL.nil ?_ | refine JE.next ?_ | refine JL.lu rfl rfl rfl rfl ?_)
    exact JC.ret (JE.aR rfl (RV.tmp rfl) fun w' hw=>⟨rfl,hw.aM⟩)
  · repeat (first | refine JL.q (by first|(apply OQ.BL (b:=0);rfl;rfl;exact h1)|(apply OQ.Mm (b:=2147483647);rfl;rfl;exact h2)|(apply OQ.fJ;rfl;rfl)|(apply OQ.move;rfl)|(apply OQ.assign;rfl)) rfl ?_ | refine JC.seq ?_ | refine JC.region ?_ | refine JL.nil ?_ | refine JE.next ?_ | refine JL.aV rfl rfl ?_)
    exact JC.ret (JE.aR rfl (RV.tmp rfl) fun w' hw=>⟨rfl,hw.aM⟩)
theorem CM : aL Tryz.prog 56:=⟨_,Tryz.func56,rfl,by kernel_rfl⟩
set_option maxHeartbeats 4000000 in
theorem Ft (q : Acc) (xs : Bk) (m : Nat) (hq : q=none→xs=[]) (hl : xs.length≤70000000000) (hm : m<9223372036854775808) (w : World) (hw : ah w (keys (bS 5 q (xs.map U8))) (bS 5 q (xs.map U8)) w) :
    Calls Tryz.prog 56 [aC q xs.length,N m].toArray w fun e w'=>∃ r : Nat × Nat,e=.returned (aC (some r) (xs++b4 m).length)∧ah w (keys (bS 5 q (xs.map U8))) (bS 5 (some r) ((xs++b4 m).map U8)) w':=by
  generalize hS : keys (bS 5 q (xs.map U8))=S at hw ⊢
  refine enter (n:=9) Tryz.func56 rfl rfl rfl hw ?_
  repeat (first | refine JL.q (by first|(apply OQ.gZ;exact Tryz.underlying3;exact Tryz.underlying84;rfl)|(apply OQ.move;rfl)|(apply OQ.assign;rfl)) rfl ?_ | refine JC.seq ?_ | refine JC.region ?_ | refine JL.nil ?_ | refine JE.next ?_)
  refine JL.xh (M':=bS 5 q (xs.map U8)++[]) (by rw [List.append_nil];exact an.refl _) ?_
  refine JL.D7 (m:=BitVec.ofNat 64 m) (by decide) (by decide) hq (by omega) rfl rfl rfl rfl fun r=>?_
  rw [List.append_nil]
  repeat (first | refine JL.q (by (apply OQ.assign;rfl)) rfl ?_ | refine JL.nil ?_ | refine JE.next ?_)
  exact JC.ret (JE.aR rfl (RV.tmp rfl) fun w' hw=>⟨r,rfl,hw⟩)
theorem JL.LC {n : Nat} {w0 : World} {S : List Nat} {ops : Array Oper} {Q : Exit→Act→World→Prop} {l : List Oper} {E : Env} {M : List aG} {d : Nat} {ty : TypeId} {pos : String} {aft : Array Edge} {x1 x2 : Operand} {ats : Array TypeId} {q : Acc} {xs : Bk} {m : Nat} (hq : q=none→xs=[]) (hl : xs.length≤70000000000) (hm : m<9223372036854775808) (e1 : ev E x1=some (aC q xs.length)) (e2 : ev E x2=some (N m)) (hd : Nat.blt d n=true)
    (kk : ∀ r : Nat × Nat,JL Tryz.prog n w0 S ops Q l ((d,aC (some r) (xs++b4 m).length)::E) (bS 5 (some r) ((xs++b4 m).map U8)++M)) : JL Tryz.prog n w0 S ops Q (⟨some d,.call ⟨.value (.func 56),#[x1,x2],ats⟩,ty,pos,aft,none⟩::l) E (bS 5 q (xs.map U8)++M):=
  JL.HO (ι:=Nat × Nat) (xs:=[x1,x2]) (vs:=[aC q xs.length,N m]) (fun r=>aC (some r) (xs++b4 m).length) (fun r=>bS 5 (some r) ((xs++b4 m).map U8)) CM (by simp [m7,e1,e2]) hd (j5 _ _ _) (fun _=>j5 _ _ _)
    (fun w hw=>Ft q xs m hq hl hm w (hw.weak (dN _ _))) kk
theorem yf : aL Tryz.prog 36:=⟨_,Tryz.func36,rfl,by kernel_rfl⟩
set_option maxHeartbeats 8000000 in
theorem Bw (h : Hd) (hl : h.chain.length=32) (h1 : h.prev<9223372036854775808) (h2 : h.num<9223372036854775808) (w : World) :
    Calls Tryz.prog 36 [.agg (hdc h).toArray].toArray w fun e w'=>∃ x : Nat × Nat,e=.returned (.slice (some ⟨x.1,0,none⟩) 40 x.2)∧ah w [] [⟨x.1,Sl.aE 5 1 40 x.2 ((dH h).map U8),true⟩] w':=by
  have hL:=kf hl
  have hcl : (h.chain.map U8).length=32:=by rw [List.length_map];exact hl
  refine enter (n:=17) Tryz.func36 rfl rfl rfl (ah.start w []) ?_
  repeat (first | refine JC.seq ?_ | refine JC.region ?_)
  refine JL.box (r:=hdc h) rfl rfl rfl fun b1 _=>?_
  repeat (first | refine JL.q (by (apply OQ.assign;rfl)) rfl ?_ | refine JC.seq ?_ | refine JC.region ?_ | refine JL.nil ?_ | refine JE.next ?_)
  refine JL.DC (c:=40) Tryz.underlying27 tW rfl rfl (by decide) rfl fun b3 _=>?_
  repeat (first | refine JL.q (by first|(apply OQ.jZ;exact Tryz.underlying23;exact j6;rfl)|(apply OQ.move;rfl)|(apply OQ.assign;rfl)|(apply OQ.bM;rfl;rfl;rfl;exact (by decide);rfl)) rfl ?_ | refine JC.seq ?_ | refine JC.region ?_ | refine JL.nil ?_ | refine JE.next ?_)
  refine JL.append (cs:=h.chain.map U8) (m:=32) (fun b' cap'=>[⟨b',Sl.aE 5 1 (0+32) cap' ([]++h.chain.map U8),true⟩,⟨b1,Row 32 (hdc h),true⟩]) Tryz.underlying27 tW rfl rfl (by intro _ _;repeat (first | exact aZ.here | apply aZ.there)) hcl (fun w' hw'=>?_) (fun v hv=>List.all_eq_true.1 (dR h.chain) v hv) rfl (by decide) (by decide) (by decide) rfl fun b4' cap=>?_
  · obtain ⟨o,ho,hA⟩:=hw'.get (.there .here)
    exact Reads.block ho (Row.cells (eU hl) _ hA)
  rw [List.nil_append,Nat.zero_add]
  have hp : ∀ o,Row 32 (hdc h) o→cellAt o 32=some (N h.prev):=Row.cell (lJ hl)
  have hn : ∀ o,Row 32 (hdc h) o→cellAt o 33=some (N h.num):=Row.cell (ke hl)
  have ev1 : Value.slice (some ⟨b4',0,none⟩) 32 cap=aC (some (b4',cap)) h.chain.length:=by rw [hl];rfl
  rw [ev1]
  refine JL.xh (M':=bS 5 (some (b4',cap)) (h.chain.map U8)++[⟨b1,Row 32 (hdc h),true⟩]) (.keep _ _ _ _ _ _ (fun o ho=>by dsimp only;rw [hcl];exact ho) (an.refl _)) ?_
  have hH : ∀ xs : List Value,Has (bS 5 (some (b4',cap)) xs++[(⟨b1,Row 32 (hdc h),true⟩ : aG)]) b1 (Row 32 (hdc h)) true:=fun _=>.there .here
  repeat (first | refine JL.q (by first|(apply OQ.load;exact bB;rfl;exact (hH _);exact hp)|(apply OQ.move;rfl)|(apply OQ.assign;rfl)|(apply OQ.bM;rfl;rfl;rfl;exact (by decide);rfl)) rfl ?_ | refine JC.seq ?_ | refine JC.region ?_ | refine JL.nil ?_ | refine JE.next ?_)
  refine JL.LC (q:=some (b4',cap)) (xs:=h.chain) (m:=h.prev) nofun (by omega) h1 rfl rfl rfl fun r=>?_
  have hH2 : ∀ xs : List Value,Has (bS 5 (some r) xs++[(⟨b1,Row 32 (hdc h),true⟩ : aG)]) b1 (Row 32 (hdc h)) true:=fun _=>.there .here
  repeat (first | refine JL.q (by first|(apply OQ.load;exact bB;rfl;exact (hH2 _);exact hn)|(apply OQ.move;rfl)|(apply OQ.assign;rfl)|(apply OQ.bM;rfl;rfl;rfl;exact (by decide);rfl)) rfl ?_ | refine JC.seq ?_ | refine JC.region ?_ | refine JL.nil ?_ | refine JE.next ?_)
  refine JL.LC (q:=some r) (xs:=h.chain++b4 h.prev) (m:=h.num) nofun (by rw [List.length_append,rB];omega) h2 rfl rfl rfl fun r2=>?_
  have e2 : h.chain++b4 h.prev++b4 h.num=dH h:=rfl
  rw [e2]
  repeat (first | refine JL.q (by (apply OQ.assign;rfl)) rfl ?_ | refine JL.nil ?_ | refine JE.next ?_)
  refine JC.ret (JE.aR rfl (RV.tmp rfl) fun w' hw=>⟨r2,by rw [hL];rfl,hw.weak (.keep _ _ _ _ _ _ (fun o ho=>?_) (.nil _))⟩)
  rw [List.length_map,hL] at ho
  exact ho
end
end Go.Proofs.YtgkninhgcpbfnaaGreatDoor
