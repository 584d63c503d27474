/-
  Of no statement by itself: the texts RatT, RatY, RatU, RatCp, Slmp, Slmk, RatCa, RatCb, RatCe, RatV, RatZ, RatEf, RatEg, RatEi, RatEh in one.
  Conditions: each theorem's own.
-/
import Derived.Test.YtkfeolclllhfpaaDoorRd
import Derived.Laws.IdiomRangeMap
set_option linter.unusedSimpArgs false
set_option linter.unusedVariables false
namespace Go.Proofs.YtkfeolclllhfpaaDoor
section
set_option maxRecDepth 10000
open Sl ec gE cV gB
open iZ (Bk)
theorem zE (n : Nat) (h : n<18446744073709551616) : b4 n=[BitVec.ofNat 8 (n / 16777216),BitVec.ofNat 8 (n / 65536),BitVec.ofNat 8 (n / 256),BitVec.ofNat 8 n]:=by
  have e : ∀ k m,m=2 ^ k→((BitVec.ofNat 64 n) >>> k).setWidth 8=BitVec.ofNat 8 (n / m):=fun k m hm=>by
    apply BitVec.eq_of_toNat_eq
    rw [BitVec.toNat_setWidth,BitVec.toNat_ushiftRight,BitVec.toNat_ofNat,BitVec.toNat_ofNat,Nat.mod_eq_of_lt h,Nat.shiftRight_eq_div_pow,hm]
  have h0:=e 24 16777216 rfl
  have h1:=e 16 65536 rfl
  have h2:=e 8 256 rfl
  have h3:=e 0 1 rfl
  rw [Nat.div_one] at h3
  show [((BitVec.ofNat 64 n) >>> 24).setWidth 8,((BitVec.ofNat 64 n) >>> 16).setWidth 8,((BitVec.ofNat 64 n) >>> 8).setWidth 8,((BitVec.ofNat 64 n) >>> 0).setWidth 8]=_
  rw [h0,h1,h2,h3]
theorem xg : aR Tryd.prog 40:=⟨_,Tryd.func40,rfl,by kernel_rfl⟩
set_option maxHeartbeats 4000000 in
theorem zF (r : Nat × Nat) (xs : Bk) (m : Nat) (hl : xs.length≤70000000000) (hm : m<9223372036854775808) (w : World) (hw : ah w (keys (aZ 5 (some r) (xs.map U8))) (aZ 5 (some r) (xs.map U8)) w) :
    Calls Tryd.prog 40 [aA (some r) xs.length,N m].toArray w fun e w'=>∃ r' : Nat × Nat,e=.returned (aA (some r') (xs++b4 m).length)∧ah w (keys (aZ 5 (some r) (xs.map U8))) (aZ 5 (some r') ((xs++b4 m).map U8)) w':=by
  have hb:=zE m (by omega)
  have hb4:=eo m
  generalize hS : keys (aZ 5 (some r) (xs.map U8))=S at hw ⊢
  refine enter (n:=19) Tryd.func40 rfl rfl rfl hw ?_
  repeat (first | refine JL.q (by first|(apply OQ.tg (a:=m) (b:=16777216);rfl;rfl;exact (by decide);exact (by omega))|(apply OQ.tg (a:=m) (b:=65536);rfl;rfl;exact (by decide);exact (by omega))|(apply OQ.tg (a:=m) (b:=256);rfl;rfl;exact (by decide);exact (by omega))|(apply OQ.mP;exact Tryd.underlying3;exact Tryd.underlying5;rfl)|(apply OQ.move;rfl)|(apply OQ.assign;rfl)) rfl ?_ | refine JC.seq ?_ | refine JC.region ?_ | refine JL.nil ?_ | refine JE.next ?_)
  refine JL.CE (xs:=[.tmp 8,.tmp 11,.tmp 14,.tmp 16]) (vs:=(b4 m).map U8) Tryd.underlying27 qN rfl rfl (by rw [hb];rfl) (ee _) (by intro v hv;obtain ⟨q,_,rfl⟩:=List.mem_map.1 hv;rfl) (by rw [List.length_map,hb4]) (by decide) (by decide) rfl fun bl _=>?_
  refine JL.append (b:=r.1) (cap:=r.2) (k:=xs.length) (xs:=xs.map U8) (cs:=(b4 m).map U8) (m:=4) (fun b' cap'=>[⟨bl,Row 5 ((b4 m).map U8),true⟩,⟨b',Sl.cJ 5 1 (xs.length+4) cap' (xs.map U8++(b4 m).map U8),true⟩]) Tryd.underlying27 qN rfl rfl (fun b' cap'=>?_) (by rw [List.length_map,hb4]) (fun w' hw'=>?_) (fun v hv=>by obtain ⟨q,_,rfl⟩:=List.mem_map.1 hv;rfl) rfl (by decide) (by omega) (by omega) rfl fun b' cap'=>?_
  · show c9 (_::[⟨r.1,Sl.cJ 5 1 (xs.map U8).length r.2 (xs.map U8),true⟩]) _ _ _ _ _
    rw [List.length_map]
    exact .there .here
  · obtain ⟨o,ho,hA⟩:=hw'.get .here
    exact Reads.block ho (Row.all _ hA)
  repeat (first | refine JL.q (by (apply OQ.assign;rfl)) rfl ?_ | refine JL.nil ?_ | refine JE.next ?_)
  refine JC.ret (JE.aM rfl (RV.tmp rfl) fun w' hw=>⟨(b',cap'),by rw [List.length_append,hb4];rfl,?_⟩)
  show ah w S [⟨b',Sl.cJ 5 1 ((xs++b4 m).map U8).length cap' ((xs++b4 m).map U8),true⟩] w'
  rw [List.length_map,List.length_append,hb4,List.map_append]
  exact hw.weak (.drop _ _ _ (ax.refl _))
theorem JL.zG {n : Nat} {w0 : World} {S : List Nat} {ops : Array Oper} {Q : Exit→Act→World→Prop} {l : List Oper} {E : Env} {M : List aJ} {d : Nat} {ty : TypeId} {pos : String} {aft : Array Edge} {x1 x2 : Operand} {ats : Array TypeId} {q : Nat × Nat} {xs : Bk} {m : Nat} (hl : xs.length≤70000000000) (hm : m<9223372036854775808) (e1 : ev E x1=some (aA (some q) xs.length)) (e2 : ev E x2=some (N m)) (hd : Nat.blt d n=true)
    (kk : ∀ r : Nat × Nat,JL Tryd.prog n w0 S ops Q l ((d,aA (some r) (xs++b4 m).length)::E) (aZ 5 (some r) ((xs++b4 m).map U8)++M)) : JL Tryd.prog n w0 S ops Q (⟨some d,.call ⟨.value (.func 40),#[x1,x2],ats⟩,ty,pos,aft,none⟩::l) E (aZ 5 (some q) (xs.map U8)++M):=
  JL.xW (ι:=Nat × Nat) (xs:=[x1,x2]) (vs:=[aA (some q) xs.length,N m]) (fun r=>aA (some r) (xs++b4 m).length) (fun r=>aZ 5 (some r) ((xs++b4 m).map U8)) xg (by simp [kQ,e1,e2]) hd (eT _ _ _) (fun _=>eT _ _ _)
    (fun w hw=>zF q xs m hl hm w (hw.weak (fh _ _))) kk
theorem qD (r : Nat × Nat) (xs : List Value) (M : List aJ) : (aZ 5 (some r) xs++[])++M=aZ 5 (some r) xs++M:=by rw [List.append_nil]
structure HD (o : bC × Bk × Nat) where
  x : Acc
  xn : x=none→o.2.1=[]
end
section
open Sl
namespace gB
open iZ fF
structure iB where
  chain : Bk
  num : Int
  key : Bk
def mX (k : iB) : List Value:=k.chain.map U8++(I k.num::k.key.map U8)
structure iB.ok (k : iB) : Prop where
  c : k.chain.length=32
  k : k.key.length=32
theorem qE {k : iB} (h : k.ok) : (mX k).length=65:=by simp [mX,h.c,h.k]
theorem Bw (k : iB) : (mX k).all Value.oneCell'=true:=by simp [mX,Value.oneCell']
def lS (l : List iB) : List (List Value):=l.map mX
theorem sH (l : List iB) : (lS l).length=l.length:=List.length_map ..
theorem sI {l : List iB} (h : ∀ k ∈ l,k.ok) : ∀ c ∈ lS l,c.length=65:=by
  intro c hc
  obtain ⟨k,hk,rfl⟩:=List.mem_map.1 hc
  exact qE (h k hk)
def bR : iB:=⟨List.replicate 32 0,0,List.replicate 32 0⟩
theorem Bx (l : List iB) {i : Nat} (hi : i<l.length) : (lS l).getD i []=mX (l.getD i bR):=by
  simp [lS,List.getD_eq_getElem?_getD,hi]
structure fY where
  root : Bk
  own : Bk
  other : Bk
  ay : Bool
  takes : Bool
  send : Bk
  take : Bk
  sent : Int
  taken : Int
  prev : Int
  kept : List iB
structure fY.ok (s : fY) : Prop where
  root : s.root.length=32
  own : s.own.length=32
  other : s.other.length=32
  send : s.send.length=32
  take : s.take.length=32
  kept : ∀ k ∈ s.kept,k.ok
def dr (s : fY) (kv : Value) : List Value:=s.root.map U8++(s.own.map U8++(s.other.map U8++([.bool s.ay]++([.bool s.takes]++(s.send.map U8++(s.take.map U8++([I s.sent]++([I s.taken]++([I s.prev]++[kv])))))))))
theorem vV {s : fY} (h : s.ok) (kv : Value) : (dr s kv).length=166:=by simp [dr,h.root,h.own,h.other,h.send,h.take]
theorem lT {s : fY} (h : s.ok) (kv : Value) : ((dr s kv).drop 64).take (s.other.map U8).length=s.other.map U8:=by
  have:=mo (a:=(s.root.map U8++s.own.map U8)) (b:=s.other.map U8) (c:=[.bool s.ay]++([.bool s.takes]++(s.send.map U8++(s.take.map U8++([I s.sent]++([I s.taken]++([I s.prev]++([kv])))))))) (j:=64) (k:=32) (by simp [h.root,h.own,h.other,h.send,h.take]) (by simp [h.other])
  rw [List.length_map,h.other]
  simpa only [dr,List.append_assoc,List.nil_append] using this
theorem pE {s : fY} (h : s.ok) (kv : Value) : (dr s kv)[96]?=some (.bool s.ay):=by
  have:=xB (a:=s.root.map U8++s.own.map U8++s.other.map U8) (c:=[.bool s.takes]++(s.send.map U8++(s.take.map U8++([I s.sent]++([I s.taken]++([I s.prev]++([kv]))))))) (x:=.bool s.ay) (j:=96) (by simp [h.root,h.own,h.other,h.send,h.take])
  simpa only [dr,List.append_assoc] using this
theorem pF {s : fY} (h : s.ok) (kv : Value) : (dr s kv)[97]?=some (.bool s.takes):=by
  have:=xB (a:=s.root.map U8++s.own.map U8++s.other.map U8++[.bool s.ay]) (c:=s.send.map U8++(s.take.map U8++([I s.sent]++([I s.taken]++([I s.prev]++([kv])))))) (x:=.bool s.takes) (j:=97) (by simp [h.root,h.own,h.other,h.send,h.take])
  simpa only [dr,List.append_assoc] using this
theorem n9 {s : fY} (h : s.ok) (kv : Value) : ((dr s kv).drop 98).take (s.send.map U8).length=s.send.map U8:=by
  have:=mo (a:=(s.root.map U8++s.own.map U8++s.other.map U8++[.bool s.ay]++[.bool s.takes])) (b:=s.send.map U8) (c:=s.take.map U8++([I s.sent]++([I s.taken]++([I s.prev]++([kv]))))) (j:=98) (k:=32) (by simp [h.root,h.own,h.other,h.send,h.take]) (by simp [h.send])
  rw [List.length_map,h.send]
  simpa only [dr,List.append_assoc,List.nil_append] using this
theorem oa {s : fY} (h : s.ok) (kv : Value) : ((dr s kv).drop 130).take (s.take.map U8).length=s.take.map U8:=by
  have:=mo (a:=(s.root.map U8++s.own.map U8++s.other.map U8++[.bool s.ay]++[.bool s.takes]++s.send.map U8)) (b:=s.take.map U8) (c:=[I s.sent]++([I s.taken]++([I s.prev]++([kv])))) (j:=130) (k:=32) (by simp [h.root,h.own,h.other,h.send,h.take]) (by simp [h.take])
  rw [List.length_map,h.take]
  simpa only [dr,List.append_assoc,List.nil_append] using this
theorem sJ {s : fY} (h : s.ok) (kv : Value) : (dr s kv)[162]?=some (I s.sent):=by
  have:=xB (a:=s.root.map U8++s.own.map U8++s.other.map U8++[.bool s.ay]++[.bool s.takes]++s.send.map U8++s.take.map U8) (c:=[I s.taken]++([I s.prev]++([kv]))) (x:=I s.sent) (j:=162) (by simp [h.root,h.own,h.other,h.send,h.take])
  simpa only [dr,List.append_assoc] using this
theorem pG {s : fY} (h : s.ok) (kv : Value) : (dr s kv)[163]?=some (I s.taken):=by
  have:=xB (a:=s.root.map U8++s.own.map U8++s.other.map U8++[.bool s.ay]++[.bool s.takes]++s.send.map U8++s.take.map U8++[I s.sent]) (c:=[I s.prev]++([kv])) (x:=I s.taken) (j:=163) (by simp [h.root,h.own,h.other,h.send,h.take])
  simpa only [dr,List.append_assoc] using this
theorem sK {s : fY} (h : s.ok) (kv : Value) : (dr s kv)[164]?=some (I s.prev):=by
  have:=xB (a:=s.root.map U8++s.own.map U8++s.other.map U8++[.bool s.ay]++[.bool s.takes]++s.send.map U8++s.take.map U8++[I s.sent]++[I s.taken]) (c:=[kv]) (x:=I s.prev) (j:=164) (by simp [h.root,h.own,h.other,h.send,h.take])
  simpa only [dr,List.append_assoc] using this
theorem od {s : fY} (h : s.ok) (kv : Value) : (dr s kv)[165]?=some kv:=by
  have:=xB (a:=s.root.map U8++s.own.map U8++s.other.map U8++[.bool s.ay]++[.bool s.takes]++s.send.map U8++s.take.map U8++[I s.sent]++[I s.taken]++[I s.prev]) (c:=[]) (x:=kv) (j:=165) (by simp [h.root,h.own,h.other,h.send,h.take])
  simpa only [dr,List.append_assoc,List.append_nil] using this
def jF (a : Int) : Prop:=0≤a∧a≤2147483647
structure bw (s : fY) : Prop where
  sent : jF s.sent
  taken : jF s.taken
  prev : jF s.prev
  len : s.kept.length≤2000
  send : s.ay=false→s.send=bO
  take : s.takes=false→s.take=bO
  other : s.ay=false→s.takes=false→s.other=bO
  num : ∀ i,i<s.kept.length→jF (s.kept.getD i bR).num
  one : ∀ i,i<s.kept.length→∀ k,k<i→¬ ((s.kept.getD k bR).num=(s.kept.getD i bR).num∧(s.kept.getD k bR).chain=(s.kept.getD i bR).chain)
def iB.nat (k : iB) : Kp:=⟨k.chain,k.num.toNat,k.key⟩
def fY.nat (s : fY) : bC:=⟨s.root,s.own,s.other,s.ay,s.takes,s.send,s.take,s.sent.toNat,s.taken.toNat,s.prev.toNat,s.kept.map iB.nat⟩
theorem vW {a : Int} (h : jF a) : I a=N a.toNat:=by
  unfold I N
  rw [Int.toNat_of_nonneg h.1]
theorem iB.Fj {k : iB} (h : jF k.num) : mX k=c6 k.nat:=by
  unfold mX c6 iB.nat
  rw [vW h]
theorem fY.jG {s : fY} (h : s.ok) : s.nat.ok:=⟨h.root,h.own,h.other,h.send,h.take,fun x hx=>by
  obtain ⟨k,hk,rfl⟩:=List.mem_map.1 hx
  exact ⟨(h.kept k hk).c,(h.kept k hk).k⟩⟩
theorem bw.cells {s : fY} (h : bw s) (v : Value) : dr s v=sec s.nat v:=by
  unfold dr sec fY.nat
  dsimp only
  rw [vW h.sent,vW h.taken,vW h.prev]
theorem bw.kept {s : fY} (h : bw s) : lS s.kept=bS s.nat.kept:=by
  unfold lS bS fY.nat
  dsimp only
  rw [List.map_map]
  apply List.map_congr_left
  intro k hk
  obtain ⟨i,hi,rfl⟩:=List.mem_iff_getElem.1 hk
  have:=h.num i hi
  rw [List.getD_eq_getElem?_getD,List.getElem?_eq_getElem hi] at this
  exact iB.Fj this
theorem fY.qF (s : fY) : s.nat.kept.length=s.kept.length:=List.length_map ..
theorem bw.most {s : fY} (h : bw s) : s.nat.sent≤2147483647∧s.nat.taken≤2147483647∧s.nat.prev≤2147483647:=by
  have h1:=h.sent
  have h2:=h.taken
  have h3:=h.prev
  unfold jF at h1 h2 h3
  refine ⟨?_,?_,?_⟩
  · show s.sent.toNat≤_;omega
  · show s.taken.toNat≤_;omega
  · show s.prev.toNat≤_;omega
end gB
open gB
structure cZ where
  ad : Option Addr
  cap : Nat
  l : List iB
def cZ.v (s : cZ) : Value:=.slice s.ad s.l.length s.cap
structure cZ.ok (w : World) (s : cZ) : Prop where
  len : s.l.length≤s.cap
  reads : Reads w s.ad (lS s.l).flatten
  all : ∀ k ∈ s.l,k.ok
structure DO where
  s : fY
  k : cZ
def DO.v (a : DO) : Value:=.agg (dr a.s a.k.v).toArray
structure DO.ok (w : World) (a : DO) : Prop where
  s : a.s.ok
  e : a.k.l=a.s.kept
  k : a.k.ok w
end
section
set_option maxRecDepth 10000
open Sl ec gE cV gB
open iZ (Bk)
theorem cZ.ok.at {w : World} {s : cZ} (h : s.ok w) {i : Nat} (hi : i<s.l.length) : ∃ b j,s.ad=some ⟨b,j,none⟩∧b<w.heap.size∧∀ k u,(mX (s.l.getD i bR))[k]?=some u→w.cell? ⟨b,j+i * 65+k,none⟩=some u:=by
  have hl : (lS s.l).flatten.length=s.l.length * 65:=by rw [e6 (sI h.all),sH]
  have h0 : 0<(lS s.l).flatten.length:=by omega
  obtain ⟨b,j,e,hc⟩:=h.reads.at h0
  refine ⟨b,j,e,?_,fun k u hu=>?_⟩
  · obtain ⟨v,hv⟩ : ∃ v,(lS s.l).flatten[0]?=some v:=⟨_,List.getElem?_eq_getElem h0⟩
    exact block_lt_of_cell (hc 0 v hv)
  · have hat:=jZ (i:=i) (sI h.all) (by rw [sH];exact hi)
    rw [Bx _ hi] at hat
    rw [← hat,List.getElem?_take] at hu
    split at hu
    · rw [List.getElem?_drop] at hu
      rw [Nat.add_assoc]
      exact hc _ u hu
    · cases hu
theorem cZ.mem {s : cZ} {i : Nat} (hi : i<s.l.length) : s.l.getD i bR ∈ s.l:=by
  rw [List.getD_eq_getElem?_getD,List.getElem?_eq_getElem hi]
  exact List.getElem_mem hi
def cZ.nat (s : cZ) : fX:=⟨s.ad,s.cap,s.l.map iB.nat⟩
theorem cZ.zH (s : cZ) : s.nat.v=s.v:=by simp [cZ.nat,fX.v,cZ.v]
theorem cZ.jG {w : World} {s : cZ} (h : s.ok w) {t : fY} (ht : bw t) (hto : t.ok) (e : s.l=t.kept) : s.nat.ok w:=by
  refine ⟨by simpa [cZ.nat] using h.len,?_,?_⟩
  · have h1:=ht.kept
    have h2:=h.reads
    rw [e,h1] at h2
    show Reads w s.ad (bS (s.l.map iB.nat)).flatten
    rw [e]
    exact h2
  · show ∀ x ∈ s.l.map iB.nat,x.ok
    rw [e]
    exact (fY.jG hto).kept
theorem eJ (a : Int) : kD a=true↔jF a:=by simp [kD,jF]
theorem bZ : aR Tryd.prog 22:=⟨_,Tryd.func22,rfl,by kernel_rfl⟩
set_option maxHeartbeats 4000000 in
theorem kF (a : Int) (w : World) : Calls Tryd.prog 22 [I a].toArray w fun e w'=>e=.returned (.bool (kD a))∧Ext w w':=by
  refine enter (n:=9) Tryd.func22 rfl rfl rfl (ah.start w []) ?_
  unfold kD
  obtain ⟨c1,h1⟩ : ∃ c,decide ((0 : Int)≤a)=c:=⟨_,rfl⟩
  obtain ⟨c2,h2⟩ : ∃ c,decide (a≤2147483647)=c:=⟨_,rfl⟩
  rw [h1,h2]
  cases c1
  · repeat (first | refine JL.q (by first|(apply OQ.we (b:=0);rfl;rfl;exact h1)|(apply OQ.bG;rfl;rfl)|(apply OQ.move;rfl)|(apply OQ.assign;rfl)) rfl ?_ | refine JC.seq ?_ | refine JC.region ?_ | refine JL.nil ?_ | refine JE.next ?_ | refine JL.dJ rfl rfl rfl rfl ?_)
    exact JC.ret (JE.aM rfl (RV.tmp rfl) fun w' hw=>⟨rfl,hw.aH⟩)
  · repeat (first | refine JL.q (by first|(apply OQ.we (b:=0);rfl;rfl;exact h1)|(apply OQ.Av (b:=2147483647);rfl;rfl;exact h2)|(apply OQ.bV;rfl;rfl)|(apply OQ.move;rfl)|(apply OQ.assign;rfl)) rfl ?_ | refine JC.seq ?_ | refine JC.region ?_ | refine JL.nil ?_ | refine JE.next ?_ | refine JL.bn rfl rfl ?_)
    exact JC.ret (JE.aM rfl (RV.tmp rfl) fun w' hw=>⟨rfl,hw.aH⟩)
section
variable {n : Nat} {E : Env} {C : World→Prop} {dst : Option Tmp} {t t' ty : TypeId} {pos : String} {aft : Array Edge} {g : Option (Nat × Bool)} {x y : Operand}
theorem OQ.DP : OQ Tryd.prog n E C ⟨dst,.build 23 #[],ty,pos,aft,g⟩ (.agg (bO.map U8).toArray):=OQ.pure rfl rfl (by kernel_rfl)
theorem OQ.mL {r q : Bk} {c : Bool} (hr : r.length=32) (hq : q.length=32) (hx : ev E x=some (.agg (r.map U8).toArray)) (hy : ev E y=some (.agg (q.map U8).toArray)) (h : decide (r=q)=c) : OQ Tryd.prog n E C ⟨dst,.binOp .neq 23 x y t',ty,pos,aft,g⟩ (.bool (!c)):=
  h ▸ OQ.GC Tryd.underlying23 Tryd.underlying5 dH n6 hx hy hr hq
theorem OQ.Fk {r q : Bk} {c : Bool} (hr : r.length=32) (hq : q.length=32) (hx : ev E x=some (.agg (r.map U8).toArray)) (hy : ev E y=some (.agg (q.map U8).toArray)) (h : decide (r=q)=c) : OQ Tryd.prog n E C ⟨dst,.binOp .eql 23 x y t',ty,pos,aft,g⟩ (.bool c):=
  h ▸ OQ.G5 Tryd.underlying23 Tryd.underlying5 dH n6 hx hy hr hq
end
theorem xh {k : iB} (h : k.ok) : ((mX k).drop 0).take (k.chain.map U8).length=k.chain.map U8:=by simp [mX]
theorem qG {k : iB} (h : k.ok) : (mX k)[32]?=some (I k.num):=by simp [mX,h.c]
theorem fN : aR Tryd.prog 8:=⟨_,Tryd.func8,rfl,by kernel_rfl⟩
set_option maxHeartbeats 64000000 in
theorem jH (s : fY) (k : cZ) (hs : s.ok) (he : k.l=s.kept) (w : World) (hk : k.ok w) : Calls Tryd.prog 8 [.agg (dr s k.v).toArray].toArray w fun e w'=>∃ r : {b : Bool // b=true↔bw s},e=.returned (.bool r.1)∧Ext w w':=by
  have l3 : (s.other.map U8).length=32:=by rw [List.length_map];exact hs.other
  have l4 : (s.send.map U8).length=32:=by rw [List.length_map];exact hs.send
  have l5 : (s.take.map U8).length=32:=by rw [List.length_map];exact hs.take
  have hkp : ∀ o,Row 26 (dr s k.v) o→cellAt o 165=some k.v:=Row.cell (od hs _)
  have hsn : ∀ o,Row 26 (dr s k.v) o→cellAt o 162=some (I s.sent):=Row.cell (sJ hs _)
  have htk : ∀ o,Row 26 (dr s k.v) o→cellAt o 163=some (I s.taken):=Row.cell (pG hs _)
  have hpv : ∀ o,Row 26 (dr s k.v) o→cellAt o 164=some (I s.prev):=Row.cell (sK hs _)
  have c1:=fun w'=>kF s.sent w'
  have c2:=fun w'=>kF s.taken w'
  have c3:=fun w'=>kF s.prev w'
  have i1:=eJ s.sent
  have i2:=eJ s.taken
  have i3:=eJ s.prev
  refine enter (n:=111) Tryd.func8 rfl rfl rfl (ah.start w []) ?_
  repeat (first | refine JC.seq ?_ | refine JC.region ?_)
  refine JL.box (r:=dr s k.v) rfl rfl rfl fun b1 _=>?_
  obtain ⟨m1,hm1⟩ : ∃ m,kD s.sent=m:=⟨_,rfl⟩
  obtain ⟨m2,hm2⟩ : ∃ m,kD s.taken=m:=⟨_,rfl⟩
  obtain ⟨m3,hm3⟩ : ∃ m,kD s.prev=m:=⟨_,rfl⟩
  obtain ⟨m4,hm4⟩ : ∃ m,decide ((2000 : Int)<((k.l.length : Nat) : Int))=m:=⟨_,rfl⟩
  rw [hm1] at c1 i1
  rw [hm2] at c2 i2
  rw [hm3] at c3 i3
  cases m1
  case' true=>cases m2
  case' true.true=>cases m3
  case' true.true.true=>cases m4
  case false=>
    have hno : ¬ bw s:=fun h=>absurd (i1.2 h.sent) (by decide)
    repeat (first | refine JL.q (by first|(apply OQ.load;exact bg;rfl;exact .here;exact hsn)|(apply OQ.an (vs:=[I s.sent]);exact bZ;rfl;exact (fun w' _=>c1 w'))|(apply OQ.not;rfl)|(apply OQ.bV;rfl;rfl)|(apply OQ.move;rfl)|(apply OQ.assign;rfl)|(apply OQ.cw;rfl;rfl;rfl;exact (by decide);rfl)) rfl ?_ | refine JC.seq ?_ | refine JC.region ?_ | refine JL.nil ?_ | refine JE.next ?_ | refine JL.dJ rfl rfl rfl rfl ?_)
    refine JC.cond_true rfl rfl ?_
    repeat (first | refine JL.q (by (apply OQ.assign;rfl)) rfl ?_ | refine JC.seq ?_ | refine JC.region ?_ | refine JL.nil ?_ | refine JE.next ?_)
    refine JC.ret ?_
    repeat (refine JE.aN ?_)
    exact JE.aM rfl (RV.tmp rfl) fun w' hw=>⟨⟨false,⟨nofun,fun h=>absurd h hno⟩⟩,rfl,hw.aH⟩
  case true.false=>
    have hno : ¬ bw s:=fun h=>absurd (i2.2 h.taken) (by decide)
    repeat (first | refine JL.q (by first|(apply OQ.load;exact bg;rfl;exact .here;exact hsn)|(apply OQ.load;exact bg;rfl;exact .here;exact htk)|(apply OQ.an (vs:=[I s.sent]);exact bZ;rfl;exact (fun w' _=>c1 w'))|(apply OQ.an (vs:=[I s.taken]);exact bZ;rfl;exact (fun w' _=>c2 w'))|(apply OQ.not;rfl)|(apply OQ.bV;rfl;rfl)|(apply OQ.bG;rfl;rfl)|(apply OQ.move;rfl)|(apply OQ.assign;rfl)|(apply OQ.cw;rfl;rfl;rfl;exact (by decide);rfl)) rfl ?_ | refine JC.seq ?_ | refine JC.region ?_ | refine JL.nil ?_ | refine JE.next ?_ | refine JL.bn rfl rfl ?_ | refine JL.dJ rfl rfl rfl rfl ?_)
    refine JC.cond_true rfl rfl ?_
    repeat (first | refine JL.q (by (apply OQ.assign;rfl)) rfl ?_ | refine JC.seq ?_ | refine JC.region ?_ | refine JL.nil ?_ | refine JE.next ?_)
    refine JC.ret ?_
    repeat (refine JE.aN ?_)
    exact JE.aM rfl (RV.tmp rfl) fun w' hw=>⟨⟨false,⟨nofun,fun h=>absurd h hno⟩⟩,rfl,hw.aH⟩
  case true.true.false=>
    have hno : ¬ bw s:=fun h=>absurd (i3.2 h.prev) (by decide)
    repeat (first | refine JL.q (by first|(apply OQ.load;exact bg;rfl;exact .here;exact hsn)|(apply OQ.load;exact bg;rfl;exact .here;exact htk)|(apply OQ.load;exact bg;rfl;exact .here;exact hpv)|(apply OQ.an (vs:=[I s.sent]);exact bZ;rfl;exact (fun w' _=>c1 w'))|(apply OQ.an (vs:=[I s.taken]);exact bZ;rfl;exact (fun w' _=>c2 w'))|(apply OQ.an (vs:=[I s.prev]);exact bZ;rfl;exact (fun w' _=>c3 w'))|(apply OQ.not;rfl)|(apply OQ.bV;rfl;rfl)|(apply OQ.bG;rfl;rfl)|(apply OQ.move;rfl)|(apply OQ.assign;rfl)|(apply OQ.cw;rfl;rfl;rfl;exact (by decide);rfl)) rfl ?_ | refine JC.seq ?_ | refine JC.region ?_ | refine JL.nil ?_ | refine JE.next ?_ | refine JL.bn rfl rfl ?_ | refine JL.dJ rfl rfl rfl rfl ?_)
    refine JC.cond_true rfl rfl ?_
    repeat (first | refine JL.q (by (apply OQ.assign;rfl)) rfl ?_ | refine JC.seq ?_ | refine JC.region ?_ | refine JL.nil ?_ | refine JE.next ?_)
    refine JC.ret ?_
    repeat (refine JE.aN ?_)
    exact JE.aM rfl (RV.tmp rfl) fun w' hw=>⟨⟨false,⟨nofun,fun h=>absurd h hno⟩⟩,rfl,hw.aH⟩
  case true.true.true.true=>
    have hno : ¬ bw s:=fun h=>absurd h.len (by have:=of_decide_eq_true hm4;rw [he] at this;omega)
    repeat (first | refine JL.q (by first|(apply OQ.load;exact bg;rfl;exact .here;exact hsn)|(apply OQ.load;exact bg;rfl;exact .here;exact htk)|(apply OQ.load;exact bg;rfl;exact .here;exact hpv)|(apply OQ.load;exact ef;rfl;exact .here;exact hkp)|(apply OQ.len (k:=k.l.length) (ad:=k.ad) (cap:=k.cap);exact Tryd.underlying24;rfl)|(apply OQ.kU (b:=2000);rfl;rfl;exact hm4)|(apply OQ.an (vs:=[I s.sent]);exact bZ;rfl;exact (fun w' _=>c1 w'))|(apply OQ.an (vs:=[I s.taken]);exact bZ;rfl;exact (fun w' _=>c2 w'))|(apply OQ.an (vs:=[I s.prev]);exact bZ;rfl;exact (fun w' _=>c3 w'))|(apply OQ.not;rfl)|(apply OQ.bG;rfl;rfl)|(apply OQ.move;rfl)|(apply OQ.assign;rfl)|(apply OQ.cw;rfl;rfl;rfl;exact (by decide);rfl)) rfl ?_ | refine JC.seq ?_ | refine JC.region ?_ | refine JL.nil ?_ | refine JE.next ?_ | refine JL.bn rfl rfl ?_)
    refine JC.cond_true rfl rfl ?_
    repeat (first | refine JL.q (by (apply OQ.assign;rfl)) rfl ?_ | refine JC.seq ?_ | refine JC.region ?_ | refine JL.nil ?_ | refine JE.next ?_)
    refine JC.ret ?_
    repeat (refine JE.aN ?_)
    exact JE.aM rfl (RV.tmp rfl) fun w' hw=>⟨⟨false,⟨nofun,fun h=>absurd h hno⟩⟩,rfl,hw.aH⟩
  have r1:=i1.1 rfl
  have r2:=i2.1 rfl
  have r3:=i3.1 rfl
  have r4 : s.kept.length≤2000:=by have:=of_decide_eq_false hm4;rw [he] at this;omega
  repeat (first | refine JL.q (by first|(apply OQ.load;exact bg;rfl;exact .here;exact hsn)|(apply OQ.load;exact bg;rfl;exact .here;exact htk)|(apply OQ.load;exact bg;rfl;exact .here;exact hpv)|(apply OQ.load;exact ef;rfl;exact .here;exact hkp)|(apply OQ.len (k:=k.l.length) (ad:=k.ad) (cap:=k.cap);exact Tryd.underlying24;rfl)|(apply OQ.kU (b:=2000);rfl;rfl;exact hm4)|(apply OQ.an (vs:=[I s.sent]);exact bZ;rfl;exact (fun w' _=>c1 w'))|(apply OQ.an (vs:=[I s.taken]);exact bZ;rfl;exact (fun w' _=>c2 w'))|(apply OQ.an (vs:=[I s.prev]);exact bZ;rfl;exact (fun w' _=>c3 w'))|(apply OQ.not;rfl)|(apply OQ.bG;rfl;rfl)|(apply OQ.move;rfl)|(apply OQ.assign;rfl)|(apply OQ.cw;rfl;rfl;rfl;exact (by decide);rfl)) rfl ?_ | refine JC.seq ?_ | refine JC.region ?_ | refine JL.nil ?_ | refine JE.next ?_ | refine JL.bn rfl rfl ?_)
  refine JC.cond_false rfl rfl ?_
  refine JC.skip (JE.next ?_)
  obtain ⟨t1,ht1⟩ : ∃ t,s.ay=t:=⟨_,rfl⟩
  obtain ⟨t2,ht2⟩ : ∃ t,s.takes=t:=⟨_,rfl⟩
  obtain ⟨d1,hd1⟩ : ∃ d,decide (s.send=bO)=d:=⟨_,rfl⟩
  obtain ⟨d2,hd2⟩ : ∃ d,decide (s.take=bO)=d:=⟨_,rfl⟩
  obtain ⟨d3,hd3⟩ : ∃ d,decide (s.other=bO)=d:=⟨_,rfl⟩
  have hse : ∀ o,Row 26 (dr s k.v) o→cellAt o 96=some (.bool t1):=by rw [← ht1];exact Row.cell (pE hs _)
  have hta : ∀ o,Row 26 (dr s k.v) o→cellAt o 97=some (.bool t2):=by rw [← ht2];exact Row.cell (pF hs _)
  obtain ⟨zb,hzb⟩ : ∃ zb,((t1 || d1) && ((t2 || d2) && (t1 || (t2 || d3))))=zb:=⟨_,rfl⟩
  have hiff : zb=true↔((s.ay=false→s.send=bO)∧(s.takes=false→s.take=bO)∧(s.ay=false→s.takes=false→s.other=bO)):=by
    rw [← hzb,← ht1,← ht2,← hd1,← hd2,← hd3]
    cases s.ay <;> cases s.takes <;> simp
  cases zb
  · have hno : ¬ bw s:=fun h=>absurd (hiff.2 ⟨h.send,h.take,h.other⟩) (by decide)
    clear hiff
    cases t1 <;> cases t2 <;> cases d1 <;> cases d2 <;> cases d3
    all_goals first
      | (exact absurd hzb (by decide))
      | skip
    all_goals
      repeat (first | refine JL.q (by first|(apply OQ.load;exact cg;rfl;exact .here;exact hse)|(apply OQ.load;exact cg;rfl;exact .here;exact hta)|(apply OQ.af (cs:=s.send.map U8);exact bB;exact aO;rfl;exact .here;exact l4;exact (Row.cells (n9 hs _)))|(apply OQ.af (cs:=s.take.map U8);exact bB;exact aO;rfl;exact .here;exact l5;exact (Row.cells (oa hs _)))|(apply OQ.af (cs:=s.other.map U8);exact bB;exact aO;rfl;exact .here;exact l3;exact (Row.cells (lT hs _)))|(apply OQ.DP)|(apply OQ.mL (q:=bO);exact hs.send;rfl;rfl;rfl;exact hd1)|(apply OQ.mL (q:=bO);exact hs.take;rfl;rfl;rfl;exact hd2)|(apply OQ.mL (q:=bO);exact hs.other;rfl;rfl;rfl;exact hd3)|(apply OQ.not;rfl)|(apply OQ.bV;rfl;rfl)|(apply OQ.bG;rfl;rfl)|(apply OQ.move;rfl)|(apply OQ.cw;rfl;rfl;rfl;exact (by decide);rfl)) rfl ?_ | refine JC.seq ?_ | refine JC.region ?_ | refine JL.nil ?_ | refine JE.next ?_ | refine JL.bn rfl rfl ?_ | refine JL.dJ rfl rfl rfl rfl ?_ | refine JL.xQ rfl rfl rfl rfl ?_)
      refine JC.cond_true rfl rfl ?_
      repeat (first | refine JL.q (by (apply OQ.assign;rfl)) rfl ?_ | refine JC.seq ?_ | refine JC.region ?_ | refine JL.nil ?_ | refine JE.next ?_)
      refine JC.ret ?_
      repeat (refine JE.aN ?_)
      exact JE.aM rfl (RV.tmp rfl) fun w' hw=>⟨⟨false,⟨nofun,fun h=>absurd h hno⟩⟩,rfl,hw.aH⟩
  · have hz0:=hiff.1 rfl
    clear hiff
    refine JC.mid (ι:=Unit) (fun _=>[(1,Pt b1 0)]) (fun _=>[⟨b1,Row 26 (dr s k.v),true⟩]) (fun _=>True) ?_ ?_
    · cases t1 <;> cases t2 <;> cases d1 <;> cases d2 <;> cases d3
      all_goals first
        | (exact absurd hzb (by decide))
        | skip
      all_goals
        repeat (first | refine JL.q (by first|(apply OQ.load;exact cg;rfl;exact .here;exact hse)|(apply OQ.load;exact cg;rfl;exact .here;exact hta)|(apply OQ.af (cs:=s.send.map U8);exact bB;exact aO;rfl;exact .here;exact l4;exact (Row.cells (n9 hs _)))|(apply OQ.af (cs:=s.take.map U8);exact bB;exact aO;rfl;exact .here;exact l5;exact (Row.cells (oa hs _)))|(apply OQ.af (cs:=s.other.map U8);exact bB;exact aO;rfl;exact .here;exact l3;exact (Row.cells (lT hs _)))|(apply OQ.DP)|(apply OQ.mL (q:=bO);exact hs.send;rfl;rfl;rfl;exact hd1)|(apply OQ.mL (q:=bO);exact hs.take;rfl;rfl;rfl;exact hd2)|(apply OQ.mL (q:=bO);exact hs.other;rfl;rfl;rfl;exact hd3)|(apply OQ.not;rfl)|(apply OQ.bV;rfl;rfl)|(apply OQ.bG;rfl;rfl)|(apply OQ.move;rfl)|(apply OQ.cw;rfl;rfl;rfl;exact (by decide);rfl)) rfl ?_ | refine JC.seq ?_ | refine JC.region ?_ | refine JL.nil ?_ | refine JE.next ?_ | refine JL.bn rfl rfl ?_ | refine JL.dJ rfl rfl rfl rfl ?_)
        refine JC.cond_false rfl rfl ?_
        repeat (refine JC.skip ?_)
        exact JE.mid () trivial (by repeat (first | exact aj.nil | refine aj.cons _ _ _ rfl ?_)) (ax.refl _)
    rintro _ _
    repeat (first | refine JL.q (by (apply OQ.assign;rfl)) rfl ?_ | refine JC.seq ?_ | refine JC.region ?_ | refine JC.block ?_ | refine JL.nil ?_ | refine JE.next ?_)
    refine JC.loop (fun i : Nat=>[(1,Pt b1 0),(3,N i)]) (fun _=>[⟨b1,Row 26 (dr s k.v),true⟩]) (fun i=>k.l.length - i) (fun i=>i≤k.l.length∧∀ j,j<i→jF (k.l.getD j bR).num∧∀ k',k'<j→¬ ((k.l.getD k' bR).num=(k.l.getD j bR).num∧(k.l.getD k' bR).chain=(k.l.getD j bR).chain)) 0 ⟨Nat.zero_le _,fun j hj=>absurd hj (Nat.not_lt_zero _)⟩ (by repeat (first | exact aj.nil | refine aj.cons _ _ _ rfl ?_)) (ax.refl _) ?_
    rintro i ⟨hi,hin⟩
    repeat (first | refine JL.q (by first|(apply OQ.load;exact ef;rfl;exact .here;exact hkp)|(apply OQ.len (k:=k.l.length) (ad:=k.ad) (cap:=k.cap);exact Tryd.underlying24;rfl)|(apply OQ.cF (a:=i) (b:=k.l.length);rfl;rfl)|(apply OQ.move;rfl)|(apply OQ.cw;rfl;rfl;rfl;exact (by decide);rfl)) rfl ?_ | refine JC.seq ?_ | refine JC.region ?_ | refine JL.nil ?_ | refine JE.next ?_)
    refine JC.cond rfl (fun hc=>?_) (fun hc=>?_)
    · have hi' : i<k.l.length:=of_decide_eq_true hc
      clear hc
      obtain ⟨ba,ja,eA,la,cA⟩:=hk.at hi'
      have hok:=hk.all _ (cZ.mem hi')
      have vA : k.v=.slice (some ⟨ba,ja,none⟩) k.l.length k.cap:=by rw [← eA];rfl
      have hkp2 : ∀ o,Row 26 (dr s k.v) o→cellAt o 165=some (.slice (some ⟨ba,ja,none⟩) k.l.length k.cap):=by rw [← vA];exact hkp
      have cN:=cA 32 _ (qG hok)
      have cM:=fun w'=>kF (k.l.getD i bR).num w'
      have iM:=eJ (k.l.getD i bR).num
      have cC : ∀ m u,((k.l.getD i bR).chain.map U8)[m]?=some u→w.cell? ⟨ba,ja+i * 65+m,none⟩=some u:=fun m u hu=>by
        refine cA m u ?_
        have hm : m<((k.l.getD i bR).chain.map U8).length:=(List.getElem?_eq_some_iff.1 hu).1
        rw [mX,List.getElem?_append_left hm]
        exact hu
      have lC : ((k.l.getD i bR).chain.map U8).length=32:=by rw [List.length_map];exact hok.c
      obtain ⟨mm,hmm⟩ : ∃ m,kD (k.l.getD i bR).num=m:=⟨_,rfl⟩
      rw [hmm] at cM iM
      cases mm
      · have hno : ¬ bw s:=fun h=>by
          have:=h.num i (by rw [← he];exact hi')
          rw [← he] at this
          exact absurd (iM.2 this) (by decide)
        repeat (first | refine JL.q (by first|(apply OQ.load;exact ef;rfl;exact .here;exact hkp2)|(apply OQ.gw (i:=i) (len:=k.l.length) (cap:=k.cap) (b:=ba) (j:=ja);exact Tryd.underlying24;exact qz;rfl;rfl;exact hi')|(apply OQ.aL;exact bg;rfl;exact la;exact (by simp);exact cN)|(apply OQ.an (vs:=[I (k.l.getD i bR).num]);exact bZ;rfl;exact (fun w' _=>cM w'))|(apply OQ.not;rfl)|(apply OQ.move;rfl)|(apply OQ.cw;rfl;rfl;rfl;exact (by decide);rfl)) rfl ?_ | refine JC.seq ?_ | refine JC.region ?_ | refine JC.block ?_ | refine JC.skip ?_ | refine JL.nil ?_ | refine JE.next ?_)
        refine JC.cond_true rfl rfl ?_
        repeat (first | refine JL.q (by (apply OQ.assign;rfl)) rfl ?_ | refine JC.seq ?_ | refine JC.region ?_ | refine JL.nil ?_ | refine JE.next ?_)
        refine JC.ret ?_
        repeat (first | refine JE.aN ?_ | refine JE.jO ?_)
        exact JE.aM rfl (RV.tmp rfl) fun w' hw=>⟨⟨false,⟨nofun,fun h=>absurd h hno⟩⟩,rfl,hw.aH⟩
      have hmz:=iM.1 rfl
      repeat (first | refine JL.q (by first|(apply OQ.load;exact ef;rfl;exact .here;exact hkp2)|(apply OQ.gw (i:=i) (len:=k.l.length) (cap:=k.cap) (b:=ba) (j:=ja);exact Tryd.underlying24;exact qz;rfl;rfl;exact hi')|(apply OQ.aL;exact bg;rfl;exact la;exact (by simp);exact cN)|(apply OQ.an (vs:=[I (k.l.getD i bR).num]);exact bZ;rfl;exact (fun w' _=>cM w'))|(apply OQ.not;rfl)|(apply OQ.move;rfl)|(apply OQ.cw;rfl;rfl;rfl;exact (by decide);rfl)) rfl ?_ | refine JC.seq ?_ | refine JC.region ?_ | refine JC.block ?_ | refine JC.skip ?_ | refine JL.nil ?_ | refine JE.next ?_)
      refine JC.cond_false rfl rfl ?_
      repeat (first | refine JL.q (by (apply OQ.assign;rfl)) rfl ?_ | refine JC.seq ?_ | refine JC.region ?_ | refine JC.block ?_ | refine JC.skip ?_ | refine JL.nil ?_ | refine JE.next ?_)
      refine JC.loop (fun j : Nat=>[(1,Pt b1 0),(3,N i),(4,N j)]) (fun _=>[⟨b1,Row 26 (dr s k.v),true⟩]) (fun j=>i - j) (fun j=>j≤i∧∀ k',k'<j→¬ ((k.l.getD k' bR).num=(k.l.getD i bR).num∧(k.l.getD k' bR).chain=(k.l.getD i bR).chain)) 0 ⟨Nat.zero_le _,fun j hj=>absurd hj (Nat.not_lt_zero _)⟩ (by repeat (first | exact aj.nil | refine aj.cons _ _ _ rfl ?_)) (ax.refl _) ?_
      rintro j ⟨hj,hjn⟩
      repeat (first | refine JL.q (by first|(apply OQ.cF (a:=j) (b:=i);rfl;rfl)|(apply OQ.move;rfl)) rfl ?_ | refine JC.seq ?_ | refine JC.region ?_ | refine JL.nil ?_ | refine JE.next ?_)
      refine JC.cond rfl (fun hc=>?_) (fun hc=>?_)
      · have hj' : j<i:=of_decide_eq_true hc
        clear hc
        have hj2 : j<k.l.length:=by omega
        obtain ⟨bb,jb,eB,lb,cB⟩:=hk.at hj2
        have hokb:=hk.all _ (cZ.mem hj2)
        obtain ⟨rfl,rfl⟩ : bb=ba∧jb=ja:=by rw [eA] at eB;cases eB;exact ⟨rfl,rfl⟩
        have cNb:=cB 32 _ (qG hokb)
        have cCb : ∀ m u,((k.l.getD j bR).chain.map U8)[m]?=some u→w.cell? ⟨bb,jb+j * 65+m,none⟩=some u:=fun m u hu=>by
          refine cB m u ?_
          have hm : m<((k.l.getD j bR).chain.map U8).length:=(List.getElem?_eq_some_iff.1 hu).1
          rw [mX,List.getElem?_append_left hm]
          exact hu
        have lCb : ((k.l.getD j bR).chain.map U8).length=32:=by rw [List.length_map];exact hokb.c
        obtain ⟨e1,he1⟩ : ∃ e,decide ((k.l.getD j bR).num=(k.l.getD i bR).num)=e:=⟨_,rfl⟩
        obtain ⟨e2,he2⟩ : ∃ e,decide ((k.l.getD j bR).chain=(k.l.getD i bR).chain)=e:=⟨_,rfl⟩
        have hone : (e1 && e2)=true→¬ bw s:=fun h hr=>by
          rw [Bool.and_eq_true] at h
          obtain ⟨rfl,rfl⟩:=h
          have:=hr.one i (by rw [← he];exact hi') j hj'
          rw [← he] at this
          exact this ⟨of_decide_eq_true he1,of_decide_eq_true he2⟩
        have hnot : (e1 && e2)=false→¬ ((k.l.getD j bR).num=(k.l.getD i bR).num∧(k.l.getD j bR).chain=(k.l.getD i bR).chain):=fun h hr=>by
          rw [← he1,← he2,decide_eq_true hr.1,decide_eq_true hr.2] at h
          cases h
        generalize hnj : (k.l.getD j bR).num=nj at *
        generalize hcj : (k.l.getD j bR).chain=cj at *
        have hcl:=hokb.c
        rw [hcj] at hcl
        refine JC.skip (JE.next ?_)
        refine JC.seq (JC.block ?_)
        refine JC.seq ?_
        refine JC.quiet iV (by kernel_rfl) ?_
        cases e1
        case' true=>cases e2
        case true.true=>
          have hno:=hone rfl
          repeat (first | refine JQ.q (by first|(apply OQ.load;exact ef;rfl;exact .here;exact hkp2)|(apply OQ.gw (i:=j) (len:=k.l.length) (cap:=k.cap) (b:=bb) (j:=jb);exact Tryd.underlying24;exact qz;rfl;rfl;exact hj2)|(apply OQ.gw (i:=i) (len:=k.l.length) (cap:=k.cap) (b:=bb) (j:=jb);exact Tryd.underlying24;exact qz;rfl;rfl;exact hi')|(apply OQ.aL;exact bg;rfl;exact lb;exact (by simp);exact cNb)|(apply OQ.aL;exact bg;rfl;exact la;exact (by simp);exact cN)|(apply OQ.bJ (cs:=cj.map U8);exact bB;rfl;exact (lCb ▸ aO);exact lb;exact (by simp);exact cCb)|(apply OQ.bJ (cs:=(k.l.getD i bR).chain.map U8);exact bB;rfl;exact (lC ▸ aO);exact la;exact (by simp);exact cC)|(apply OQ.D9;rfl;rfl;exact he1)|(apply OQ.Fk;exact hcl;exact hok.c;rfl;rfl;exact he2)|(apply OQ.bV;rfl;rfl)|(apply OQ.move;rfl)|(apply OQ.cw;rfl;rfl;rfl;exact (by decide);rfl)) rfl ?_ | refine JQ.nil ?_ | refine JE.next ?_ | refine JQ.bn rfl rfl ?_)
          refine JC.cond_true rfl rfl ?_
          repeat (first | refine JL.q (by (apply OQ.assign;rfl)) rfl ?_ | refine JC.seq ?_ | refine JC.region ?_ | refine JL.nil ?_ | refine JE.next ?_)
          refine JC.ret ?_
          repeat (first | refine JE.aN ?_ | refine JE.jO ?_)
          exact JE.aM rfl (RV.tmp rfl) fun w' hw=>⟨⟨false,⟨nofun,fun h=>absurd h hno⟩⟩,rfl,hw.aH⟩
        all_goals
          have hn:=hnot rfl
          repeat (first | refine JQ.q (by first|(apply OQ.load;exact ef;rfl;exact .here;exact hkp2)|(apply OQ.gw (i:=j) (len:=k.l.length) (cap:=k.cap) (b:=bb) (j:=jb);exact Tryd.underlying24;exact qz;rfl;rfl;exact hj2)|(apply OQ.gw (i:=i) (len:=k.l.length) (cap:=k.cap) (b:=bb) (j:=jb);exact Tryd.underlying24;exact qz;rfl;rfl;exact hi')|(apply OQ.aL;exact bg;rfl;exact lb;exact (by simp);exact cNb)|(apply OQ.aL;exact bg;rfl;exact la;exact (by simp);exact cN)|(apply OQ.bJ (cs:=cj.map U8);exact bB;rfl;exact (lCb ▸ aO);exact lb;exact (by simp);exact cCb)|(apply OQ.bJ (cs:=(k.l.getD i bR).chain.map U8);exact bB;rfl;exact (lC ▸ aO);exact la;exact (by simp);exact cC)|(apply OQ.D9;rfl;rfl;exact he1)|(apply OQ.Fk;exact hcl;exact hok.c;rfl;rfl;exact he2)|(apply OQ.bV;rfl;rfl)|(apply OQ.bG;rfl;rfl)|(apply OQ.move;rfl)|(apply OQ.cw;rfl;rfl;rfl;exact (by decide);rfl)) rfl ?_ | refine JQ.nil ?_ | refine JE.next ?_ | refine JQ.bn rfl rfl ?_ | refine JQ.dJ rfl rfl rfl rfl ?_)
          refine JC.cond_false rfl rfl ?_
          repeat (first | refine JL.q (by first|(apply OQ.bH (a:=j) (b:=1);rfl;rfl;exact (by have hjx:=hj2;have hjr:=r4;rw [he] at hjx;omega))|(apply OQ.move;rfl)|(apply OQ.assign;rfl)) rfl ?_ | refine JC.region ?_ | refine JC.skip ?_ | refine JL.nil ?_ | refine JE.next ?_ | refine JE.az ?_)
          refine JE.again (i:=j) (j+1) ⟨by omega,fun k' hk'=>?_⟩ (by omega) (by repeat (first | exact aj.nil | refine aj.cons _ _ _ rfl ?_)) (ax.refl _)
          by_cases e : k'=j
          · rw [e]
            rw [hnj,hcj]
            exact hn
          · exact hjn k' (by omega)
      · have hj' : j=i:=by have:=of_decide_eq_false hc;omega
        subst hj'
        clear hc
        repeat (first | refine JL.q (by first|(apply OQ.bH (a:=j) (b:=1);rfl;rfl;exact (by have hjx:=hi';have hjr:=r4;rw [he] at hjx;omega))|(apply OQ.move;rfl)|(apply OQ.assign;rfl)) rfl ?_ | refine JC.region ?_ | refine JC.exit ?_ | refine JL.nil ?_ | refine JE.next ?_ | refine JE.az ?_ | refine JE.aB ?_ | refine JE.aG ?_)
        refine JE.again (i:=j) (j+1) ⟨hi',fun j2 hj2=>?_⟩ (by omega) (by repeat (first | exact aj.nil | refine aj.cons _ _ _ rfl ?_)) (ax.refl _)
        by_cases e : j2=j
        · subst e
          exact ⟨hmz,hjn⟩
        · exact hin j2 (by omega)
    · have hi' : i=k.l.length:=by have:=of_decide_eq_false hc;omega
      subst hi'
      clear hc
      have hyes : bw s:=⟨r1,r2,r3,r4,hz0.1,hz0.2.1,hz0.2.2,fun i hi=>by rw [← he] at hi ⊢;exact (hin i hi).1,fun i hi k' hk'=>by rw [← he] at hi ⊢;exact (hin i hi).2 k' hk'⟩
      repeat (first | refine JL.q (by (apply OQ.assign;rfl)) rfl ?_ | refine JC.seq ?_ | refine JC.region ?_ | refine JC.exit ?_ | refine JL.nil ?_ | refine JE.next ?_ | refine JE.aB ?_ | refine JE.aG ?_)
      refine JC.ret ?_
      skip
      exact JE.aM rfl (RV.tmp rfl) fun w' hw=>⟨⟨true,⟨fun _=>hyes,fun _=>rfl⟩⟩,rfl,hw.aH⟩
end
section
open Sl
namespace gB
open iZ fF
def Gs (s : bC) : Nat:=(if s.ay then 1 else 0)+(if s.takes then 2 else 0)
def pH (k : Kp) : Bk:=k.chain++b4 k.num++k.key
theorem Bz {k : Kp} (h : k.ok) : (pH k).length=68:=by simp [pH,h.c,h.k,eo]
def xj (l : List Kp) : Bk:=l.flatMap pH
theorem oe : ∀ {l : List Kp},(∀ k ∈ l,k.ok)→(xj l).length=l.length * 68
  | [],_=>rfl
  | k::l,h=>by
    have h1:=oe (l:=l) fun x hx=>h x (by simp [hx])
    have h2:=Bz (h k (by simp))
    unfold xj at h1 ⊢
    rw [List.flatMap_cons,List.length_append,h1,h2,List.length_cons]
    omega
def dG (s : bC) : Bk:=s.root++(s.own++(s.other++(s.send++s.take)))
def pI (s : bC) : Bk:=b4 s.sent++(b4 s.taken++(b4 s.prev++b4 s.kept.length))
def bI (s : bC) : Bk:=BitVec.ofNat 8 (Gs s)::(dG s++(pI s++xj s.kept))
theorem lU {s : bC} (h : s.ok) : (dG s).length=160:=by simp [dG,h.root,h.own,h.other,h.send,h.take]
theorem xk (s : bC) : (pI s).length=16:=by simp [pI,eo]
theorem pJ {s : bC} (h : s.ok) : (bI s).length=177+s.kept.length * 68:=by
  simp only [bI,List.length_cons,List.length_append,lU h,xk,oe h.kept]
  omega
def mid (b : Bk) (i k : Nat) : Bk:=(b.drop i).take k
theorem bU {b : Bk} {i k : Nat} (h : i+k≤b.length) : (mid b i k).length=k:=by
  unfold mid
  rw [List.length_take,List.length_drop]
  omega
def Ee (b : Bk) : Kp:=⟨mid b 0 32,bP (mid b 32 4),mid b 36 32⟩
def fE : Nat→Bk→List Kp
  | 0,_=>[]
  | n+1,b=>Ee b::fE n (b.drop 68)
theorem iC : ∀ (n : Nat) (b : Bk),(fE n b).length=n
  | 0,_=>rfl
  | n+1,b=>by rw [fE,List.length_cons,iC]
theorem DQ {b : Bk} (h : 68≤b.length) : (Ee b).ok:=⟨bU (by omega),bU (by omega)⟩
theorem mY : ∀ (n : Nat) (b : Bk),n * 68≤b.length→∀ k ∈ fE n b,k.ok
  | 0,_,_,_,hk=>by cases hk
  | n+1,b,h,k,hk=>by
    rcases List.mem_cons.1 hk with rfl | hk
    · exact DQ (by omega)
    · exact mY n (b.drop 68) (by rw [List.length_drop];omega) k hk
theorem lV : ∀ (n : Nat) (b : Bk),fE (n+1) b=fE n b++[Ee (b.drop (n * 68))]
  | 0,b=>by simp [fE]
  | n+1,b=>by
    rw [fE,lV n,fE,List.cons_append,List.drop_drop,show 68+n * 68=(n+1) * 68 by omega]
def di (b : Bk) (n : Nat) : bC:=
  ⟨mid b 1 32,mid b 33 32,mid b 65 32,decide ((b.getD 0 0).toNat % 2=1),decide ((b.getD 0 0).toNat / 2=1),mid b 97 32,mid b 129 32,bP (mid b 161 4),bP (mid b 165 4),bP (mid b 169 4),fE n (b.drop 177)⟩
theorem qH {b : Bk} {n : Nat} (h : b.length=177+n * 68) : (di b n).ok:=
  ⟨bU (by omega),bU (by omega),bU (by omega),bU (by omega),bU (by omega),mY n _ (by rw [List.length_drop];omega)⟩
theorem DR (a b c d : BitVec 8) : fF.bP [a,b,c,d]=16777216 * a.toNat+65536 * b.toNat+256 * c.toNat+d.toNat:=by
  simp only [fF.bP,List.foldl]
  omega
theorem kG {z : Bk} (h : z.length=4) : b4 (bP z)=z:=by
  match z,h with
  | [a,b,c,d],_=>
  have ha:=a.isLt
  have hb:=b.isLt
  have hc:=c.isLt
  have hd:=d.isLt
  rw [DR,b4]
  have e : ∀ k m (x : BitVec 8),m=2 ^ k→(16777216 * a.toNat+65536 * b.toNat+256 * c.toNat+d.toNat) / m % 256=x.toNat→((BitVec.ofNat 64 (16777216 * a.toNat+65536 * b.toNat+256 * c.toNat+d.toNat)) >>> k).setWidth 8=x:=fun k m x hm hx=>by
    apply BitVec.eq_of_toNat_eq
    have h64 : 16777216 * a.toNat+65536 * b.toNat+256 * c.toNat+d.toNat<2 ^ 64:=by omega
    rw [BitVec.toNat_setWidth,BitVec.toNat_ushiftRight,BitVec.toNat_ofNat,Nat.mod_eq_of_lt h64,Nat.shiftRight_eq_div_pow,← hm]
    exact hx
  have h0:=e 24 16777216 a rfl (by omega)
  have h1:=e 16 65536 b rfl (by omega)
  have h2:=e 8 256 c rfl (by omega)
  have h3:=e 0 1 d rfl (by omega)
  generalize BitVec.ofNat 64 (16777216 * a.toNat+65536 * b.toNat+256 * c.toNat+d.toNat)=z at h0 h1 h2 h3
  show [(z >>> 24).setWidth 8,(z >>> 16).setWidth 8,(z >>> 8).setWidth 8,(z >>> 0).setWidth 8]=_
  rw [h0,h1,h2,h3]
theorem dQ {b : Bk} {i k : Nat} (h : i+k≤b.length) : b.drop i=mid b i k++b.drop (i+k):=by
  unfold mid
  rw [← List.drop_drop,List.take_append_drop]
theorem sL : ∀ (n : Nat) (b : Bk),b.length=n * 68→xj (fE n b)=b
  | 0,b,h=>by
    have : b=[]:=List.length_eq_zero_iff.1 (by omega)
    subst this
    rfl
  | n+1,b,h=>by
    have h1:=sL n (b.drop 68) (by rw [List.length_drop];omega)
    unfold xj at h1 ⊢
    rw [fE,List.flatMap_cons,h1]
    have e0 : b=mid b 0 32++b.drop 32:=dQ (i:=0) (by omega)
    have e1:=dQ (b:=b) (i:=32) (k:=4) (by omega)
    have e2:=dQ (b:=b) (i:=36) (k:=32) (by omega)
    have e3 : b4 (bP (mid b 32 4))=mid b 32 4:=kG (bU (by omega))
    conv=>rhs;rw [e0,e1,e2]
    show mid b 0 32++b4 (bP (mid b 32 4))++mid b 36 32++b.drop 68=_
    rw [e3]
    simp only [List.append_assoc]
theorem xl {b : Bk} {n : Nat} (h : b.length=177+n * 68) (h0 : (b.getD 0 0).toNat≤3) (hn : bP (mid b 173 4)=n) : bI (di b n)=b:=by
  have hs : BitVec.ofNat 8 (Gs (di b n))=b.getD 0 0:=by
    apply BitVec.eq_of_toNat_eq
    rw [BitVec.toNat_ofNat]
    unfold Gs di
    generalize (b.getD 0 0).toNat=m at h0
    have hm : m=0∨m=1∨m=2∨m=3:=by omega
    rcases hm with rfl | rfl | rfl | rfl <;> rfl
  have hk : (di b n).kept.length=n:=iC _ _
  have hq : xj (di b n).kept=b.drop 177:=sL n (b.drop 177) (by rw [List.length_drop];omega)
  unfold bI pI dG
  rw [hs,hk,hq]
  have f1 : b4 (di b n).sent=mid b 161 4:=kG (bU (by omega))
  have f2 : b4 (di b n).taken=mid b 165 4:=kG (bU (by omega))
  have f3 : b4 (di b n).prev=mid b 169 4:=kG (bU (by omega))
  have f4 : b4 n=mid b 173 4:=by rw [← hn];exact kG (bU (by omega))
  rw [f1,f2,f3,f4]
  show b.getD 0 0::((mid b 1 32++(mid b 33 32++(mid b 65 32++(mid b 97 32++mid b 129 32))))++((mid b 161 4++(mid b 165 4++(mid b 169 4++mid b 173 4)))++b.drop 177))=b
  have g0 : b=b.getD 0 0::b.drop 1:=by
    match b,h with
    | [],h=>simp at h;omega
    | x::b,_=>rfl
  have g1:=dQ (b:=b) (i:=1) (k:=32) (by omega)
  have g2:=dQ (b:=b) (i:=33) (k:=32) (by omega)
  have g3:=dQ (b:=b) (i:=65) (k:=32) (by omega)
  have g4:=dQ (b:=b) (i:=97) (k:=32) (by omega)
  have g5:=dQ (b:=b) (i:=129) (k:=32) (by omega)
  have g6:=dQ (b:=b) (i:=161) (k:=4) (by omega)
  have g7:=dQ (b:=b) (i:=165) (k:=4) (by omega)
  have g8:=dQ (b:=b) (i:=169) (k:=4) (by omega)
  have g9:=dQ (b:=b) (i:=173) (k:=4) (by omega)
  conv=>rhs;rw [g0,g1,g2,g3,g4,g5,g6,g7,g8,g9]
  simp only [List.append_assoc]
def kH (b : Bk) : Bool:=decide (177≤b.length) && decide ((b.getD 0 0).toNat≤3) && decide (b.length=177+bP (mid b 173 4) * 68)
end gB
end
section
set_option maxRecDepth 10000
open Sl
structure ME (α : Type) where
  key : List Bt
  val : α
  born : Nat
def ME.en {α : Type} (f : α→Value) (e : ME α) : MapEntry:=⟨Z e.key,f e.val,e.born⟩
def MB {α : Type} (f : α→Value) (es : List (ME α)) (c : Nat) : Obj→Prop:=fun o=>o=.map (es.map (ME.en f)).toArray c
def IB (b : Nat) (since : Nat) (seen : List Nat) (last : Nat) : Obj→Prop:=fun o=>o=.mapIter (some b) since seen.toArray last
variable {α : Type}
def kI (k : List Bt) : List (ME α)→Nat→Option (Nat × α)
  | [],_=>none
  | e::es,i=>if k=e.key then some (i,e.val) else kI k es (i+1)
def look (es : List (ME α)) (k : List Bt) : Option α:=(kI k es 0).map Prod.snd
def sM (k : List Bt) (v : α) (c : Nat) : List (ME α)→List (ME α)
  | []=>[⟨k,v,c⟩]
  | e::es=>if k=e.key then ⟨k,v,e.born⟩::es else e::sM k v c es
def Fl (k : List Bt) (es : List (ME α)) (c : Nat) : Nat:=if (look es k).isSome then c else c+1
structure WF {α : Type} (es : List (ME α)) (c : Nat) : Prop where
  keys : (es.map ME.key).Nodup
  zI : (es.map ME.born).Nodup
  lt : ∀ e ∈ es,e.born<c
theorem zJ {l r : List Bt} (h : rz l=rz r) : l=r:=by rw [← jY l,h,jY]
theorem zK (l r : List Bt) : (rz l == rz r)=decide (l=r):=by
  show ((l.map UInt8.ofBitVec).toArray == (r.map UInt8.ofBitVec).toArray)=_
  by_cases h : l=r
  · subst h;simp
  · rw [decide_eq_false h]
    refine beq_eq_false_iff_ne.2 fun e=>h (zJ ?_)
    show (⟨(l.map UInt8.ofBitVec).toArray⟩ : ByteArray)=⟨(r.map UInt8.ofBitVec).toArray⟩
    rw [e]
theorem mE (f : α→Value) (k : List Bt) : ∀ (es : List (ME α)) (i : Nat),Instr.findNow .string (Z k) (es.map (ME.en f)) i=some ((kI k es i).map fun p=>(p.1,f p.2))
  | [],i=>rfl
  | e::es,i=>by
    rw [List.map_cons,Instr.findNow]
    have h : Instr.sameNow .string (Z k) (e.en f).key=some (decide (k=e.key)):=by
      show some (rz k == rz e.key)=_
      rw [zK]
    rw [h,kI]
    by_cases hk : k=e.key
    · rw [decide_eq_true hk,if_pos hk]
      rfl
    · rw [decide_eq_false hk,if_neg hk]
      exact mE f k es (i+1)
theorem og {k : List Bt} : ∀ {es : List (ME α)} {i : Nat},kI k es i=none↔k ∉ es.map ME.key
  | [],i=>by simp [kI]
  | e::es,i=>by
    rw [kI]
    by_cases h : k=e.key
    · rw [if_pos h];simp [h]
    · rw [if_neg h,og];simp [h]
theorem pK {es : List (ME α)} {k : List Bt} : look es k=none↔k ∉ es.map ME.key:=by
  unfold look
  rw [Option.map_eq_none_iff]
  exact og
theorem lW (k : List Bt) (v : α) (c : Nat) : ∀ (es : List (ME α)),(sM k v c es).map ME.key=if k ∈ es.map ME.key then es.map ME.key else es.map ME.key++[k]
  | []=>by simp [sM]
  | e::es=>by
    rw [sM]
    by_cases h : k=e.key
    · rw [if_pos h,if_pos (by simp [h])];simp [h]
    · rw [if_neg h,List.map_cons,lW k v c es]
      by_cases h2 : k ∈ es.map ME.key
      · rw [if_pos h2,if_pos (by simp only [List.map_cons,List.mem_cons];exact .inr h2)];rfl
      · rw [if_neg h2,if_neg (by simp only [List.map_cons,List.mem_cons,not_or];exact ⟨h,h2⟩)];rfl
theorem fq (k : List Bt) (v : α) (c : Nat) : ∀ (es : List (ME α)),(sM k v c es).map ME.born=if k ∈ es.map ME.key then es.map ME.born else es.map ME.born++[c]
  | []=>by simp [sM]
  | e::es=>by
    rw [sM]
    by_cases h : k=e.key
    · rw [if_pos h,if_pos (by simp [h])];simp
    · rw [if_neg h,List.map_cons,fq k v c es]
      by_cases h2 : k ∈ es.map ME.key
      · rw [if_pos h2,if_pos (by simp only [List.map_cons,List.mem_cons];exact .inr h2)];rfl
      · rw [if_neg h2,if_neg (by simp only [List.map_cons,List.mem_cons,not_or];exact ⟨h,h2⟩)];rfl
theorem WF.nil : WF ([] : List (ME α)) 0:=⟨.nil,.nil,nofun⟩
theorem WF.put {es : List (ME α)} {c : Nat} (h : WF es c) (k : List Bt) (v : α) : WF (sM k v c es) (Fl k es c):=by
  have hl : (look es k).isSome=decide (k ∈ es.map ME.key):=by
    by_cases hk : k ∈ es.map ME.key
    · rw [decide_eq_true hk]
      cases he : look es k with
      | none=>exact absurd hk (pK.1 he)
      | some v=>rfl
    · rw [decide_eq_false hk,pK.2 hk];rfl
  unfold Fl
  rw [hl]
  by_cases hk : k ∈ es.map ME.key
  · rw [decide_eq_true hk,if_pos rfl]
    refine ⟨by rw [lW,if_pos hk];exact h.keys,by rw [fq,if_pos hk];exact h.zI,fun e he=>?_⟩
    have:=List.mem_map_of_mem (f:=ME.born) he
    rw [fq,if_pos hk] at this
    obtain ⟨e',h1,h2⟩:=List.mem_map.1 this
    rw [← h2]
    exact h.lt e' h1
  · rw [decide_eq_false hk,if_neg (by simp)]
    refine ⟨?_,?_,fun e he=>?_⟩
    · rw [lW,if_neg hk]
      exact List.nodup_append.2 ⟨h.keys,by simp,fun a ha b hb e=>hk (by rw [List.mem_singleton.1 hb] at e;exact e ▸ ha)⟩
    · rw [fq,if_neg hk]
      refine List.nodup_append.2 ⟨h.zI,by simp,fun a ha b hb e=>?_⟩
      obtain ⟨e',h1,h2⟩:=List.mem_map.1 ha
      have:=h.lt e' h1
      rw [List.mem_singleton.1 hb] at e
      omega
    · have:=List.mem_map_of_mem (f:=ME.born) he
      rw [fq,if_neg hk,List.mem_append] at this
      rcases this with h1 | h1
      · obtain ⟨e',h1,h2⟩:=List.mem_map.1 h1
        have:=h.lt e' h1
        omega
      · rw [List.mem_singleton.1 h1];omega
section
variable {P : Program} {n : Nat} {w0 : World} {S : List Nat} {ops : Array Oper} {Q : Exit→Act→World→Prop} {l : List Oper} {E : Env} {M M' : List aJ}
variable {dst : Option Tmp} {d b r : Nat} {t t' k e ty : TypeId} {pos : String} {aft : Array Edge} {g : Option (Nat × Bool)} {x y z : Operand} {α : Type} {f : α→Value} {es : List (ME α)} {c : Nat} {key : List Bt} {v : α} {zv : Value} {wr : Bool}
theorem qI (em : Bool) (hk : P.underlying k=some .string) (w : World) : (Instr.checkKey em 10000 k (Z key)).run P w=.ok () w:=by
  have h1 : ∀ w,(underlying k).run P w=.ok .string w:=run_underlying hk
  rw [show (10000 : Nat)=9999+1 from rfl,Instr.checkKey]
  simp only [Sem.run_bind,h1,Result.andThen_ok,Sem.run_pure]
theorem sN (hk : P.underlying k=some .string) (w : World) : (Instr.findKey k (Z key) (es.map (ME.en f))).run P w=.ok ((kI key es 0).map fun p=>(p.1,f p.2)) w:=by
  simp [Instr.findKey,Sem.run_bind,run_underlying hk,mE]
theorem zL {w : World} (h : w.heap[b]?=some (.map (es.map (ME.en f)).toArray c)) : (getObj b).run P w=.ok (.map (es.map (ME.en f)).toArray c) w:=by
  simp [getObj,Sem.run,h]
def Cm (v : Option Value) (zv : Value) : Bool→Value
  | true=>.tuple #[v.getD zv,.bool v.isSome]
  | false=>v.getD zv
theorem uP {ok : Bool} (ht : P.underlying t=some (.map k e)) (hk : P.underlying k=some .string) (hz : ∀ w,(zeroValue e).run P w=.ok zv w) {w : World} (h : w.heap[b]?=some (.map (es.map (ME.en f)).toArray c)) :
    (Instr.lookup t (.map (some b)) (Z key) ok).run P w=.ok (Cm ((look es key).map f) zv ok) w:=by
  have h1 : ∀ w,(underlying t).run P w=.ok (.map k e) w:=run_underlying ht
  simp only [Instr.lookup,Sem.run_bind,h1,Result.andThen_ok,zL h,Sem.run_pure,qI _ hk,sN hk,List.toList_toArray]
  unfold look
  cases kI key es 0 with
  | none=>
    simp only [Option.map_none,Sem.run_bind,hz,Result.andThen_ok,Sem.run_pure]
    cases ok <;> rfl
  | some p=>
    simp only [Option.map_some,Sem.run_bind,Result.andThen_ok,Sem.run_pure]
    cases ok <;> rfl
theorem vX (hz : (P.info? e).bind (·.zero)=some zv) (w : World) : (zeroValue e).run P w=.ok zv w:=by
  cases hq : P.info? e with
  | none=>simp [hq] at hz
  | some i=>
    cases hi : i.zero with
    | none=>simp [hq,hi] at hz
    | some z=>
      simp [hq,hi] at hz
      simp [zeroValue,typeInfo,Sem.run_bind,hq,hi,hz]
theorem OQ.look {ok : Bool} (ht : P.underlying t=some (.map k e)) (hk : P.underlying k=some .string) (hz : (P.info? e).bind (·.zero)=some zv) (hx : ev E x=some (.map (some b))) (hy : ev E y=some (Z key)) (hM : Has M b (MB f es c) wr) :
    OQ P n E (ah w0 S M) ⟨dst,.lookup t x y ok,ty,pos,aft,g⟩ (Cm ((look es key).map f) zv ok):=
  OQ.run fun a ha w hw=>by
    have h1:=ha.eval hx
    have h2:=ha.eval hy
    obtain ⟨o,ho,rfl⟩:=hw.get hM
    simp [execOp,h1,h2,Sem.run_bind,uP (ok:=ok) ht hk (vX hz) ho]
theorem JL.makeMap (f : α→Value) {rs : Option Operand} (hrs : rs=none) (hd : Nat.blt d n=true)
    (kk : ∀ b,w0.heap.size≤b→JL P n w0 S ops Q l ((d,.map (some b))::E) (⟨b,MB f [] 0,true⟩::M)) : JL P n w0 S ops Q (⟨some d,.makeMap t rs,ty,pos,aft,none⟩::l) E M:=
  ⟨fun a w ha hw=>wpList_plain rfl fun K hK=>by
    subst hrs
    unfold Oper.wp
    simp only [execOp,Instr.makeMap,newObj,Sem.run_bind,Sem.run,Option.map_none,Sem.run_pure,Result.andThen_ok]
    exact hK _ _ ((kk w.heap.size hw.aH.size).go _ _ (ha.put d _ hd) (hw.push (.map #[] 0) rfl rfl rfl rfl rfl))⟩
theorem OQ.entry {seen : List Nat} {m : ME α} {wr' : Bool} (hf : WF es c) (hx : ev E x=some (Pt r 0)) (hb : Has M b (MB f es c) wr) (hi : Has M r (IB b c (seen++[m.born]) c) wr') (hm : m ∈ es) :
    OQ P n E (ah w0 S M) ⟨dst,.entry x,ty,pos,aft,g⟩ (.tuple #[Z m.key,f m.val]):=
  OQ.run fun a ha w hw=>by
    have h1:=ha.eval hx
    obtain ⟨o,ho,rfl⟩:=hw.get hb
    obtain ⟨o2,ho2,rfl⟩:=hw.get hi
    have hg : (getObj r).run P w=.ok (.mapIter (some b) c (seen++[m.born]).toArray c) w:=by simp [getObj,Sem.run,ho2]
    have hfd : (es.map (ME.en f)).toArray.find? (·.born == (m.en f).born)=some (m.en f):=by
      rw [← Array.find?_toList]
      exact find_born (m.en f) (es.map (ME.en f)) (by rw [List.map_map];exact hf.zI) (List.mem_map_of_mem hm)
    have hbk : (seen++[m.born]).toArray.back?=some (m.en f).born:=by simp [ME.en]
    simp only [execOp,h1,Instr.entry,Sem.run_bind,hg,Result.andThen_ok,hbk,zL ho,bne_self_eq_false,Bool.false_eq_true,if_false,hfd,Sem.run_pure]
    rfl
end
end
section
set_option maxRecDepth 10000
open Sl
structure MK (κ : Type) where
  key : κ
  val : Value
  born : Nat
def MK.en {κ : Type} (f : κ→Value) (e : MK κ) : MapEntry:=⟨f e.key,e.val,e.born⟩
def Cn {κ : Type} (f : κ→Value) (es : List (MK κ)) (c : Nat) : Obj→Prop:=fun o=>o=.map (es.map (MK.en f)).toArray c
def fO {κ : Type} [DecidableEq κ] (a : κ) : List (MK κ)→Nat→Option (Nat × Value)
  | [],_=>none
  | e::es,i=>if a=e.key then some (i,e.val) else fO a es (i+1)
theorem jI {κ : Type} [DecidableEq κ] {a : κ} : ∀ {es : List (MK κ)} {i : Nat},fO a es i=none↔a ∉ es.map MK.key
  | [],i=>by simp [fO]
  | e::es,i=>by
    rw [fO]
    by_cases h : a=e.key
    · rw [if_pos h];simp [h]
    · rw [if_neg h,jI];simp [h]
structure pL (P : Program) (k : TypeId) {κ : Type} [DecidableEq κ] (f : κ→Value) (I : κ→Prop) : Prop where
  GZ : ∀ em w a,I a→(Instr.checkKey em 10000 k (f a)).run P w=.ok () w
  Hv : ∃ td,P.underlying k=some td∧∀ a b,Instr.sameNow td (f a) (f b)=none
  eq : ∀ w a b,I a→I b→(Op.equal k (f a) (f b)).run P w=.ok (decide (a=b)) w
section
variable {P : Program} {n : Nat} {w0 : World} {S : List Nat} {ops : Array Oper} {Q : Exit→Act→World→Prop} {l : List Oper} {E : Env} {M M' : List aJ}
variable {dst : Option Tmp} {d b r : Nat} {t t' k e ty : TypeId} {pos : String} {aft : Array Edge} {g : Option (Nat × Bool)} {x y z : Operand} {κ : Type} [DecidableEq κ] {f : κ→Value} {I : κ→Prop} {es : List (MK κ)} {c : Nat} {key : κ} {v : Value} {zv : Value} {wr : Bool}
theorem iE (h : pL P k f I) (hk : I key) (w : World) : ∀ (es : List (MK κ)) (i : Nat),(∀ e ∈ es,I e.key)→(Instr.findAsking k (f key) (es.map (MK.en f)) i).run P w=.ok (fO key es i) w
  | [],i,_=>by simp [Instr.findAsking,fO]
  | e::es,i,ha=>by
    rw [List.map_cons,Instr.findAsking]
    have h1:=h.eq w key e.key hk (ha e (by simp))
    have h2:=iE h hk w es (i+1) (fun x hx=>ha x (by simp [hx]))
    have h3 : (e.en f).key=f e.key:=rfl
    simp only [Sem.run_bind,h3,h1,Result.andThen_ok,fO]
    by_cases hq : key=e.key
    · rw [decide_eq_true hq,if_pos hq]
      simp [MK.en]
    · rw [decide_eq_false hq,if_neg hq]
      simpa using h2
theorem sO (h : pL P k f I) (hk : I key) (he : ∀ e ∈ es,I e.key) (w : World) : (Instr.findKey k (f key) (es.map (MK.en f))).run P w=.ok (fO key es 0) w:=by
  obtain ⟨td,hu,hs⟩:=h.Hv
  have hr:=iE h hk w es 0 he
  cases es with
  | nil=>simp [Instr.findKey,Sem.run_bind,run_underlying hu,Instr.findNow,fO]
  | cons e0 es=>
    have hn : Instr.findNow td (f key) ((e0::es).map (MK.en f)) 0=none:=by
      rw [List.map_cons,Instr.findNow]
      have : Instr.sameNow td (f key) (e0.en f).key=none:=hs key e0.key
      rw [this]
    simp only [Instr.findKey,Sem.run_bind,run_underlying hu,Result.andThen_ok,hn,hr]
omit [DecidableEq κ] in
theorem vY {w : World} (h : w.heap[b]?=some (.map (es.map (MK.en f)).toArray c)) : (getObj b).run P w=.ok (.map (es.map (MK.en f)).toArray c) w:=by
  simp [getObj,Sem.run,h]
def sP (q : Option (Nat × Value)) (zv : Value) : Value:=.tuple #[(q.map Prod.snd).getD zv,.bool q.isSome]
theorem sQ (ht : P.underlying t=some (.map k e)) (h : pL P k f I) (hk : I key) (he : ∀ e ∈ es,I e.key) (hz : ∀ w,(zeroValue e).run P w=.ok zv w) {w : World} (ho : w.heap[b]?=some (.map (es.map (MK.en f)).toArray c)) :
    (Instr.lookup t (.map (some b)) (f key) true).run P w=.ok (sP (fO key es 0) zv) w:=by
  have h1 : ∀ w,(underlying t).run P w=.ok (.map k e) w:=run_underlying ht
  simp only [Instr.lookup,Sem.run_bind,h1,Result.andThen_ok,vY ho,Sem.run_pure,h.GZ _ _ key hk,sO h hk he,List.toList_toArray]
  cases fO key es 0 with
  | none=>simp only [Sem.run_bind,hz,Result.andThen_ok,Sem.run_pure];rfl
  | some p=>simp only [Sem.run_bind,Result.andThen_ok,Sem.run_pure];rfl
theorem OQ.sP (h : pL P k f I) (hk : I key) (he : ∀ e ∈ es,I e.key) (ht : P.underlying t=some (.map k e)) (hz : (P.info? e).bind (·.zero)=some zv) (hx : ev E x=some (.map (some b))) (hy : ev E y=some (f key)) (hM : Has M b (Cn f es c) wr) :
    OQ P n E (ah w0 S M) ⟨dst,.lookup t x y true,ty,pos,aft,g⟩ (sP (fO key es 0) zv):=
  OQ.run fun a ha w hw=>by
    have h1:=ha.eval hx
    have h2:=ha.eval hy
    obtain ⟨o,ho,rfl⟩:=hw.get hM
    simp [execOp,h1,h2,Sem.run_bind,sQ ht h hk he (vX hz) ho]
omit [DecidableEq κ] in
theorem JL.zM (f : κ→Value) {rs : Option Operand} (hrs : rs=none) (hd : Nat.blt d n=true)
    (kk : ∀ b,w0.heap.size≤b→JL P n w0 S ops Q l ((d,.map (some b))::E) (⟨b,Cn f [] 0,true⟩::M)) : JL P n w0 S ops Q (⟨some d,.makeMap t rs,ty,pos,aft,none⟩::l) E M:=
  ⟨fun a w ha hw=>wpList_plain rfl fun K hK=>by
    subst hrs
    unfold Oper.wp
    simp only [execOp,Instr.makeMap,newObj,Sem.run_bind,Sem.run,Option.map_none,Sem.run_pure,Result.andThen_ok]
    exact hK _ _ ((kk w.heap.size hw.aH.size).go _ _ (ha.put d _ hd) (hw.push (.map #[] 0) rfl rfl rfl rfl rfl))⟩
theorem JL.BA (h : pL P k f I) (hk : I key) (he : ∀ e ∈ es,I e.key) (hn : fO key es 0=none) (ht : P.underlying t=some (.map k e)) (hx : ev E x=some (.map (some b))) (hy : ev E y=some (f key)) (hz : ev E z=some v)
    (hu : fy M b (Cn f es c) (Cn f (es++[⟨key,v,c⟩]) (c+1)) M')
    (kk : JL P n w0 S ops Q l E M') : JL P n w0 S ops Q (⟨none,.mapUpdate t x y z,ty,pos,aft,none⟩::l) E M:=
  ⟨fun a w ha hw=>wpList_plain rfl fun K hK=>by
    obtain ⟨o,ho,rfl⟩:=hw.get hu.has
    have hlt:=(Array.getElem?_eq_some_iff.1 ho).1
    have h1 : ∀ w,(underlying t).run P w=.ok (.map k e) w:=run_underlying ht
    have hs : ∀ o',(setObj b o').run P w=.ok () { w with heap:=w.heap.setIfInBounds b o' }:=fun o'=>by simp [setObj,Sem.run,ho]
    have hrun : (Instr.mapUpdate t (.map (some b)) (f key) v).run P w=.ok () { w with heap:=w.heap.setIfInBounds b (.map ((es++[(⟨key,v,c⟩ : MK κ)]).map (MK.en f)).toArray (c+1)) }:=by
      simp only [Instr.mapUpdate,Sem.run_bind,h1,Result.andThen_ok,vY ho,h.GZ _ _ key hk,sO h hk he,List.toList_toArray,hn,hs]
      simp [MK.en]
    unfold Oper.wp
    simp only [execOp,ha.eval hx,ha.eval hy,ha.eval hz,Sem.run_bind,hrun,Result.andThen_ok]
    refine hK _ _ (kk.go _ _ (ha.m5 _) (hw.write hu (o':=.map ((es++[(⟨key,v,c⟩ : MK κ)]).map (MK.en f)).toArray (c+1)) rfl ?_ ?_ ?_ rfl rfl rfl))
    · simp [hlt]
    · simp
    · intro k hk
      simp [Array.getElem?_setIfInBounds,Ne.symm hk]⟩
end
end
section
set_option maxRecDepth 10000
open Sl ec gE cV gB
open iZ (Bk)
theorem Gt : Tryd.prog.underlying 137=some (.struct (Tryd.prog.fieldsOf 137)):=by kernel_rfl
theorem DS : Tryd.prog.stoodInHeld 137=false:=by kernel_rfl
def DT (P : Program) (t a b : TypeId) : Bool:=match (P.fieldsOf t).toList with
  | [f0,f1]=>f0.type == a && f1.type == b && f0.offset == 0 && f1.offset == 32 && f0.name != "_" && f1.name != "_"
  | _=>false
theorem zN {P : Program} {t a b : TypeId} (h : DT P t a b=true) : ∃ f0 f1,(P.fieldsOf t).toList=[f0,f1]∧f0.type=a∧f1.type=b∧f0.offset=0∧f1.offset=32∧¬ f0.name = "_" ∧ ¬ f1.name = "_" := by
  unfold DT at h
  split at h
  · next f0 f1 e=>
    simp only [Bool.and_eq_true,beq_iff_eq,bne_iff_ne,ne_eq] at h
    obtain ⟨⟨⟨⟨⟨h1,h2⟩,h3⟩,h4⟩,h5⟩,h6⟩:=h
    exact ⟨f0,f1,e,h1,h2,h3,h4,h5,h6⟩
  · cases h
def kP (p : Bk × Int) : List Value:=p.1.map U8++[I p.2]
def zO (p : Bk × Int) : Value:=.agg (kP p).toArray
def Co (p : Bk × Int) : Prop:=p.1.length=32
theorem BC {p : Bk × Int} (h : Co p) : ((kP p).drop 0).take 32=p.1.map U8:=by
  have : (p.1.map U8).length=32:=by rw [List.length_map];exact h
  rw [List.drop_zero,kP,← this,List.take_left]
theorem BD {p : Bk × Int} (h : Co p) : (kP p)[32]?=some (I p.2):=by
  have : (p.1.map U8).length=32:=by rw [List.length_map];exact h
  rw [kP,List.getElem?_append_right (by omega),this]
  rfl
theorem zP {p : Bk × Int} (h : Co p) (w : World) : (Go.part 23 (kP p).toArray 0).run Tryd.prog w=.ok (.agg (p.1.map U8).toArray) w:=by
  have:=BC h
  simp [Go.part,fZ bB,aE aO]
  simpa using this
theorem zQ {p : Bk × Int} (h : Co p) (w : World) : (Go.part 3 (kP p).toArray 32).run Tryd.prog w=.ok (I p.2) w:=by
  have:=BD h
  simp [Go.part,isAgg,run_underlying Tryd.underlying3,this]
theorem DU (a b : Bk) (w : World) (d : Nat) (ha : a.length=32) (hb : b.length=32) : (Op.equalIn (d+2) 23 (.agg (a.map U8).toArray) (.agg (b.map U8).toArray)).run Tryd.prog w=.ok (decide (a=b)) w:=by
  rw [jU,jU,run_equalIn_bytes w d 23 5 32 Tryd.underlying23 Tryd.underlying5 (fun w=>aE dH w) _ _ (by simpa using ha) (by simpa using hb)]
  congr 1
  by_cases h : a=b
  · subst h;simp
  · rw [decide_eq_false h]
    refine beq_eq_false_iff_ne.2 fun e=>h ?_
    have:=congrArg (List.map UInt8.toBitVec) e
    simpa [Function.comp_def] using this
theorem DV (em : Bool) (n : Nat) (v : Value) (w : World) : (Instr.checkKey em (n+1) 5 v).run Tryd.prog w=.ok () w:=by
  rw [Instr.checkKey]
  simp only [Sem.run_bind,run_underlying Tryd.underlying5,Result.andThen_ok,Sem.run_pure]
theorem BE (em : Bool) (n : Nat) (v : Value) (w : World) : (Instr.checkKey em (n+1) 3 v).run Tryd.prog w=.ok () w:=by
  rw [Instr.checkKey]
  simp only [Sem.run_bind,run_underlying Tryd.underlying3,Result.andThen_ok,Sem.run_pure]
theorem BF (em : Bool) (n : Nat) (c : Bk) (hc : c.length=32) (w : World) : (Instr.checkKey em (n+2) 23 (.agg (c.map U8).toArray)).run Tryd.prog w=.ok () w:=by
  rw [show n+2=(n+1)+1 from rfl,Instr.checkKey]
  simp only [Sem.run_bind,run_underlying Tryd.underlying23,Result.andThen_ok]
  simp only [Std.Legacy.Range.forIn_eq_forIn_range',Std.Legacy.Range.size,Nat.sub_zero,Nat.add_one_sub_one,Nat.div_one]
  have each : ∀ i ∈ List.range' 0 32,i<32:=fun i hi=>by
    have:=List.mem_range'.1 hi
    omega
  generalize List.range' 0 32=is at each
  induction is with
  | nil=>simp
  | cons j is ih=>
    have hj:=each j (by simp)
    have hcj : c[j]?=some (c.getD j 0):=by rw [List.getD_eq_getElem?_getD,List.getElem?_eq_getElem (by omega)];rfl
    generalize c.getD j 0=cj at hcj
    have p1 : (Go.part 5 (c.map U8).toArray (j * 1)).run Tryd.prog w=.ok (U8 cj) w:=by
      simp [Go.part,isAgg,run_underlying Tryd.underlying5,hcj]
    simp only [List.forIn_cons,Sem.run_bind,aE dH,Result.andThen_ok,p1,DV,Sem.run_pure]
    exact ih fun y hy=>each y (by simp [hy])
theorem DW : pL Tryd.prog 137 zO Co:=by
  obtain ⟨f0,f1,hf,t0,t1,o0,o1,b0,b1⟩:=zN (show DT Tryd.prog 137 23 3=true by kernel_rfl)
  refine ⟨fun em w a ha=>?_,⟨_,Gt,fun a b=>rfl⟩,fun w a b ha hb=>?_⟩
  · rw [show (10000 : Nat)=9999+1 from rfl,zO,Instr.checkKey]
    simp only [Sem.run_bind,run_underlying Gt,Result.andThen_ok]
    rw [← Array.forIn_toList,hf]
    have c0:=fun w=>BF em 9997 a.1 ha w
    have c1:=fun w=>BE em 9998 (I a.2) w
    simp only [List.forIn_cons,List.forIn_nil,Sem.run_bind,t0,t1,o0,o1,b0,b1,ne_eq,not_false_eq_true,if_true,Result.andThen_ok,zP ha,zQ ha,c0,c1,Sem.run_pure]
  · have q0:=fun w=>DU a.1 b.1 w 9997 ha hb
    have q1:=fun w=>run_equalIn_int (P:=Tryd.prog) w 9998 3 .i64 .i64 a.2 b.2 Tryd.underlying3
    show (Op.equalIn 10000 137 (zO a) (zO b)).run Tryd.prog w=_
    rw [show (10000 : Nat)=9999+1 from rfl,zO,zO,run_equalIn_struct w 9999 137 _ _ Gt DS,hf]
    have e : (decide (a.1=b.1) && (a.2 == b.2))=decide (a=b):=by
      obtain ⟨a1,a2⟩:=a
      obtain ⟨b1,b2⟩:=b
      by_cases h1 : a1=b1 <;> by_cases h2 : a2=b2 <;> simp [h1,h2]
    rw [← e]
    simp [Op.eqFields,t0,t1,o0,o1,b0,b1,zP ha,zP hb,zQ ha,zQ hb,q0,q1]
    by_cases h1 : a.1=b.1 <;> by_cases h2 : a.2=b.2 <;> simp [h1,h2]
end
section
set_option maxRecDepth 10000
open Sl ec gE cV gB
open iZ (Bk)
theorem Fx : dm Tryd.prog 137=some 33:=by kernel_rfl
theorem Gu : ei Tryd.prog 137=true:=by kernel_rfl
theorem Hw : zc Tryd.prog 137=some (kP (bO,0)):=by kernel_rfl
theorem BG {p : Bk × Int} (h : Co p) : (kP p).length=33:=by simp [kP,show p.1.length=32 from h]
theorem BH (p : Bk × Int) : (kP p).all Value.oneCell'=true:=by simp [kP,Value.oneCell']
theorem zR (c : Bk) (m : Int) (hc : c.length=32) : Tryd.prog.built 137 ([0,1].zip [.agg (c.map U8).toArray,I m])=some (kP (c,m)).toArray:=by
  have h : Tryd.prog.built 137 ([0,1].zip [.agg (c.map U8).toArray,I m])=Instr.fill (fun i=>#[(0,32),(32,1)][i]?) (kP (bO,0)).toArray [(0,.agg (c.map U8).toArray),(1,I m)]:=by kernel_rfl
  rw [h,aQ (off:=0) (sz:=32) (cs:=c.map U8) rfl rfl (by simp [hc]) (by simp [kP,bO]),aQ (off:=32) (sz:=1) (cs:=[I m]) rfl rfl rfl (by simp [kP,bO,hc])]
  have h1:=jv (a:=c.map U8) (b:=[I 0]) (c:=[]) (j:=32) (k:=1) [I m] (by simp [hc]) rfl
  have h3 : ((kP (bO,0)).take 0++c.map U8++(kP (bO,0)).drop (0+32))=c.map U8++([I 0]++[]):=rfl
  rw [h3]
  show some _=some _
  rw [h1]
  rfl
def kN (k : iB) : Bk × Int:=(k.chain,k.num)
structure kJ (l : List iB) : Prop where
  num : ∀ i,i<l.length→jF (l.getD i bR).num
  one : ∀ i,i<l.length→∀ k,k<i→kN (l.getD k bR)≠kN (l.getD i bR)
structure Rk where
  i : Nat
  es : List (MK (Bk × Int))
theorem uQ : aR Tryd.prog 65:=⟨_,Tryd.func65,rfl,by kernel_rfl⟩
set_option maxHeartbeats 16000000 in
theorem xo (k : cZ) (hl : k.l.length≤2000) (w : World) (hk : k.ok w) : Calls Tryd.prog 65 [k.v].toArray w fun e w'=>∃ r : {b : Bool // b=true↔kJ k.l},e=.returned (.bool r.1)∧Ext w w':=by
  refine enter (n:=39) Tryd.func65 rfl rfl rfl (ah.start w []) ?_
  repeat (first | refine JL.q (by (apply OQ.assign;rfl)) rfl ?_ | refine JC.seq ?_ | refine JC.region ?_ | refine JL.nil ?_ | refine JE.next ?_)
  refine JL.zM zO rfl rfl fun bm _=>?_
  repeat (first | refine JL.q (by first|(apply OQ.len (k:=k.l.length) (ad:=k.ad) (cap:=k.cap);exact Tryd.underlying24;rfl)|(apply OQ.move;rfl)|(apply OQ.assign;rfl)) rfl ?_ | refine JC.seq ?_ | refine JC.region ?_ | refine JC.block ?_ | refine JL.nil ?_ | refine JE.next ?_)
  refine JC.loop (fun s : Rk=>[(0,k.v),(3,.map (some bm)),(10,k.v),(11,N k.l.length),(12,N s.i)]) (fun s=>[⟨bm,Cn zO s.es s.i,true⟩]) (fun s=>k.l.length - s.i) (fun s=>s.i≤k.l.length∧s.es.map MK.key=(k.l.take s.i).map kN∧(∀ j,j<s.i→jF (k.l.getD j bR).num∧∀ j2,j2<j→kN (k.l.getD j2 bR)≠kN (k.l.getD j bR))) ⟨0,[]⟩ ⟨Nat.zero_le _,rfl,fun j hj=>absurd hj (Nat.not_lt_zero _)⟩ (by repeat (first | exact aj.nil | refine aj.cons _ _ _ rfl ?_)) (ax.refl _) ?_
  rintro ⟨i,es⟩ ⟨hi,hes,hin⟩
  dsimp only at hi hes hin ⊢
  repeat (first | refine JL.q (by (apply OQ.cF;rfl;rfl)) rfl ?_ | refine JC.seq ?_ | refine JC.region ?_ | refine JL.nil ?_ | refine JE.next ?_)
  refine JC.cond rfl (fun hc=>?_) (fun hc=>?_)
  · have hi' : i<k.l.length:=of_decide_eq_true hc
    clear hc
    obtain ⟨ba,ja,eA,la,cA⟩:=hk.at hi'
    have hok:=hk.all _ (cZ.mem hi')
    have htk : (k.l.take (i+1)).map kN=(k.l.take i).map kN++[kN (k.l.getD i bR)]:=by
      rw [List.take_succ_eq_append_getElem hi',List.map_append,List.getD_eq_getElem?_getD,List.getElem?_eq_getElem hi']
      rfl
    have hmem : kN (k.l.getD i bR) ∈ (k.l.take i).map kN↔∃ j,j<i∧kN (k.l.getD j bR)=kN (k.l.getD i bR):=by
      constructor
      · intro h
        obtain ⟨x,hx,e⟩:=List.mem_map.1 h
        obtain ⟨j,hj,rfl⟩:=List.mem_iff_getElem.1 hx
        rw [List.length_take] at hj
        refine ⟨j,by omega,?_⟩
        rw [← e,List.getElem_take,List.getD_eq_getElem?_getD,List.getElem?_eq_getElem (by omega)]
        rfl
      · rintro ⟨j,hj,e⟩
        rw [← e]
        refine List.mem_map_of_mem ?_
        rw [List.getD_eq_getElem?_getD,List.getElem?_eq_getElem (by omega)]
        exact List.mem_take_iff_getElem.2 ⟨j,by omega,rfl⟩
    have hkv : k.v=.slice (some ⟨ba,ja,none⟩) k.l.length k.cap:=by rw [← eA];rfl
    obtain ⟨x,hx⟩ : ∃ x,k.l.getD i bR=x:=⟨_,rfl⟩
    rw [hx] at cA hok htk hmem
    have h65:=qE hok
    have hch : ∀ o,Row 57 (mX x) o→aY o 0 (x.chain.map U8):=fun o ho=>by
      have:=Row.cells (j:=0) (cs:=x.chain.map U8) (xh hok) o ho
      exact this
    have hnm : ∀ o,Row 57 (mX x) o→cellAt o 32=some (I x.num):=Row.cell (qG hok)
    have l3 : (x.chain.map U8).length=32:=by rw [List.length_map];exact hok.c
    have hpi : Co (kN x):=hok.c
    have hpl:=BG hpi
    have hesI : ∀ e ∈ es,Co e.key:=fun e he=>by
      have : e.key ∈ (k.l.take i).map kN:=by rw [← hes];exact List.mem_map_of_mem he
      obtain ⟨y,hy,e2⟩:=List.mem_map.1 this
      rw [← e2]
      exact (hk.all y (List.mem_of_mem_take hy)).c
    rw [hkv]
    repeat (first | refine JL.q (by first|(apply OQ.gw (i:=i);exact Tryd.underlying24;exact qz;rfl;rfl;exact hi')|(apply OQ.bJ (cs:=mX x);exact Fv;rfl;exact (h65 ▸ qz);exact la;exact (by simp);exact cA)|(apply OQ.move;rfl)) rfl ?_ | refine JC.seq ?_ | refine JC.region ?_ | refine JC.block ?_ | refine JC.skip ?_ | refine JE.next ?_)
    refine JL.alloc GX rfl fun b5 _=>?_
    repeat (refine JL.q (by (apply OQ.assign;rfl)) rfl ?_)
    refine JL.ag (cs:=mX x) qz rfl rfl h65 (Bw x) .here rfl ?_
    rw [← hkv]
    repeat (first | refine JL.q (by first|(apply OQ.af (cs:=x.chain.map U8);exact bB;exact aO;rfl;exact .here;exact l3;exact hch)|(apply OQ.load;exact bg;rfl;exact .here;exact hnm)|(apply OQ.cw;rfl;rfl;rfl;exact (by decide);rfl)) rfl ?_ | refine JC.seq ?_ | refine JC.region ?_ | refine JL.nil ?_ | refine JE.next ?_)
    refine JL.q (OQ.dZ (cs:=kP (kN x)) [0,1] [.tmp 18,.tmp 20] (vs:=[.agg (x.chain.map U8).toArray,I x.num]) rfl rfl (zR x.chain x.num hok.c)) rfl ?_
    refine JL.alloc Hw rfl fun b6 _=>?_
    refine JL.ag (cs:=kP (kN x)) Fx rfl rfl hpl (BH _) .here rfl ?_
    have hHm : Has [(⟨b6,Row 137 (kP (kN x)),true⟩ : aJ),⟨b5,Row 57 (mX x),true⟩,⟨bm,Cn zO es i,true⟩] bm (Cn zO es i) true:=.there (.there .here)
    have hH5 : Has [(⟨b6,Row 137 (kP (kN x)),true⟩ : aJ),⟨b5,Row 57 (mX x),true⟩,⟨bm,Cn zO es i,true⟩] b5 (Row 57 (mX x)) true:=.there .here
    have cM:=fun w'=>kE x.num w'
    have iM:=eJ x.num
    have hno : ∀ {b : Bool},¬ kJ k.l→(false=true↔kJ k.l):=fun h=>⟨nofun,fun h2=>absurd h2 h⟩
    cases hf : fO (kN x) es 0 with
    | some p=>
      have hdup : ¬ kJ k.l:=fun h=>by
        have : kN x ∈ es.map MK.key:=by
          cases hq : decide (kN x ∈ es.map MK.key)
          · have h9:=(jI (i:=0)).2 (of_decide_eq_false hq)
            rw [h9] at hf
            cases hf
          · exact of_decide_eq_true hq
        rw [hes] at this
        obtain ⟨j,hj,e⟩:=hmem.1 this
        have:=h.one i hi' j hj
        rw [hx] at this
        exact this e
      repeat (first | refine JL.q (by first|(apply OQ.af (cs:=kP (kN x));exact Gu;exact Fx;rfl;exact .here;exact hpl;exact Row.all)|(apply OQ.sP (key:=kN x) (zv:=N 0);exact DW;exact hpi;exact hesI;exact Tryd.underlying135;exact (by kernel_rfl);rfl;rfl;exact hHm)|(apply OQ.move;rfl)) rfl ?_ | refine JC.seq ?_ | refine JC.region ?_ | refine JL.nil ?_ | refine JE.next ?_)
      rw [hf]
      repeat (first | refine JL.q (by first|(apply OQ.extract;rfl;rfl)|(apply OQ.bV;rfl;rfl)|(apply OQ.move;rfl)|(apply OQ.assign;rfl)) rfl ?_ | refine JC.seq ?_ | refine JC.region ?_ | refine JL.nil ?_ | refine JE.next ?_ | refine JL.dJ rfl rfl rfl rfl ?_)
      refine JC.cond_true rfl rfl ?_
      repeat (first | refine JL.q (by (apply OQ.assign;rfl)) rfl ?_ | refine JC.seq ?_ | refine JC.region ?_ | refine JL.nil ?_ | refine JE.next ?_)
      refine JC.ret ?_
      repeat (first | refine JE.aN ?_ | refine JE.jO ?_)
      exact JE.aM rfl (RV.tmp rfl) fun w' hw=>⟨⟨false,⟨nofun,fun h=>absurd h hdup⟩⟩,rfl,hw.aH⟩
    | none=>
      repeat (first | refine JL.q (by first|(apply OQ.af (cs:=kP (kN x));exact Gu;exact Fx;rfl;exact .here;exact hpl;exact Row.all)|(apply OQ.sP (key:=kN x) (zv:=N 0);exact DW;exact hpi;exact hesI;exact Tryd.underlying135;exact (by kernel_rfl);rfl;rfl;exact hHm)|(apply OQ.move;rfl)) rfl ?_ | refine JC.seq ?_ | refine JC.region ?_ | refine JL.nil ?_ | refine JE.next ?_)
      rw [hf]
      obtain ⟨m,hm⟩ : ∃ m,kD x.num=m:=⟨_,rfl⟩
      rw [hm] at cM iM
      cases m
      · have hbad : ¬ kJ k.l:=fun h=>by
          have:=h.num i hi'
          rw [hx] at this
          exact absurd (iM.2 this) (by decide)
        repeat (first | refine JL.q (by first|(apply OQ.extract;rfl;rfl)|(apply OQ.load;exact bg;rfl;exact hH5;exact hnm)|(apply OQ.an (vs:=[I x.num]);exact cX;rfl;exact (fun w' _=>cM w'))|(apply OQ.not;rfl)|(apply OQ.bG;rfl;rfl)|(apply OQ.move;rfl)|(apply OQ.assign;rfl)|(apply OQ.cw;rfl;rfl;rfl;exact (by decide);rfl)) rfl ?_ | refine JC.seq ?_ | refine JC.region ?_ | refine JL.nil ?_ | refine JE.next ?_ | refine JL.bn rfl rfl ?_)
        refine JC.cond_true rfl rfl ?_
        repeat (first | refine JL.q (by (apply OQ.assign;rfl)) rfl ?_ | refine JC.seq ?_ | refine JC.region ?_ | refine JL.nil ?_ | refine JE.next ?_)
        refine JC.ret ?_
        repeat (first | refine JE.aN ?_ | refine JE.jO ?_)
        exact JE.aM rfl (RV.tmp rfl) fun w' hw=>⟨⟨false,⟨nofun,fun h=>absurd h hbad⟩⟩,rfl,hw.aH⟩
      · repeat (first | refine JL.q (by first|(apply OQ.extract;rfl;rfl)|(apply OQ.load;exact bg;rfl;exact hH5;exact hnm)|(apply OQ.an (vs:=[I x.num]);exact cX;rfl;exact (fun w' _=>cM w'))|(apply OQ.not;rfl)|(apply OQ.bG;rfl;rfl)|(apply OQ.move;rfl)|(apply OQ.assign;rfl)|(apply OQ.cw;rfl;rfl;rfl;exact (by decide);rfl)) rfl ?_ | refine JC.seq ?_ | refine JC.region ?_ | refine JL.nil ?_ | refine JE.next ?_ | refine JL.bn rfl rfl ?_)
        refine JC.cond_false rfl rfl ?_
        repeat (first | refine JL.q (by first|(apply OQ.af (cs:=kP (kN x));exact Gu;exact Fx;rfl;exact .here;exact hpl;exact Row.all)|(apply OQ.move;rfl)) rfl ?_ | refine JC.region ?_ | refine JC.skip ?_ | refine JE.next ?_)
        refine JL.BA (key:=kN x) (v:=N i) DW hpi hesI hf Tryd.underlying135 rfl rfl rfl (.there (.there .here)) ?_
        repeat (first | refine JL.q (by first|(apply OQ.move;rfl)|(apply OQ.bH;rfl;rfl;exact (by (try simp only []);omega))) rfl ?_ | refine JC.region ?_ | refine JL.nil ?_ | refine JE.next ?_ | refine JE.az ?_)
        refine JE.again (i:=Rk.mk i es) ⟨i+1,es++[⟨kN x,N i,i⟩]⟩ ⟨hi',?_,fun j hj=>?_⟩ (by dsimp only;omega) (by repeat (first | exact aj.nil | refine aj.cons _ _ _ rfl ?_)) (.drop _ _ _ (.drop _ _ _ (ax.refl _)))
        · rw [List.map_append,hes,htk]
          rfl
        · have hj : j<i+1:=hj
          by_cases e : j=i
          · subst e
            rw [hx]
            refine ⟨iM.1 rfl,fun j2 hj2 e2=>?_⟩
            have:=(jI (i:=0)).1 hf
            rw [hes] at this
            exact this (hmem.2 ⟨j2,hj2,e2⟩)
          · exact hin j (by omega)
  · have h9 : ¬ i<k.l.length:=of_decide_eq_false hc
    have hi' : i=k.l.length:=by omega
    subst hi'
    have hyes : kJ k.l:=⟨fun j hj=>(hin j hj).1,fun j hj j2 hj2=>(hin j hj).2 j2 hj2⟩
    repeat (first | refine JL.q (by (apply OQ.assign;rfl)) rfl ?_ | refine JC.seq ?_ | refine JC.region ?_ | refine JC.exit ?_ | refine JL.nil ?_ | refine JE.next ?_ | refine JE.aB ?_ | refine JE.aG ?_)
    refine JC.ret ?_
    skip
    exact JE.aM rfl (RV.tmp rfl) fun w' hw=>⟨⟨true,⟨fun _=>hyes,fun _=>rfl⟩⟩,rfl,hw.aH⟩
theorem cZ.ok.gK {w0 w : World} {S : List Nat} {M : List aJ} {s : cZ} (h : s.ok w0) (hw : ah w0 S M w) (hS : S=[]) : s.ok w:=⟨h.len,hw.reads h.reads (fun _ a _=>by rw [hS];simp),h.all⟩
theorem uR {s : fY} (h : bw s) : kJ s.kept:=⟨h.num,fun i hi k hk e=>h.one i hi k hk ⟨congrArg Prod.snd e,congrArg Prod.fst e⟩⟩
theorem iS : aR Tryd.prog 37:=⟨_,Tryd.func37,rfl,by kernel_rfl⟩
set_option maxHeartbeats 64000000 in
theorem jJ (s : fY) (k : cZ) (hs : s.ok) (he : k.l=s.kept) (w : World) (hk : k.ok w) : Calls Tryd.prog 37 [.agg (dr s k.v).toArray].toArray w fun e w'=>∃ r : {b : Bool // b=true↔bw s},e=.returned (.bool r.1)∧Ext w w':=by
  have l3 : (s.other.map U8).length=32:=by rw [List.length_map];exact hs.other
  have l4 : (s.send.map U8).length=32:=by rw [List.length_map];exact hs.send
  have l5 : (s.take.map U8).length=32:=by rw [List.length_map];exact hs.take
  have hkp : ∀ o,Row 26 (dr s k.v) o→cellAt o 165=some k.v:=Row.cell (od hs _)
  have hsn : ∀ o,Row 26 (dr s k.v) o→cellAt o 162=some (I s.sent):=Row.cell (sJ hs _)
  have htk : ∀ o,Row 26 (dr s k.v) o→cellAt o 163=some (I s.taken):=Row.cell (pG hs _)
  have hpv : ∀ o,Row 26 (dr s k.v) o→cellAt o 164=some (I s.prev):=Row.cell (sK hs _)
  have hse : ∀ o,Row 26 (dr s k.v) o→cellAt o 96=some (.bool s.ay):=Row.cell (pE hs _)
  have hta : ∀ o,Row 26 (dr s k.v) o→cellAt o 97=some (.bool s.takes):=Row.cell (pF hs _)
  have hcO : ∀ o,Row 26 (dr s k.v) o→aY o 64 (s.other.map U8):=Row.cells (lT hs _)
  have hcS : ∀ o,Row 26 (dr s k.v) o→aY o 98 (s.send.map U8):=Row.cells (n9 hs _)
  have hcT : ∀ o,Row 26 (dr s k.v) o→aY o 130 (s.take.map U8):=Row.cells (oa hs _)
  have z3 : (bO.map U8).length=32:=rfl
  have c1:=fun w'=>kE s.sent w'
  have c2:=fun w'=>kE s.taken w'
  have c3:=fun w'=>kE s.prev w'
  have i1:=eJ s.sent
  have i2:=eJ s.taken
  have i3:=eJ s.prev
  refine enter (n:=64) Tryd.func37 rfl rfl rfl (ah.start w []) ?_
  repeat (first | refine JC.seq ?_ | refine JC.region ?_)
  refine JL.box (r:=dr s k.v) rfl rfl rfl fun b1 _=>?_
  obtain ⟨m1,hm1⟩ : ∃ m,kD s.sent=m:=⟨_,rfl⟩
  obtain ⟨m2,hm2⟩ : ∃ m,kD s.taken=m:=⟨_,rfl⟩
  obtain ⟨m3,hm3⟩ : ∃ m,kD s.prev=m:=⟨_,rfl⟩
  rw [hm1] at c1 i1
  rw [hm2] at c2 i2
  rw [hm3] at c3 i3
  cases m1
  case' true=>cases m2
  case' true.true=>cases m3
  case false=>
    have hno : ¬ bw s:=fun h=>absurd (i1.2 h.sent) (by decide)
    repeat (first | refine JL.q (by first|(apply OQ.load;exact bg;rfl;exact .here;exact hsn)|(apply OQ.an (vs:=[I s.sent]);exact cX;rfl;exact (fun w' _=>c1 w'))|(apply OQ.not;rfl)|(apply OQ.bV;rfl;rfl)|(apply OQ.move;rfl)|(apply OQ.assign;rfl)|(apply OQ.cw;rfl;rfl;rfl;exact (by decide);rfl)) rfl ?_ | refine JC.seq ?_ | refine JC.region ?_ | refine JL.nil ?_ | refine JE.next ?_ | refine JL.dJ rfl rfl rfl rfl ?_)
    refine JC.cond_true rfl rfl ?_
    repeat (first | refine JL.q (by (apply OQ.assign;rfl)) rfl ?_ | refine JC.seq ?_ | refine JC.region ?_ | refine JL.nil ?_ | refine JE.next ?_)
    refine JC.ret ?_
    repeat (refine JE.aN ?_)
    exact JE.aM rfl (RV.tmp rfl) fun w' hw=>⟨⟨false,⟨nofun,fun h=>absurd h hno⟩⟩,rfl,hw.aH⟩
  case true.false=>
    have hno : ¬ bw s:=fun h=>absurd (i2.2 h.taken) (by decide)
    repeat (first | refine JL.q (by first|(apply OQ.load;exact bg;rfl;exact .here;exact hsn)|(apply OQ.load;exact bg;rfl;exact .here;exact htk)|(apply OQ.an (vs:=[I s.sent]);exact cX;rfl;exact (fun w' _=>c1 w'))|(apply OQ.an (vs:=[I s.taken]);exact cX;rfl;exact (fun w' _=>c2 w'))|(apply OQ.not;rfl)|(apply OQ.bV;rfl;rfl)|(apply OQ.bG;rfl;rfl)|(apply OQ.move;rfl)|(apply OQ.assign;rfl)|(apply OQ.cw;rfl;rfl;rfl;exact (by decide);rfl)) rfl ?_ | refine JC.seq ?_ | refine JC.region ?_ | refine JL.nil ?_ | refine JE.next ?_ | refine JL.bn rfl rfl ?_ | refine JL.dJ rfl rfl rfl rfl ?_)
    refine JC.cond_true rfl rfl ?_
    repeat (first | refine JL.q (by (apply OQ.assign;rfl)) rfl ?_ | refine JC.seq ?_ | refine JC.region ?_ | refine JL.nil ?_ | refine JE.next ?_)
    refine JC.ret ?_
    repeat (refine JE.aN ?_)
    exact JE.aM rfl (RV.tmp rfl) fun w' hw=>⟨⟨false,⟨nofun,fun h=>absurd h hno⟩⟩,rfl,hw.aH⟩
  case true.true.false=>
    have hno : ¬ bw s:=fun h=>absurd (i3.2 h.prev) (by decide)
    repeat (first | refine JL.q (by first|(apply OQ.load;exact bg;rfl;exact .here;exact hsn)|(apply OQ.load;exact bg;rfl;exact .here;exact htk)|(apply OQ.load;exact bg;rfl;exact .here;exact hpv)|(apply OQ.an (vs:=[I s.sent]);exact cX;rfl;exact (fun w' _=>c1 w'))|(apply OQ.an (vs:=[I s.taken]);exact cX;rfl;exact (fun w' _=>c2 w'))|(apply OQ.an (vs:=[I s.prev]);exact cX;rfl;exact (fun w' _=>c3 w'))|(apply OQ.not;rfl)|(apply OQ.bG;rfl;rfl)|(apply OQ.move;rfl)|(apply OQ.assign;rfl)|(apply OQ.cw;rfl;rfl;rfl;exact (by decide);rfl)) rfl ?_ | refine JC.seq ?_ | refine JC.region ?_ | refine JL.nil ?_ | refine JE.next ?_ | refine JL.bn rfl rfl ?_)
    refine JC.cond_true rfl rfl ?_
    repeat (first | refine JL.q (by (apply OQ.assign;rfl)) rfl ?_ | refine JC.seq ?_ | refine JC.region ?_ | refine JL.nil ?_ | refine JE.next ?_)
    refine JC.ret ?_
    repeat (refine JE.aN ?_)
    exact JE.aM rfl (RV.tmp rfl) fun w' hw=>⟨⟨false,⟨nofun,fun h=>absurd h hno⟩⟩,rfl,hw.aH⟩
  have r1:=i1.1 rfl
  have r2:=i2.1 rfl
  have r3:=i3.1 rfl
  repeat (first | refine JL.q (by first|(apply OQ.load;exact bg;rfl;exact .here;exact hsn)|(apply OQ.load;exact bg;rfl;exact .here;exact htk)|(apply OQ.load;exact bg;rfl;exact .here;exact hpv)|(apply OQ.an (vs:=[I s.sent]);exact cX;rfl;exact (fun w' _=>c1 w'))|(apply OQ.an (vs:=[I s.taken]);exact cX;rfl;exact (fun w' _=>c2 w'))|(apply OQ.an (vs:=[I s.prev]);exact cX;rfl;exact (fun w' _=>c3 w'))|(apply OQ.not;rfl)|(apply OQ.bG;rfl;rfl)|(apply OQ.move;rfl)|(apply OQ.assign;rfl)|(apply OQ.cw;rfl;rfl;rfl;exact (by decide);rfl)) rfl ?_ | refine JC.seq ?_ | refine JC.region ?_ | refine JL.nil ?_ | refine JE.next ?_ | refine JL.bn rfl rfl ?_)
  refine JC.cond_false rfl rfl ?_
  refine JC.skip (JE.next ?_)
  refine JC.seq (JC.region ?_)
  refine JL.q OQ.DP rfl ?_
  refine JL.alloc iW rfl fun b3 _=>?_
  refine JL.ag (cs:=bO.map U8) aO rfl rfl z3 (cQ _) .here (by simp) ?_
  refine JL.nil (JE.next ?_)
  obtain ⟨q1,hq1⟩ : ∃ m,decide (s.send=bO)=m:=⟨_,rfl⟩
  obtain ⟨q2,hq2⟩ : ∃ m,decide (s.take=bO)=m:=⟨_,rfl⟩
  obtain ⟨q3,hq3⟩ : ∃ m,decide (s.other=bO)=m:=⟨_,rfl⟩
  obtain ⟨v1,hv1⟩ : ∃ m,s.ay=m:=⟨_,rfl⟩
  obtain ⟨v2,hv2⟩ : ∃ m,s.takes=m:=⟨_,rfl⟩
  rw [hv1] at hse
  rw [hv2] at hta
  have hz0 : ((!v1 && !q1) || (!v2 && !q2))=true→¬ bw s:=fun h hr=>by
    rw [Bool.or_eq_true,Bool.and_eq_true,Bool.and_eq_true] at h
    rcases h with ⟨h1,h2⟩ | ⟨h1,h2⟩
    · have:=hr.send (by rw [hv1];simpa using h1)
      rw [← hq1,decide_eq_true this] at h2
      cases h2
    · have:=hr.take (by rw [hv2];simpa using h1)
      rw [← hq2,decide_eq_true this] at h2
      cases h2
  have hz1 : ((!v1 && !v2) && !q3)=true→¬ bw s:=fun h hr=>by
    rw [Bool.and_eq_true,Bool.and_eq_true] at h
    have:=hr.other (by rw [hv1];simpa using h.1.1) (by rw [hv2];simpa using h.1.2)
    rw [← hq3,decide_eq_true this] at h
    cases h.2
  have hz2 : ((!v1 && !q1) || (!v2 && !q2))=false→(s.ay=false→s.send=bO)∧(s.takes=false→s.take=bO):=fun h=>by
    rw [Bool.or_eq_false_iff] at h
    refine ⟨fun e=>?_,fun e=>?_⟩
    · rw [hv1] at e;subst e;exact of_decide_eq_true (hq1.trans (by simpa using h.1))
    · rw [hv2] at e;subst e;exact of_decide_eq_true (hq2.trans (by simpa using h.2))
  have hz3 : ((!v1 && !v2) && !q3)=false→s.ay=false→s.takes=false→s.other=bO:=fun h e1 e2=>by
    rw [hv1] at e1;rw [hv2] at e2;subst e1 e2
    exact of_decide_eq_true (hq3.trans (by simpa using h))
  refine JC.mid (ι:=Unit) (fun _=>[(1,Pt b1 0),(3,Pt b3 0)]) (fun _=>[⟨b3,Row 23 (bO.map U8),true⟩,⟨b1,Row 26 (dr s k.v),true⟩]) (fun _=>((!v1 && !q1) || (!v2 && !q2))=false) ?_ ?_
  · cases v1 <;> cases v2 <;> cases q1 <;> cases q2 <;>
    first
    | (have hno:=hz0 rfl
       repeat (first | refine JL.q (by first|(apply OQ.load;exact cg;rfl;exact (.there .here);exact hse)|(apply OQ.load;exact cg;rfl;exact (.there .here);exact hta)|(apply OQ.af (cs:=s.send.map U8);exact bB;exact aO;rfl;exact (.there .here);exact l4;exact hcS)|(apply OQ.af (cs:=s.take.map U8);exact bB;exact aO;rfl;exact (.there .here);exact l5;exact hcT)|(apply OQ.af (cs:=bO.map U8);exact bB;exact aO;rfl;exact .here;exact z3;exact Row.all)|(apply OQ.mL (q:=bO);exact hs.send;rfl;rfl;rfl;exact hq1)|(apply OQ.mL (q:=bO);exact hs.take;rfl;rfl;rfl;exact hq2)|(apply OQ.not;rfl)|(apply OQ.bV;rfl;rfl)|(apply OQ.bG;rfl;rfl)|(apply OQ.move;rfl)|(apply OQ.cw;rfl;rfl;rfl;exact (by decide);rfl)) rfl ?_ | refine JC.seq ?_ | refine JC.region ?_ | refine JL.nil ?_ | refine JE.next ?_ | refine JL.bn rfl rfl ?_ | refine JL.dJ rfl rfl rfl rfl ?_ | refine JL.xQ rfl rfl rfl rfl ?_)
       refine JC.cond_true rfl rfl ?_
       repeat (first | refine JL.q (by (apply OQ.assign;rfl)) rfl ?_ | refine JC.seq ?_ | refine JC.region ?_ | refine JL.nil ?_ | refine JE.next ?_)
       refine JC.ret ?_
       repeat (refine JE.aN ?_)
       exact JE.aM rfl (RV.tmp rfl) fun w' hw=>⟨⟨false,⟨nofun,fun h=>absurd h hno⟩⟩,rfl,hw.aH⟩)
    | (repeat (first | refine JL.q (by first|(apply OQ.load;exact cg;rfl;exact (.there .here);exact hse)|(apply OQ.load;exact cg;rfl;exact (.there .here);exact hta)|(apply OQ.af (cs:=s.send.map U8);exact bB;exact aO;rfl;exact (.there .here);exact l4;exact hcS)|(apply OQ.af (cs:=s.take.map U8);exact bB;exact aO;rfl;exact (.there .here);exact l5;exact hcT)|(apply OQ.af (cs:=bO.map U8);exact bB;exact aO;rfl;exact .here;exact z3;exact Row.all)|(apply OQ.mL (q:=bO);exact hs.send;rfl;rfl;rfl;exact hq1)|(apply OQ.mL (q:=bO);exact hs.take;rfl;rfl;rfl;exact hq2)|(apply OQ.not;rfl)|(apply OQ.bV;rfl;rfl)|(apply OQ.bG;rfl;rfl)|(apply OQ.move;rfl)|(apply OQ.cw;rfl;rfl;rfl;exact (by decide);rfl)) rfl ?_ | refine JC.seq ?_ | refine JC.region ?_ | refine JL.nil ?_ | refine JE.next ?_ | refine JL.bn rfl rfl ?_ | refine JL.dJ rfl rfl rfl rfl ?_)
       refine JC.cond_false rfl rfl ?_
       repeat (refine JC.skip ?_)
       exact JE.mid () rfl (by repeat (first | exact aj.nil | refine aj.cons _ _ _ rfl ?_)) (ax.refl _))
  intro _ hzA
  refine JC.mid (ι:=Unit) (fun _=>[(1,Pt b1 0),(3,Pt b3 0)]) (fun _=>[⟨b3,Row 23 (bO.map U8),true⟩,⟨b1,Row 26 (dr s k.v),true⟩]) (fun _=>((!v1 && !v2) && !q3)=false) ?_ ?_
  · cases v1 <;> cases v2 <;> cases q3 <;>
    first
    | (have hno:=hz1 rfl
       repeat (first | refine JL.q (by first|(apply OQ.load;exact cg;rfl;exact (.there .here);exact hse)|(apply OQ.load;exact cg;rfl;exact (.there .here);exact hta)|(apply OQ.af (cs:=s.other.map U8);exact bB;exact aO;rfl;exact (.there .here);exact l3;exact hcO)|(apply OQ.af (cs:=bO.map U8);exact bB;exact aO;rfl;exact .here;exact z3;exact Row.all)|(apply OQ.mL (q:=bO);exact hs.other;rfl;rfl;rfl;exact hq3)|(apply OQ.not;rfl)|(apply OQ.bV;rfl;rfl)|(apply OQ.move;rfl)|(apply OQ.cw;rfl;rfl;rfl;exact (by decide);rfl)) rfl ?_ | refine JC.seq ?_ | refine JC.region ?_ | refine JL.nil ?_ | refine JE.next ?_ | refine JL.bn rfl rfl ?_)
       refine JC.cond_true rfl rfl ?_
       repeat (first | refine JL.q (by (apply OQ.assign;rfl)) rfl ?_ | refine JC.seq ?_ | refine JC.region ?_ | refine JL.nil ?_ | refine JE.next ?_)
       refine JC.ret ?_
       repeat (refine JE.aN ?_)
       exact JE.aM rfl (RV.tmp rfl) fun w' hw=>⟨⟨false,⟨nofun,fun h=>absurd h hno⟩⟩,rfl,hw.aH⟩)
    | (repeat (first | refine JL.q (by first|(apply OQ.load;exact cg;rfl;exact (.there .here);exact hse)|(apply OQ.load;exact cg;rfl;exact (.there .here);exact hta)|(apply OQ.af (cs:=s.other.map U8);exact bB;exact aO;rfl;exact (.there .here);exact l3;exact hcO)|(apply OQ.af (cs:=bO.map U8);exact bB;exact aO;rfl;exact .here;exact z3;exact Row.all)|(apply OQ.mL (q:=bO);exact hs.other;rfl;rfl;rfl;exact hq3)|(apply OQ.not;rfl)|(apply OQ.bV;rfl;rfl)|(apply OQ.bG;rfl;rfl)|(apply OQ.move;rfl)|(apply OQ.cw;rfl;rfl;rfl;exact (by decide);rfl)) rfl ?_ | refine JC.seq ?_ | refine JC.region ?_ | refine JL.nil ?_ | refine JE.next ?_ | refine JL.bn rfl rfl ?_ | refine JL.dJ rfl rfl rfl rfl ?_)
       refine JC.cond_false rfl rfl ?_
       repeat (refine JC.skip ?_)
       exact JE.mid () rfl (by repeat (first | exact aj.nil | refine aj.cons _ _ _ rfl ?_)) (ax.refl _))
  intro _ hzB
  have hkp2 : ∀ o,Row 26 (dr s k.v) o→cellAt o 165=some (.slice k.ad k.l.length k.cap):=hkp
  cases hm4 : decide (((k.l.length : Nat) : Int)≤2000)
  · have hno : ¬ bw s:=fun h=>by have h1:=of_decide_eq_false hm4;have h2:=h.len;rw [← he] at h2;omega
    repeat (first | refine JL.q (by first|(apply OQ.load;exact ef;rfl;exact (.there .here);exact hkp2)|(apply OQ.len (k:=k.l.length) (ad:=k.ad) (cap:=k.cap);exact Tryd.underlying24;rfl)|(apply OQ.Av (b:=2000);rfl;rfl;exact hm4)|(apply OQ.bG;rfl;rfl)|(apply OQ.move;rfl)|(apply OQ.assign;rfl)|(apply OQ.cw;rfl;rfl;rfl;exact (by decide);rfl)) rfl ?_ | refine JC.seq ?_ | refine JC.region ?_ | refine JL.nil ?_ | refine JE.next ?_ | refine JL.dJ rfl rfl rfl rfl ?_)
    refine JC.ret ?_
    skip
    exact JE.aM rfl (RV.tmp rfl) fun w' hw=>⟨⟨false,⟨nofun,fun h=>absurd h hno⟩⟩,rfl,hw.aH⟩
  · have hk2 : k.l.length≤2000:=by have:=of_decide_eq_true hm4;omega
    obtain ⟨r,hr⟩ : ∃ r : Bool,r=true↔kJ k.l:=by classical exact ⟨decide (kJ k.l),by simp⟩
    have cR : ∀ w' : World,k.ok w'→Calls Tryd.prog 65 [k.v].toArray w' fun e w''=>e=.returned (.bool r)∧Ext w' w'':=fun w' hk'=>(xo k hk2 w' hk').mono fun e w'' ⟨⟨b,hb⟩,e1,h⟩=>⟨by rw [e1];congr 2;exact Bool.eq_iff_iff.2 (hb.trans hr.symm),h⟩
    repeat (first | refine JL.q (by first|(apply OQ.load;exact ef;rfl;exact (.there .here);exact hkp2)|(apply OQ.len (k:=k.l.length) (ad:=k.ad) (cap:=k.cap);exact Tryd.underlying24;rfl)|(apply OQ.Av (b:=2000);rfl;rfl;exact hm4)|(apply OQ.an (vs:=[k.v]);exact uQ;rfl;exact (fun w' hw'=>cR w' (hk.gK hw' rfl)))|(apply OQ.bV;rfl;rfl)|(apply OQ.move;rfl)|(apply OQ.assign;rfl)|(apply OQ.cw;rfl;rfl;rfl;exact (by decide);rfl)) rfl ?_ | refine JC.seq ?_ | refine JC.region ?_ | refine JL.nil ?_ | refine JE.next ?_ | refine JL.bn rfl rfl ?_)
    have hlast : r=true↔bw s:=hr.trans ⟨fun h=>⟨r1,r2,r3,by rw [← he];exact hk2,(hz2 hzA).1,(hz2 hzA).2,hz3 hzB,fun i hi=>by rw [← he] at hi ⊢;exact h.num i hi,fun i hi j hj e=>by rw [← he] at hi e;exact h.one i hi j hj (Prod.ext e.2 e.1)⟩,fun h=>by rw [he];exact uR h⟩
    refine JC.ret ?_
    skip
    exact JE.aM rfl (RV.tmp rfl) fun w' hw=>⟨⟨r,hlast⟩,rfl,hw.aH⟩
theorem zS : aR Tryd.prog 38:=⟨_,Tryd.func38,rfl,by kernel_rfl⟩
def oB (a b : Bool) : Bt:=BitVec.ofNat 8 ((if a then 1 else 0)+(if b then 2 else 0))
set_option maxHeartbeats 8000000 in
theorem BI (s : bC) (kv : Value) (hs : s.ok) (w : World) : Calls Tryd.prog 38 [.agg (sec s kv).toArray].toArray w fun e w'=>e=.returned (U8 (oB s.ay s.takes))∧Ext w w':=by
  have hse : ∀ o,Row 26 (sec s kv) o→cellAt o 96=some (.bool s.ay):=Row.cell (e7 hs _)
  have hta : ∀ o,Row 26 (sec s kv) o→cellAt o 97=some (.bool s.takes):=Row.cell (iJ hs _)
  refine enter (n:=13) Tryd.func38 rfl rfl rfl (ah.start w []) ?_
  repeat (first | refine JC.seq ?_ | refine JC.region ?_)
  refine JL.box (r:=sec s kv) rfl rfl rfl fun b1 _=>?_
  obtain ⟨v1,hv1⟩ : ∃ m,s.ay=m:=⟨_,rfl⟩
  obtain ⟨v2,hv2⟩ : ∃ m,s.takes=m:=⟨_,rfl⟩
  rw [hv1] at hse ⊢
  rw [hv2] at hta ⊢
  cases v1 <;> cases v2 <;>
  (repeat (first | refine JL.q (by first|(apply OQ.load;exact cg;rfl;exact .here;exact hse)|(apply OQ.assign;rfl)|(apply OQ.cw;rfl;rfl;rfl;exact (by decide);rfl)) rfl ?_ | refine JC.seq ?_ | refine JC.region ?_ | refine JL.nil ?_ | refine JE.next ?_)
   first | refine JC.cond_true rfl rfl ?_ | refine JC.cond_false rfl rfl ?_
   repeat (first | refine JL.q (by first|(apply OQ.load;exact cg;rfl;exact .here;exact hta)|(apply OQ.CF (a:=0) (b:=1);rfl;rfl)|(apply OQ.move;rfl)|(apply OQ.assign;rfl)|(apply OQ.cw;rfl;rfl;rfl;exact (by decide);rfl)) rfl ?_ | refine JC.seq ?_ | refine JC.region ?_ | refine JC.skip ?_ | refine JL.nil ?_ | refine JE.next ?_)
   first | refine JC.cond_true rfl rfl ?_ | refine JC.cond_false rfl rfl ?_
   repeat (first | refine JL.q (by first|(apply OQ.CF (a:=0) (b:=2);rfl;rfl)|(apply OQ.CF (a:=1) (b:=2);rfl;rfl)|(apply OQ.move;rfl)|(apply OQ.assign;rfl)) rfl ?_ | refine JC.seq ?_ | refine JC.region ?_ | refine JC.skip ?_ | refine JL.nil ?_ | refine JE.next ?_)
   refine JC.ret ?_
   skip
   exact JE.aM rfl (RV.tmp rfl) fun w' hw=>⟨rfl,hw.aH⟩)
end
section
set_option maxRecDepth 10000
open Sl ec gE cV gB
open iZ (Bk)
theorem uS (a b c d e : Bk) (ha : a.length=32) (hb : b.length=32) (hc : c.length=32) (hd : d.length=32) (he : e.length=32) : Tryd.prog.built 73 ([0,1,2,3,4].zip [.agg (a.map U8).toArray,.agg (b.map U8).toArray,.agg (c.map U8).toArray,.agg (d.map U8).toArray,.agg (e.map U8).toArray])=some (((a++(b++(c++(d++e)))).map U8).toArray):=by
  obtain ⟨z,hz⟩ : ∃ z,bO.map U8=z:=⟨_,rfl⟩
  have lz : z.length=32:=by rw [← hz];rfl
  have h : Tryd.prog.built 73 ([0,1,2,3,4].zip [.agg (a.map U8).toArray,.agg (b.map U8).toArray,.agg (c.map U8).toArray,.agg (d.map U8).toArray,.agg (e.map U8).toArray])=Instr.fill (fun i=>#[(0,32),(32,32),(64,32),(96,32),(128,32)][i]?) (bO.map U8++(bO.map U8++(bO.map U8++(bO.map U8++bO.map U8)))).toArray [(0,.agg (a.map U8).toArray),(1,.agg (b.map U8).toArray),(2,.agg (c.map U8).toArray),(3,.agg (d.map U8).toArray),(4,.agg (e.map U8).toArray)]:=by kernel_rfl
  rw [h,hz]
  clear h hz
  have la : (a.map U8).length=32:=by rw [List.length_map];exact ha
  have lb : (b.map U8).length=32:=by rw [List.length_map];exact hb
  have lc : (c.map U8).length=32:=by rw [List.length_map];exact hc
  have ld : (d.map U8).length=32:=by rw [List.length_map];exact hd
  have le : (e.map U8).length=32:=by rw [List.length_map];exact he
  simp only [List.map_append]
  generalize a.map U8=A at la
  generalize b.map U8=B at lb
  generalize c.map U8=C at lc
  generalize d.map U8=D at ld
  generalize e.map U8=E at le
  rw [aQ (off:=0) (sz:=32) (cs:=A) rfl rfl la (by simp [lz])]
  have p1 : (z++(z++(z++(z++z)))).take 0++A++(z++(z++(z++(z++z)))).drop (0+32)=A++(z++(z++(z++z))):=by
    have:=jv (a:=[]) (b:=z) (c:=z++(z++(z++z))) (j:=0) (k:=32) A rfl lz
    simpa using this
  rw [p1,aQ (off:=32) (sz:=32) (cs:=B) rfl rfl lb (by simp [lz,la])]
  rw [jv (a:=A) (b:=z) (c:=z++(z++z)) (j:=32) (k:=32) B la lz,← List.append_assoc A B,aQ (off:=64) (sz:=32) (cs:=C) rfl rfl lc (by simp [lz,la,lb])]
  rw [jv (a:=A++B) (b:=z) (c:=z++z) (j:=64) (k:=32) C (by simp [la,lb]) lz,← List.append_assoc (A++B) C,aQ (off:=96) (sz:=32) (cs:=D) rfl rfl ld (by simp [lz,la,lb,lc])]
  rw [jv (a:=A++B++C) (b:=z) (c:=z) (j:=96) (k:=32) D (by simp [la,lb,lc]) lz,← List.append_assoc (A++B++C) D,aQ (off:=128) (sz:=32) (cs:=E) rfl rfl le (by simp [lz,la,lb,lc,ld])]
  have p5:=jv (a:=A++B++C++D) (b:=z) (c:=[]) (j:=128) (k:=32) E (by simp [la,lb,lc,ld]) lz
  rw [List.append_nil,List.append_nil] at p5
  rw [p5]
  show some _=some _
  simp only [List.append_assoc]
def zT (s : bC) : List Nat:=[s.sent,s.taken,s.prev,s.kept.length]
theorem DX (s : bC) : (zT s).flatMap b4=pI s:=by simp [zT,pI]
theorem jK {α : Type} (f : α→Bk) {l : List α} {i : Nat} (d : α) (h : i<l.length) : (l.take (i+1)).flatMap f=(l.take i).flatMap f++f (l.getD i d):=by
  rw [List.take_succ_eq_append_getElem h,List.flatMap_append,List.getD_eq_getElem?_getD,List.getElem?_eq_getElem h]
  simp
theorem sR {l : List Nat} : (l.flatMap b4).length=l.length * 4:=by
  induction l with
  | nil=>rfl
  | cons a l ih=>rw [List.flatMap_cons,List.length_append,eo,ih,List.length_cons];omega
structure En where
  i : Nat
  q : Nat × Nat
theorem pM : aR Tryd.prog 16:=⟨_,Tryd.func16,rfl,by kernel_rfl⟩
theorem Hx : Tryd.prog.underlying 73=some (.array 5 23):=Tryd.underlying73
section
variable {n : Nat} {w0 : World} {S : List Nat} {ops : Array Oper} {Q : Exit→Act→World→Prop} {l : List Oper} {E : Env} {M : List aJ} {d : Nat} {ty : TypeId} {pos : String} {aft : Array Edge} {x y : Operand}
theorem JL.qJ {q : Nat × Nat} {xs ys : Bk} {b j cap : Nat} {A : Obj→Prop} {wr : Bool} (e1 : ev E x=some (aA (some q) xs.length)) (e2 : ev E y=some (.slice (some ⟨b,j,none⟩) ys.length cap)) (hM : Has M b A wr) (hA : ∀ o,A o→aY o j (ys.map U8)) (h0 : ys≠[]) (hl : xs.length+ys.length≤100000000) (hd : Nat.blt d n=true)
    (kk : ∀ q' : Nat × Nat,JL Tryd.prog n w0 S ops Q l ((d,aA (some q') (xs++ys).length)::E) (aZ 5 (some q') ((xs++ys).map U8)++M)) :
    JL Tryd.prog n w0 S ops Q (⟨some d,.call ⟨.builtin .append,#[x,y],#[27,27]⟩,ty,pos,aft,none⟩::l) E (aZ 5 (some q) (xs.map U8)++M):=by
  have hx : (xs.map U8).length=xs.length:=List.length_map _
  refine JL.pX (xs:=xs.map U8) (cs:=ys.map U8) (m:=ys.length) (ad:=some ⟨b,j,none⟩) (sc:=cap) (some q) Tryd.underlying27 qN nofun (by rw [hx];exact e1) e2 (List.length_map _) (fun w hw=>?_) (fun v hv=>by obtain ⟨q,_,rfl⟩:=List.mem_map.1 hv;rfl) rfl (by rw [hx];omega) (by rw [hx];omega) hd fun q' hq'=>?_
  · obtain ⟨o,ho,hAo⟩:=hw.get (Aw (N:=aZ 5 (some q) (xs.map U8)) hM)
    exact Reads.block ho (hA o hAo)
  · cases q' with
    | none=>
      have:=hq' rfl
      have h1 : xs=[]∧ys=[]:=by simpa using this
      exact absurd h1.2 h0
    | some q'=>
      have:=kk q'
      rw [List.map_append,List.length_append] at this
      rw [List.length_append,List.length_map,List.length_map]
      exact this
end
theorem vZ (a : aJ) (X M : List aJ) : (a::(X++M)).Perm (X++(a::M)):=List.perm_middle.symm
def mF (t : bC) : Bk:=oB t.ay t.takes::dG t
theorem pN {t : bC} (h : t.ok) : (mF t).length=161:=by simp [mF,lU h]
theorem sS (t : bC) : bI t=mF t++((zT t).flatMap b4++t.kept.flatMap pH):=by
  rw [DX]
  rfl
theorem v5 {l : List Kp} (h : ∀ k ∈ l,k.ok) (i : Nat) (hi : i≤l.length) : ((l.take i).flatMap pH).length=i * 68:=by
  have:=oe (l:=l.take i) fun k hk=>h k (List.mem_of_mem_take hk)
  rw [List.length_take,Nat.min_eq_left hi] at this
  exact this
set_option maxHeartbeats 16000000 in
theorem zU (t : bC) (kk : fX) (ht : t.ok) (he : kk.l=t.kept) (hm1 : t.sent≤2147483647) (hm2 : t.taken≤2147483647) (hm3 : t.prev≤2147483647) (hkm : ∀ y ∈ t.kept,y.num≤2147483647) (hkl : t.kept.length≤2000) (w : World) (hk : kk.ok w)
    (cR : ∀ w' : World,kk.ok w'→Calls Tryd.prog 37 [.agg (sec t kk.v).toArray].toArray w' fun e w''=>e=.returned (.bool true)∧Ext w' w'') :
    Calls Tryd.prog 16 [.agg (sec t kk.v).toArray].toArray w fun e w'=>∃ q : Nat × Nat,e=.returned (.tuple #[aA (some q) (bI t).length,N 0])∧ah w [] (aZ 5 (some q) ((bI t).map U8)) w':=by
  have hn:=au ht kk.v
  have hkp : ∀ o,Row 26 (sec t kk.v) o→cellAt o 165=some kk.v:=Row.cell (fk ht _)
  have h162 : ∀ o,Row 26 (sec t kk.v) o→cellAt o 162=some (N t.sent):=Row.cell (gh ht _)
  have h163 : ∀ o,Row 26 (sec t kk.v) o→cellAt o 163=some (N t.taken):=Row.cell (iK ht _)
  have h164 : ∀ o,Row 26 (sec t kk.v) o→cellAt o 164=some (N t.prev):=Row.cell (hO ht _)
  have l0 : (t.root.map U8).length=32:=by rw [List.length_map];exact ht.root
  have l1 : (t.own.map U8).length=32:=by rw [List.length_map];exact ht.own
  have l2 : (t.other.map U8).length=32:=by rw [List.length_map];exact ht.other
  have l3 : (t.send.map U8).length=32:=by rw [List.length_map];exact ht.send
  have l4 : (t.take.map U8).length=32:=by rw [List.length_map];exact ht.take
  have hone : (sec t kk.v).all Value.oneCell'=true:=bA rfl
  refine enter (n:=81) Tryd.func16 rfl rfl rfl (ah.start w []) ?_
  repeat (first | refine JC.seq ?_ | refine JC.region ?_)
  refine JL.box (r:=sec t kk.v) rfl rfl rfl fun b1 _=>?_
  repeat (first | refine JL.q (by first|(apply OQ.af (cs:=sec t kk.v);exact fL;exact dn;rfl;exact .here;exact hn;exact Row.all)|(apply OQ.an (vs:=[.agg (sec t kk.v).toArray]);exact iS;rfl;exact (fun w' hw'=>cR w' (hk.holds hw' rfl)))|(apply OQ.not;rfl)|(apply OQ.assign;rfl)) rfl ?_ | refine JC.seq ?_ | refine JC.region ?_ | refine JL.nil ?_ | refine JE.next ?_)
  refine JC.cond_false rfl rfl ?_
  have hkl2 : kk.l.length≤2000:=by rw [he];exact hkl
  repeat (first | refine JL.q (by first|(apply OQ.load;exact ef;rfl;exact .here;exact hkp)|(apply OQ.len (k:=kk.l.length) (ad:=kk.ad) (cap:=kk.cap);exact Tryd.underlying24;rfl)|(apply OQ.gN (a:=kk.l.length) (b:=68);rfl;rfl;exact (by omega))|(apply OQ.bH (a:=177) (b:=kk.l.length * 68);rfl;rfl;exact (by omega))|(apply OQ.cw;rfl;rfl;rfl;exact (by decide);rfl)) rfl ?_ | refine JC.seq ?_ | refine JC.region ?_ | refine JC.skip ?_ | refine JE.next ?_)
  refine JL.vi (c:=177+kk.l.length * 68) Tryd.underlying27 qN rfl rfl (by omega) rfl fun b4m _=>?_
  have hb1 : Has [(⟨b4m,Sl.cJ 5 1 0 (177+kk.l.length * 68) [],true⟩ : aJ),⟨b1,Row 26 (sec t kk.v),true⟩] b1 (Row 26 (sec t kk.v)) true:=.there .here
  have cS:=fun w'=>BI t kk.v ht w'
  repeat (first | refine JL.q (by first|(apply OQ.af (cs:=sec t kk.v);exact fL;exact dn;rfl;exact hb1;exact hn;exact Row.all)|(apply OQ.an (vs:=[.agg (sec t kk.v).toArray]);exact zS;rfl;exact (fun w' _=>cS w'))|(apply OQ.move;rfl)|(apply OQ.assign;rfl)) rfl ?_ | refine JC.seq ?_ | refine JC.region ?_ | refine JL.nil ?_ | refine JE.next ?_)
  refine JL.gy (v:=U8 (oB t.ay t.takes)) Tryd.underlying27 qN rfl rfl rfl rfl fun bl _=>?_
  refine JL.perm (M':=aZ 5 (some (b4m,177+kk.l.length * 68)) (([] : Bk).map U8)++[⟨bl,Row 5 [U8 (oB t.ay t.takes)],true⟩,⟨b1,Row 26 (sec t kk.v),true⟩]) ?_ (by exact List.Perm.swap _ _ _)
  refine JL.qJ (q:=(b4m,177+kk.l.length * 68)) (xs:=[]) (ys:=[oB t.ay t.takes]) (b:=bl) (j:=0) (cap:=1) rfl rfl .here Row.all (by simp) (by show 0+1≤_;decide) rfl fun q0=>?_
  refine JL.gj (M':=aZ 5 (some q0) (([]++[oB t.ay t.takes]).map U8)++[⟨b1,Row 26 (sec t kk.v),true⟩]) (iH (.drop _ _ _ (ax.refl _)) _) ?_
  have hH1 : ∀ (q : Nat × Nat) (xs : List Value),Has (aZ 5 (some q) xs++[(⟨b1,Row 26 (sec t kk.v),true⟩ : aJ)]) b1 (Row 26 (sec t kk.v)) true:=fun _ _=>.there .here
  repeat (first | refine JL.q (by first|(apply OQ.af (cs:=t.root.map U8);exact bB;exact aO;rfl;exact (hH1 _ _);exact l0;exact (Row.cells (j3 ht _)))|(apply OQ.af (cs:=t.own.map U8);exact bB;exact aO;rfl;exact (hH1 _ _);exact l1;exact (Row.cells (j4 ht _)))|(apply OQ.af (cs:=t.other.map U8);exact bB;exact aO;rfl;exact (hH1 _ _);exact l2;exact (Row.cells (iI ht _)))|(apply OQ.af (cs:=t.send.map U8);exact bB;exact aO;rfl;exact (hH1 _ _);exact l3;exact (Row.cells (hJ ht _)))|(apply OQ.af (cs:=t.take.map U8);exact bB;exact aO;rfl;exact (hH1 _ _);exact l4;exact (Row.cells (j5 ht _)))|(apply OQ.assign;rfl)|(apply OQ.cw;rfl;rfl;rfl;exact (by decide);rfl)) rfl ?_ | refine JC.seq ?_ | refine JC.region ?_ | refine JL.nil ?_ | refine JE.next ?_)
  refine JL.q (OQ.dZ (cs:=(dG t).map U8) [0,1,2,3,4] [.tmp 26,.tmp 28,.tmp 30,.tmp 32,.tmp 34] (vs:=[.agg (t.root.map U8).toArray,.agg (t.own.map U8).toArray,.agg (t.other.map U8).toArray,.agg (t.send.map U8).toArray,.agg (t.take.map U8).toArray]) rfl rfl (uS _ _ _ _ _ ht.root ht.own ht.other ht.send ht.take)) rfl ?_
  have hkb:=lU ht
  repeat (first | refine JL.q (by (apply OQ.move;rfl)) rfl ?_ | refine JC.block ?_ | refine JL.nil ?_ | refine JE.next ?_)
  refine JC.loop (fun s : En=>[(1,Pt b1 0),(4,aA (some s.q) (oB t.ay t.takes::(dG t).take (s.i * 32)).length),(35,.agg ((dG t).map U8).toArray),(36,N s.i)]) (fun s=>aZ 5 (some s.q) ((oB t.ay t.takes::(dG t).take (s.i * 32)).map U8)++[⟨b1,Row 26 (sec t kk.v),true⟩]) (fun s=>5 - s.i) (fun s=>s.i≤5) ⟨0,q0⟩ (by show 0≤5;decide) (by repeat (first | exact aj.nil | refine aj.cons _ _ _ rfl ?_)) (ax.refl _) ?_
  rintro ⟨i,q⟩ hi
  dsimp only at hi ⊢
  repeat (first | refine JL.q (by (apply OQ.cF;rfl;rfl)) rfl ?_ | refine JC.seq ?_ | refine JC.region ?_ | refine JL.nil ?_ | refine JE.next ?_)
  refine JC.cond rfl (fun hc=>?_) (fun hc=>?_)
  · have hi' : i<5:=of_decide_eq_true hc
    clear hc
    have hml : (((dG t).drop (i * 32)).take 32).length=32:=by rw [List.length_take,List.length_drop,hkb];omega
    have hix : (((dG t).map U8).drop (i * 32)).take 32=(((dG t).drop (i * 32)).take 32).map U8:=by rw [List.map_take,List.map_drop]
    have htk : (dG t).take ((i+1) * 32)=(dG t).take (i * 32)++((dG t).drop (i * 32)).take 32:=by rw [Nat.succ_mul,List.take_add]
    have hxl : ((dG t).take (i * 32)).length≤160:=by rw [List.length_take];omega
    generalize ((dG t).drop (i * 32)).take 32=ch at hml hix htk
    generalize (dG t).take (i * 32)=xs at htk hxl
    have hcl : (ch.map U8).length=32:=by rw [List.length_map];exact hml
    repeat (first | refine JL.q (by (apply OQ.xP (len:=5) (i:=i) (sz:=32) (cs:=(dG t).map U8) (ps:=ch.map U8);exact Hx;exact aO;exact bB;rfl;rfl;exact hi';exact hix)) rfl ?_ | refine JC.seq ?_ | refine JC.region ?_ | refine JC.block ?_ | refine JC.skip ?_ | refine JE.next ?_)
    refine JL.alloc iW rfl fun b6 _=>?_
    refine JL.ag (cs:=ch.map U8) aO rfl rfl hcl (cQ _) .here (by simp) ?_
    repeat (first | refine JL.q (by first|(apply OQ.iT;exact Tryd.underlying23;exact dH;rfl)|(apply OQ.move;rfl)) rfl ?_ | refine JC.region ?_ | refine JL.nil ?_ | refine JE.next ?_)
    refine JL.perm (M':=aZ 5 (some q) ((oB t.ay t.takes::xs).map U8)++[⟨b6,Row 23 (ch.map U8),true⟩,⟨b1,Row 26 (sec t kk.v),true⟩]) ?_ (vZ _ _ _)
    refine JL.qJ (q:=q) (xs:=oB t.ay t.takes::xs) (ys:=ch) (b:=b6) (j:=0) (cap:=32) rfl (by rw [hml];rfl) .here Row.all (fun e=>by rw [e] at hml;cases hml) (by rw [List.length_cons];omega) rfl fun q'=>?_
    refine JL.gj (M':=aZ 5 (some q') ((oB t.ay t.takes::xs++ch).map U8)++[⟨b1,Row 26 (sec t kk.v),true⟩]) (iH (.drop _ _ _ (ax.refl _)) _) ?_
    repeat (first | refine JL.q (by first|(apply OQ.move;rfl)|(apply OQ.assign;rfl)|(apply OQ.bH;rfl;rfl;exact (by (try simp only []);omega))) rfl ?_ | refine JC.region ?_ | refine JL.nil ?_ | refine JE.next ?_ | refine JE.az ?_)
    exact JE.again (i:=En.mk i q) ⟨i+1,q'⟩ hi' (by dsimp only;omega) (by dsimp only;rw [htk];exact (by repeat (first | exact aj.nil | refine aj.cons _ _ _ rfl ?_))) (by dsimp only;rw [htk];exact ax.refl _)
  have hi' : i=5:=by have h9 : ¬ i<5:=of_decide_eq_false hc;omega
  subst hi'
  clear hc hi
  have ht5 : (dG t).take (5 * 32)=dG t:=List.take_of_length_le (by omega)
  have hhd : oB t.ay t.takes::dG t=mF t:=rfl
  have hhl:=pN ht
  rw [ht5,hhd]
  obtain ⟨hd,hhe⟩ : ∃ hd,mF t=hd:=⟨_,rfl⟩
  rw [hhe] at hhl ⊢
  repeat (first | refine JL.q (by first|(apply OQ.load;exact bg;rfl;exact (hH1 _ _);exact h162)|(apply OQ.load;exact bg;rfl;exact (hH1 _ _);exact h163)|(apply OQ.load;exact bg;rfl;exact (hH1 _ _);exact h164)|(apply OQ.load;exact ef;rfl;exact (hH1 _ _);exact hkp)|(apply OQ.len (k:=kk.l.length) (ad:=kk.ad) (cap:=kk.cap);exact Tryd.underlying24;rfl)|(apply OQ.cw;rfl;rfl;rfl;exact (by decide);rfl)) rfl ?_ | refine JC.seq ?_ | refine JC.region ?_ | refine JC.exit ?_ | refine JE.next ?_ | refine JE.aB ?_ | refine JE.aG ?_)
  obtain ⟨L4,hL4⟩ : ∃ L4,[t.sent,t.taken,t.prev,kk.l.length]=L4:=⟨_,rfl⟩
  have hL4n : L4=zT t:=by rw [← hL4,he];rfl
  have hL4l : L4.length=4:=by rw [← hL4];rfl
  have hL4b : ∀ i,i<4→L4.getD i 0<4611686018427387904:=fun i hi=>by
    rw [← hL4]
    have h4 : i=0∨i=1∨i=2∨i=3:=by omega
    rcases h4 with rfl | rfl | rfl | rfl
    · show t.sent<_;omega
    · show t.taken<_;omega
    · show t.prev<_;omega
    · show kk.l.length<_;omega
  refine JL.q (OQ.dZ (cs:=L4.map fun n=>N n) [0,1,2,3] [.tmp 44,.tmp 46,.tmp 48,.tmp 51] (vs:=[N t.sent,N t.taken,N t.prev,N kk.l.length]) rfl rfl (by rw [← hL4];kernel_rfl)) rfl ?_
  repeat (first | refine JL.q (by (apply OQ.move;rfl)) rfl ?_ | refine JC.block ?_ | refine JL.nil ?_ | refine JE.next ?_)
  refine JC.loop (fun s : En=>[(1,Pt b1 0),(4,aA (some s.q) (hd++(L4.take s.i).flatMap b4).length),(52,.agg (L4.map fun n=>N n).toArray),(53,N s.i)]) (fun s=>aZ 5 (some s.q) ((hd++(L4.take s.i).flatMap b4).map U8)++[⟨b1,Row 26 (sec t kk.v),true⟩]) (fun s=>4 - s.i) (fun s=>s.i≤4) ⟨0,q⟩ (by show 0≤4;decide) (by simp only [List.take_zero,List.flatMap_nil,List.append_nil];exact (by repeat (first | exact aj.nil | refine aj.cons _ _ _ rfl ?_))) (by simp only [List.take_zero,List.flatMap_nil,List.append_nil];exact ax.refl _) ?_
  clear q
  rintro ⟨i,q⟩ hi
  dsimp only at hi ⊢
  repeat (first | refine JL.q (by (apply OQ.cF;rfl;rfl)) rfl ?_ | refine JC.seq ?_ | refine JC.region ?_ | refine JL.nil ?_ | refine JE.next ?_)
  refine JC.cond rfl (fun hc=>?_) (fun hc=>?_)
  · have hi' : i<4:=of_decide_eq_true hc
    clear hc
    have hft:=jK b4 (l:=L4) (i:=i) 0 (by omega)
    have hfl : ((L4.take i).flatMap b4).length≤16:=by rw [sR,List.length_take];omega
    have hbd:=hL4b i hi'
    have hat : (L4.map fun n=>N n)[i]?=some (N (L4.getD i 0)):=dx (fun n : Nat=>N n) 0 (by omega)
    generalize L4.getD i 0=m at hft hbd hat
    generalize (L4.take i).flatMap b4=xs at hft hfl
    repeat (first | refine JL.q (by first|(apply OQ.index (len:=4) (i:=i) (cs:=L4.map fun n=>N n) (v:=N m);exact Tryd.underlying74;exact zx;exact bg;rfl;rfl;exact hi';exact hat)|(apply OQ.move;rfl)|(apply OQ.assign;rfl)) rfl ?_ | refine JC.seq ?_ | refine JC.region ?_ | refine JC.block ?_ | refine JC.skip ?_ | refine JL.nil ?_ | refine JE.next ?_)
    refine JL.Bp (q:=some q) (xs:=hd++xs) (m:=m) nofun (by rw [List.length_append];omega) (by omega) rfl rfl rfl fun r=>?_
    rw [List.append_assoc,← hft]
    repeat (first | refine JL.q (by first|(apply OQ.move;rfl)|(apply OQ.assign;rfl)|(apply OQ.bH;rfl;rfl;exact (by (try simp only []);omega))) rfl ?_ | refine JC.region ?_ | refine JL.nil ?_ | refine JE.next ?_ | refine JE.az ?_)
    exact JE.again (i:=En.mk i q) ⟨i+1,r⟩ hi' (by dsimp only;omega) (by repeat (first | exact aj.nil | refine aj.cons _ _ _ rfl ?_)) (ax.refl _)
  have hi' : i=4:=by have h9 : ¬ i<4:=of_decide_eq_false hc;omega
  subst hi'
  clear hc hi
  have ht4 : L4.take 4=L4:=List.take_of_length_le (by omega)
  rw [ht4]
  obtain ⟨h2,hh2⟩ : ∃ h2,hd++L4.flatMap b4=h2:=⟨_,rfl⟩
  have hh2l : h2.length≤200:=by rw [← hh2,List.length_append,sR];omega
  rw [hh2]
  repeat (first | refine JL.q (by first|(apply OQ.load;exact ef;rfl;exact (hH1 _ _);exact hkp)|(apply OQ.len (k:=kk.l.length) (ad:=kk.ad) (cap:=kk.cap);exact Tryd.underlying24;rfl)|(apply OQ.move;rfl)|(apply OQ.cw;rfl;rfl;rfl;exact (by decide);rfl)) rfl ?_ | refine JC.seq ?_ | refine JC.region ?_ | refine JC.block ?_ | refine JC.exit ?_ | refine JL.nil ?_ | refine JE.next ?_ | refine JE.aB ?_ | refine JE.aG ?_)
  refine JC.loop (fun s : En=>[(1,Pt b1 0),(4,aA (some s.q) (h2++(t.kept.take s.i).flatMap pH).length),(61,kk.v),(62,N kk.l.length),(63,N s.i)]) (fun s=>aZ 5 (some s.q) ((h2++(t.kept.take s.i).flatMap pH).map U8)++[⟨b1,Row 26 (sec t kk.v),true⟩]) (fun s=>kk.l.length - s.i) (fun s=>s.i≤kk.l.length) ⟨0,q⟩ (Nat.zero_le _) (by simp only [List.take_zero,List.flatMap_nil,List.append_nil];exact (by repeat (first | exact aj.nil | refine aj.cons _ _ _ rfl ?_))) (by simp only [List.take_zero,List.flatMap_nil,List.append_nil];exact ax.refl _) ?_
  clear q
  rintro ⟨i,q⟩ hi
  dsimp only at hi ⊢
  repeat (first | refine JL.q (by (apply OQ.cF;rfl;rfl)) rfl ?_ | refine JC.seq ?_ | refine JC.region ?_ | refine JL.nil ?_ | refine JE.next ?_)
  refine JC.cond rfl (fun hc=>?_) (fun hc=>?_)
  · have hi' : i<kk.l.length:=of_decide_eq_true hc
    clear hc
    obtain ⟨b,j,eA,lb,cA⟩:=hk.at hi'
    have hft:=jK pH (l:=t.kept) (i:=i) oN (by rw [← he];exact hi')
    have hfl:=v5 ht.kept i (by rw [← he];exact hi)
    rw [← he] at hft hfl
    have hmem : kk.l.getD i oN ∈ kk.l:=by rw [List.getD_eq_getElem?_getD,List.getElem?_eq_getElem hi'];exact List.getElem_mem hi'
    have hok:=hk.all _ hmem
    have hnum:=hkm _ (by rw [← he];exact hmem)
    rw [← he]
    generalize kk.l.getD i oN=x at cA hft hok hnum
    generalize (kk.l.take i).flatMap pH=xs at hft hfl
    have h65:=j0 hok
    have hkv : kk.v=.slice (some ⟨b,j,none⟩) kk.l.length kk.cap:=by rw [← eA];rfl
    have hc1 : ∀ o,Row 57 (c6 x) o→aY o 0 (x.chain.map U8):=Row.cells (lO hok)
    have hc2 : ∀ o,Row 57 (c6 x) o→aY o 33 (x.key.map U8):=Row.cells (qC hok)
    have hc3 : ∀ o,Row 57 (c6 x) o→cellAt o 32=some (N x.num):=Row.cell (qB hok)
    rw [hkv]
    repeat (first | refine JL.q (by first|(apply OQ.gw (i:=i);exact Tryd.underlying24;exact qz;rfl;rfl;exact hi')|(apply OQ.bJ (cs:=c6 x);exact Fv;rfl;exact (h65 ▸ qz);exact lb;exact (by simp);exact cA)) rfl ?_ | refine JC.seq ?_ | refine JC.region ?_ | refine JC.block ?_ | refine JC.skip ?_ | refine JE.next ?_)
    refine JL.alloc GX rfl fun b10 _=>?_
    refine JL.ag (cs:=c6 x) qz rfl rfl h65 (mR x) .here rfl ?_
    rw [← hkv]
    refine JL.perm (M':=aZ 5 (some q) ((h2++xs).map U8)++[⟨b10,Row 57 (c6 x),true⟩,⟨b1,Row 26 (sec t kk.v),true⟩]) ?_ (vZ _ _ _)
    repeat (first | refine JL.q (by first|(apply OQ.iT;exact Tryd.underlying23;exact dH;rfl)|(apply OQ.move;rfl)|(apply OQ.cw;rfl;rfl;rfl;exact (by decide);rfl)) rfl ?_ | refine JC.seq ?_ | refine JC.region ?_ | refine JL.nil ?_ | refine JE.next ?_)
    refine JL.qJ (q:=q) (xs:=h2++xs) (ys:=x.chain) (b:=b10) (j:=0) (cap:=32) rfl (by rw [hok.c];rfl) .here hc1 (fun e=>by have:=hok.c;rw [e] at this;cases this) (by rw [List.length_append,hok.c];omega) rfl fun q1=>?_
    have hH10 : ∀ (q : Nat × Nat) (ys : List Value),Has (aZ 5 (some q) ys++[(⟨b10,Row 57 (c6 x),true⟩ : aJ),⟨b1,Row 26 (sec t kk.v),true⟩]) b10 (Row 57 (c6 x)) true:=fun _ _=>.there .here
    repeat (first | refine JL.q (by first|(apply OQ.load;exact bg;rfl;exact (hH10 _ _);exact hc3)|(apply OQ.move;rfl)|(apply OQ.assign;rfl)|(apply OQ.cw;rfl;rfl;rfl;exact (by decide);rfl)) rfl ?_ | refine JC.seq ?_ | refine JC.region ?_ | refine JL.nil ?_ | refine JE.next ?_)
    refine JL.Bp (q:=some q1) (xs:=h2++xs++x.chain) (m:=x.num) nofun (by rw [List.length_append,List.length_append,hok.c];omega) (by omega) rfl rfl rfl fun r=>?_
    repeat (first | refine JL.q (by first|(apply OQ.iT;exact Tryd.underlying23;exact dH;rfl)|(apply OQ.move;rfl)|(apply OQ.assign;rfl)|(apply OQ.cw;rfl;rfl;rfl;exact (by decide);rfl)) rfl ?_ | refine JC.region ?_ | refine JL.nil ?_ | refine JE.next ?_)
    refine JL.qJ (q:=r) (xs:=h2++xs++x.chain++b4 x.num) (ys:=x.key) (b:=b10) (j:=33) (cap:=32) rfl (by rw [hok.k];rfl) .here hc2 (fun e=>by have:=hok.k;rw [e] at this;cases this) (by rw [List.length_append,List.length_append,List.length_append,hok.c,hok.k,eo];omega) rfl fun q2=>?_
    have hfin : h2++xs++x.chain++b4 x.num++x.key=h2++(kk.l.take (i+1)).flatMap pH:=by rw [hft];unfold pH;simp only [List.append_assoc]
    rw [hfin]
    refine JL.gj (M':=aZ 5 (some q2) ((h2++(kk.l.take (i+1)).flatMap pH).map U8)++[⟨b1,Row 26 (sec t kk.v),true⟩]) (iH (.drop _ _ _ (ax.refl _)) _) ?_
    repeat (first | refine JL.q (by first|(apply OQ.move;rfl)|(apply OQ.assign;rfl)|(apply OQ.bH;rfl;rfl;exact (by (try simp only []);omega))) rfl ?_ | refine JC.region ?_ | refine JL.nil ?_ | refine JE.next ?_ | refine JE.az ?_)
    exact JE.again (i:=En.mk i q) ⟨i+1,q2⟩ hi' (by dsimp only;omega) (by repeat (first | exact aj.nil | refine aj.cons _ _ _ rfl ?_)) (ax.refl _)
  have hi' : i=kk.l.length:=by have h9 : ¬ i<kk.l.length:=of_decide_eq_false hc;omega
  subst hi'
  have htl : t.kept.take kk.l.length=t.kept:=List.take_of_length_le (by rw [he];exact Nat.le_refl _)
  have hco : bI t=h2++t.kept.flatMap pH:=by rw [sS,← hh2,hL4n,List.append_assoc,hhe]
  rw [htl,← hco]
  repeat (first | refine JL.q (by first|(apply OQ.move;rfl)|(apply OQ.assign;rfl)) rfl ?_ | refine JC.seq ?_ | refine JC.region ?_ | refine JC.exit ?_ | refine JL.nil ?_ | refine JE.next ?_ | refine JE.aB ?_ | refine JE.aG ?_)
  refine JC.ret ?_
  skip
  exact JE.fQ rfl (RV.tmp rfl) (RV.tmp rfl) fun w' hw=>⟨q,rfl,hw.weak (fh _ _)⟩
theorem cZ.back {w : World} {k : cZ} {s : fY} (h : k.nat.ok w) (hr : bw s) (hs : s.ok) (he : k.l=s.kept) : k.ok w:=by
  refine ⟨by simpa [cZ.nat] using h.len,?_,?_⟩
  · have h1:=hr.kept
    have h2 : Reads w k.ad (bS (k.l.map iB.nat)).flatten:=h.reads
    rw [he] at h2 ⊢
    rw [h1]
    exact h2
  · rw [he];exact hs.kept
theorem zV (s : fY) (k : cZ) (hs : s.ok) (he : k.l=s.kept) (hr : bw s) (w : World) (hk : k.ok w) :
    Calls Tryd.prog 16 [.agg (dr s k.v).toArray].toArray w fun e w'=>∃ q : Nat × Nat,e=.returned (.tuple #[aA (some q) (bI s.nat).length,N 0])∧ah w [] (aZ 5 (some q) ((bI s.nat).map U8)) w':=by
  have hcs:=hr.cells k.v
  have hm:=hr.most
  have:=zU s.nat k.nat (fY.jG hs) (by show k.l.map iB.nat=s.kept.map iB.nat;rw [he]) hm.1 hm.2.1 hm.2.2 (fun y hy=>by
      obtain ⟨x,hx,rfl⟩:=List.mem_map.1 hy
      obtain ⟨i,hi,rfl⟩:=List.mem_iff_getElem.1 hx
      have h1:=hr.num i hi
      rw [List.getD_eq_getElem?_getD,List.getElem?_eq_getElem hi] at h1
      unfold jF at h1
      show (s.kept[i]).num.toNat≤_
      have h2 : ((some s.kept[i]).getD bR).num=s.kept[i].num:=rfl
      omega) (by rw [fY.qF];exact hr.len) w (cZ.jG hk hr hs he) (fun w' hk'=>by
      rw [cZ.zH,← hcs]
      exact (jJ s k hs he w' (cZ.back hk' hr hs he)).mono fun e w'' ⟨⟨b,hb⟩,e1,h⟩=>⟨e1.trans (congrArg (fun b=>Ending.returned (.bool b)) (hb.2 hr)),h⟩)
  rw [cZ.zH,← hcs] at this
  exact this
set_option maxHeartbeats 8000000 in
theorem BJ (s : fY) (k : cZ) (hs : s.ok) (he : k.l=s.kept) (hr : ¬ bw s) (w : World) (hk : k.ok w) :
    Calls Tryd.prog 16 [.agg (dr s k.v).toArray].toArray w fun e w'=>e=.returned (.tuple #[.slice none 0 0,N 1])∧Ext w w':=by
  have cR : ∀ w' : World,k.ok w'→Calls Tryd.prog 37 [.agg (dr s k.v).toArray].toArray w' fun e w''=>e=.returned (.bool false)∧Ext w' w'':=fun w' hk'=>(jJ s k hs he w' hk').mono fun e w'' ⟨⟨b,hb⟩,e1,h⟩=>⟨by
    have : b=false:=by cases b;rfl;exact absurd (hb.1 rfl) hr
    exact e1.trans (congrArg (fun b=>Ending.returned (.bool b)) this),h⟩
  have hn:=vV hs k.v
  refine enter (n:=81) Tryd.func16 rfl rfl rfl (ah.start w []) ?_
  repeat (first | refine JC.seq ?_ | refine JC.region ?_)
  refine JL.box (r:=dr s k.v) rfl rfl rfl fun b1 _=>?_
  repeat (first | refine JL.q (by first|(apply OQ.af (cs:=dr s k.v);exact fL;exact dn;rfl;exact .here;exact hn;exact Row.all)|(apply OQ.an (vs:=[.agg (dr s k.v).toArray]);exact iS;rfl;exact (fun w' hw'=>cR w' (hk.gK hw' rfl)))|(apply OQ.not;rfl)|(apply OQ.assign;rfl)) rfl ?_ | refine JC.seq ?_ | refine JC.region ?_ | refine JL.nil ?_ | refine JE.next ?_)
  refine JC.cond_true rfl rfl ?_
  repeat (first | refine JL.q (by (apply OQ.assign;rfl)) rfl ?_ | refine JC.seq ?_ | refine JC.region ?_ | refine JL.nil ?_ | refine JE.next ?_)
  refine JC.ret ?_
  repeat (refine JE.aN ?_)
  exact JE.fQ rfl (RV.tmp rfl) (RV.tmp rfl) fun w' hw=>⟨rfl,hw.aH⟩
end
section
set_option maxRecDepth 10000
open Sl ec gE cV gB
open iZ (Bk)
theorem sU (s : bC) (k : fX) (hs : s.ok) (he : k.l=s.kept) (hk0 : s.kept.length≤1000000) (hst : s.sent≤2147483648) (hpv : s.prev≤2147483648) (side p : aT) (hsl : side.l.length≤1000000) (hpl : p.l.length≤1000000) (w : World) (hG : fI w) (hQ : GQ w) (hk : k.ok w) (hside : side.ok w) (hp : p.ok w) :
    Calls Tryd.prog 9 [.agg (sec s k.v).toArray,side.v,p.v].toArray w fun e w'=>∃ r : Fw (gr s side.l p.l),e=.returned (.tuple #[.agg (sec (gr s side.l p.l).1 (aA r.q (gr s side.l p.l).1.kept.length)).toArray,aA r.x (gr s side.l p.l).2.1.length,N (gr s side.l p.l).2.2])∧ah w [] [] w':=
  (zD s k hs he hk0 hst hpv side p hsl hpl w hG hQ hk hside hp).mono fun _ _ ⟨r,e,h⟩=>⟨r,e,h.weak (ax.nil _)⟩
def zW : fX:=⟨none,0,[]⟩
theorem sV (w : World) : zW.ok w:=⟨Nat.le_refl _,Reads.nil _ _,nofun⟩
def oq : Bk:=5::List.replicate 31 0
def jL : Bk:=1::List.replicate 31 0
theorem oC : aR Tryd.prog 6:=⟨_,Tryd.func6,rfl,by kernel_rfl⟩
set_option maxHeartbeats 16000000 in
theorem qK (w : World) (hG : fI w) (hQ : GQ w) : Calls Tryd.prog 6 ([] : List Value).toArray w fun e w'=>e=.returned (.bool true)∧Ext w w':=by
  have c1:=fun w'=>zm jL rfl w'
  have hY : (cu jL (mJ 9)).length=32:=kg _
  generalize cu jL (mJ 9)=Y at c1 hY
  have c2:=fun w'=>uN oq jL Y rfl rfl hY w'
  have c3:=fun (w' : World) (h1 : fI w')=>xd oq jL Y Y rfl rfl hY hY w' h1
  have s2:=nZ oq jL rfl rfl
  have s1:=pn oq jL Y rfl hY
  have e2 : gr (ew oq jL) [] []=(ew oq jL,[],13):=zC rfl _ _
  have e1 : gr (eO oq jL Y) [] [1]=(uE (eO oq jL Y),uF (eO oq jL Y) [] [1],0):=vU rfl (by show ¬ 2147483647≤0;decide) _ _
  have hl1 : (uF (eO oq jL Y) [] [1]).length=73:=by
    rw [uF,List.length_append,pY (show (qy (eO oq jL Y)).chain.length=32 from nY _)]
    show 40+(mz _ _ Ec _ _).length=73
    rw [kf]
    rfl
  have s3:=vS s1
  have d2:=fun (w' : World) (h1 : fI w') (h2 : GQ w')=>sU (ew oq jL) zW s2 rfl (by show (0 : Nat)≤_;decide) (by show (0 : Nat)≤_;decide) (by show (0 : Nat)≤_;decide) jX jX (by show (0 : Nat)≤_;decide) (by show (0 : Nat)≤_;decide) w' h1 h2 (sV _) (mQ _) (mQ _)
  have d1:=fun (b : Nat) (w' : World) (h1 : fI w') (h2 : GQ w') (h3 : aT.ok w' ⟨some ⟨b,0,none⟩,1,[1]⟩)=>sU (eO oq jL Y) zW s1 rfl (by show (0 : Nat)≤_;decide) (by show (0 : Nat)≤_;decide) (by show (0 : Nat)≤_;decide) jX ⟨some ⟨b,0,none⟩,1,[1]⟩ (by show (0 : Nat)≤_;decide) (by show (1 : Nat)≤_;decide) w' h1 h2 (sV _) (mQ _) h3
  have n2:=fun (v : Value)=>au s2 v
  have n3:=fun (v : Value)=>au s3 v
  have n1:=au s1 aq
  have i1:=Fe (a:=jL) (b:=Y) rfl
  have lY : (Y.map U8).length=32:=by rw [List.length_map,hY]
  rw [show jX.l=[] from rfl,e2] at d2
  dsimp only at d1
  rw [show jX.l=[] from rfl,e1] at d1
  clear e1 e2
  have k2 : (ew oq jL).kept.length=0:=rfl
  have k3 : (uE (eO oq jL Y)).kept.length=0:=rfl
  simp only [k2] at d2
  simp only [k3,hl1] at d1
  generalize ew oq jL=S2 at *
  generalize uE (eO oq jL Y)=S3 at *
  generalize eO oq jL Y=S1 at *
  generalize uF S1 [] [1]=Z at *
  refine enter (n:=47) Tryd.func6 rfl rfl rfl (ah.start w []) ?_
  repeat (first | refine JL.q (by (apply OQ.assign;rfl)) rfl ?_ | refine JC.seq ?_ | refine JC.region ?_ | refine JL.nil ?_ | refine JE.next ?_)
  refine JL.q (OQ.pure (v:=.agg (jL.map U8).toArray) rfl rfl (by kernel_rfl)) rfl ?_
  repeat (refine JL.q (by (apply OQ.an (vs:=[.agg (jL.map U8).toArray]);exact wY;rfl;exact (fun w' _=>c1 w'))) rfl ?_)
  refine JL.alloc Fc rfl fun b1 _=>?_
  refine JL.ag (cs:=(jL++Y).map U8) wX rfl rfl (by rw [List.length_map,List.length_append,hY];rfl) (cQ _) .here rfl ?_
  repeat (first | refine JC.seq ?_ | refine JC.region ?_ | refine JL.nil ?_ | refine JE.next ?_)
  refine JL.q (OQ.pure (v:=.agg (oq.map U8).toArray) rfl rfl (by kernel_rfl)) rfl ?_
  have lP : ((jL++Y).map U8).length=64:=by rw [List.length_map,List.length_append,hY];rfl
  repeat (refine JL.q (by first|(apply OQ.af (cs:=(jL++Y).map U8);exact Bi;exact wX;rfl;exact .here;exact lP;exact Row.all)|(apply OQ.an (vs:=[.agg (oq.map U8).toArray,.agg ((jL++Y).map U8).toArray]);exact sF;rfl;exact (fun w' _=>c2 w'))) rfl ?_)
  refine JL.alloc qQ rfl fun b2 _=>?_
  refine JL.ag (cs:=sec S2 aq) dn rfl rfl (n2 _) (bA rfl) .here (au aC _) ?_
  repeat (first | refine JL.q (by (apply OQ.af (cs:=sec S2 aq);exact fL;exact dn;rfl;exact .here;exact (n2 _);exact Row.all)) rfl ?_ | refine JC.seq ?_ | refine JC.region ?_ | refine JL.nil ?_ | refine JE.next ?_)
  refine JL.dK (ι:=Fw (S2,[],13)) (vs:=[.agg (sec S2 aq).toArray,jX.v,jX.v]) (fun r=>.tuple #[.agg (sec S2 (aA r.q 0)).toArray,aA r.x 0,N 13]) (fun _=>[]) pD rfl rfl (fun _=>nofun) (fun w' hw'=>d2 w' (hG.aH hw'.aH (by simp)) (hQ.aH hw'.aH (by simp))) ?_
  rintro ⟨q2,x2,_,_⟩
  try dsimp only
  simp only [List.nil_append]
  obtain ⟨v2,hv2,hvo2⟩ : ∃ v,aA q2 0=v∧v.oneCell'=true:=⟨_,rfl,by cases q2 <;> rfl⟩
  rw [hv2]
  repeat (refine JL.q (by first|(apply OQ.extract;rfl;rfl)|(apply OQ.move;rfl)) rfl ?_)
  refine JL.alloc qQ rfl fun b3 _=>?_
  refine JL.ag (cs:=sec S2 v2) dn rfl rfl (n2 _) (bA hvo2) .here (au aC _) ?_
  repeat (first | refine JL.q (by (apply OQ.assign;rfl)) rfl ?_ | refine JC.seq ?_ | refine JC.region ?_ | refine JL.nil ?_ | refine JE.next ?_)
  refine JL.q (OQ.pure (v:=.agg (oq.map U8).toArray) rfl rfl (by kernel_rfl)) rfl ?_
  repeat (refine JL.q (by first|(apply OQ.af (cs:=(jL++Y).map U8);exact Bi;exact wX;rfl;exact (.there (.there .here));exact lP;exact Row.all)|(apply OQ.af (cs:=Y.map U8);exact bB;exact aO;rfl;exact (.there (.there .here));exact lY;exact (Row.cells i1))|(apply OQ.an (vs:=[.agg (oq.map U8).toArray,.agg ((jL++Y).map U8).toArray,.agg (Y.map U8).toArray]);exact uM;rfl;exact (fun w' hw'=>c3 w' (hG.aH hw'.aH (by simp))))|(apply OQ.cw;rfl;rfl;rfl;exact (by decide);rfl)) rfl ?_)
  refine JL.gy (v:=U8 (1 : BitVec 8)) Tryd.underlying27 qN rfl rfl rfl rfl fun bl _=>?_
  refine JL.dK (ι:=Fw (S3,Z,0)) (vs:=[.agg (sec S1 aq).toArray,jX.v,.slice (some ⟨bl,0,none⟩) 1 1]) (fun r=>.tuple #[.agg (sec S3 (aA r.q 0)).toArray,aA r.x 73,N 0]) (fun _=>[]) pD rfl rfl (fun _=>nofun) (fun w' hw'=>d1 bl w' (hG.aH hw'.aH (by simp)) (hQ.aH hw'.aH (by simp)) (ju (l:=[1]) hw' .here rfl (Nat.le_refl _))) ?_
  rintro ⟨q3,x3,_,hx3⟩
  try dsimp only
  simp only [List.nil_append]
  obtain ⟨v3,hv3,hvo3⟩ : ∃ v,aA q3 0=v∧v.oneCell'=true:=⟨_,rfl,by cases q3 <;> rfl⟩
  rw [hv3]
  obtain ⟨a2,c2',hy2⟩ : ∃ a c,aA x2 0=.slice a 0 c:=by cases x2 <;> exact ⟨_,_,rfl⟩
  obtain ⟨a3,c3',hy3⟩ : ∃ a c,aA x3 73=.slice a 73 c:=by
    cases x3 with
    | none=>exact absurd (hx3 rfl) (fun h=>by have h' : Z=[]:=h;rw [h'] at hl1;cases hl1)
    | some r=>exact ⟨_,_,rfl⟩
  rw [hy2,hy3]
  repeat (refine JL.q (by first|(apply OQ.extract;rfl;rfl)|(apply OQ.move;rfl)) rfl ?_)
  refine JL.alloc qQ rfl fun b6 _=>?_
  refine JL.ag (cs:=sec S3 v3) dn rfl rfl (n3 _) (bA hvo3) .here (au aC _) ?_
  repeat (first | refine JL.q (by first|(apply OQ.Ek;rfl;rfl;rfl)|(apply OQ.len (k:=0);exact Tryd.underlying27;rfl)|(apply OQ.len (k:=73);exact Tryd.underlying27;rfl)|(apply OQ.bV;rfl;rfl)|(apply OQ.move;rfl)|(apply OQ.assign;rfl)) rfl ?_ | refine JC.seq ?_ | refine JC.region ?_ | refine JL.nil ?_ | refine JE.next ?_ | refine JL.bn rfl rfl ?_)
  exact JC.ret (JE.aM rfl (RV.tmp rfl) fun w' hw=>⟨rfl,hw.aH⟩)
end
section
set_option maxRecDepth 10000
open Sl ec gE cV gB
open iZ (Bk)
theorem Cp (a b c d : BitVec 8) : fF.bP [a,b,c,d]=16777216 * a.toNat+65536 * b.toNat+256 * c.toNat+d.toNat:=by
  simp only [fF.bP,List.foldl]
  omega
theorem er : aR Tryd.prog 43:=⟨_,Tryd.func43,rfl,by kernel_rfl⟩
set_option maxHeartbeats 8000000 in
theorem xp (s : aT) (h4 : s.l.length=4) (w : World) (hs : s.ok w) : Calls Tryd.prog 43 [s.v].toArray w fun e w'=>e=.returned (N (fF.bP s.l))∧Ext w w':=by
  obtain ⟨b,j,eA,cA⟩:=hs.reads.at (by rw [List.length_map];omega)
  obtain ⟨ad,cap,l⟩:=s
  dsimp only at h4 eA cA
  subst eA
  match l,h4 with
  | [a0,a1,a2,a3],_=>
  have g0:=cA 0 _ rfl
  have g1:=cA 1 _ rfl
  have g2:=cA 2 _ rfl
  have g3:=cA 3 _ rfl
  have hb : b<w.heap.size:=block_lt_of_cell g0
  have b0:=a0.isLt
  have b1:=a1.isLt
  have b2:=a2.isLt
  have b3:=a3.isLt
  rw [Cp]
  refine enter (n:=25) Tryd.func43 rfl rfl rfl (ah.start w []) ?_
  repeat (first | refine JL.q (by (apply OQ.assign;rfl)) rfl ?_ | refine JC.seq ?_ | refine JC.region ?_ | refine JL.nil ?_ | refine JE.next ?_)
  refine JC.quiet iV (by kernel_rfl) ?_
  repeat (first | refine JQ.q (by first|(apply OQ.eC (i:=0) (len:=4) (cap:=cap) (b:=b) (j:=j);exact Tryd.underlying27;exact dH;rfl;rfl;exact (by decide))|(apply OQ.eC (i:=1) (len:=4) (cap:=cap) (b:=b) (j:=j);exact Tryd.underlying27;exact dH;rfl;rfl;exact (by decide))|(apply OQ.eC (i:=2) (len:=4) (cap:=cap) (b:=b) (j:=j);exact Tryd.underlying27;exact dH;rfl;rfl;exact (by decide))|(apply OQ.eC (i:=3) (len:=4) (cap:=cap) (b:=b) (j:=j);exact Tryd.underlying27;exact dH;rfl;rfl;exact (by decide))|(apply OQ.aL;exact om;rfl;exact hb;exact (by simp);exact g0)|(apply OQ.aL;exact om;rfl;exact hb;exact (by simp);exact g1)|(apply OQ.aL;exact om;rfl;exact hb;exact (by simp);exact g2)|(apply OQ.aL;exact om;rfl;exact hb;exact (by simp);exact g3)|(apply OQ.vj;exact Tryd.underlying5;exact Tryd.underlying3;rfl)|(apply OQ.gN (a:=16777216) (b:=a0.toNat);rfl;rfl;exact (by omega))|(apply OQ.gN (a:=65536) (b:=a1.toNat);rfl;rfl;exact (by omega))|(apply OQ.gN (a:=256) (b:=a2.toNat);rfl;rfl;exact (by omega))|(apply OQ.move;rfl)|(apply OQ.assign;rfl)|(apply OQ.bH;rfl;rfl;exact (by (try simp only []);omega))) rfl ?_ | refine JQ.nil ?_ | refine JE.next ?_)
  refine JC.ret (JE.aM rfl (RV.tmp rfl) ?_)
  exact fun w' hw=>⟨rfl,hw.aH⟩
theorem Cq {s : aT} {lo k hi : Nat} (h : hi≤s.l.length) (hk : lo+k=hi) : aT.v ⟨(s.snd lo).ad,(s.snd lo).cap,(s.l.drop lo).take k⟩=.slice (if s.cap=lo then s.ad else s.ad.map (·.add (lo * 1))) (hi - lo) (s.cap - lo):=by
  show Value.slice _ ((s.l.drop lo).take k).length _=_
  rw [List.length_take,List.length_drop,Nat.min_eq_left (by omega),show hi - lo=k by omega]
  rfl
theorem zX {s : aT} {w : World} (h : s.ok w) {lo k : Nat} (hl : lo≤s.l.length) : aT.ok w ⟨(s.snd lo).ad,(s.snd lo).cap,(s.l.drop lo).take k⟩:=by
  have h1:=h.snd lo hl
  refine ⟨Nat.le_trans (by show ((s.l.drop lo).take k).length≤(s.l.drop lo).length;rw [List.length_take];omega) h1.len,fun i v hv=>h1.reads i v ?_⟩
  rw [List.map_take,List.getElem?_take] at hv
  split at hv
  · exact hv
  · cases hv
def uT (z : Bk) (i : Nat) : Bk:=z.take i++List.replicate (32 - i) 0
theorem BK {z : Bk} {i : Nat} (hz : 32≤z.length) (hi : i≤32) : (uT z i).length=32:=by
  unfold uT
  rw [List.length_append,List.length_take,List.length_replicate,Nat.min_eq_left (by omega)]
  omega
end
section
set_option maxRecDepth 10000
open Sl ec gE cV gB
open iZ (Bk)
theorem zY {z : Bk} {i : Nat} (hz : 32≤z.length) (hi : i<32) : ((uT z i).map U8).set i (U8 (z.getD i 0))=(uT z (i+1)).map U8:=by
  have e : (uT z i).set i (z.getD i 0)=uT z (i+1):=by
    unfold uT
    have h1 : (z.take i).length=i:=by rw [List.length_take,Nat.min_eq_left (by omega)]
    rw [show 32 - i=(32 - (i+1))+1 by omega,List.replicate_succ,List.set_append_right _ _ (by omega),h1,Nat.sub_self,List.set_cons_zero,List.take_add_one,List.getElem?_eq_getElem (by omega),List.getD_eq_getElem?_getD,List.getElem?_eq_getElem (by omega)]
    simp only [Option.getD_some,Option.toList_some,List.append_assoc,List.singleton_append,List.cons_append,List.nil_append]
  rw [← e,List.map_set]
theorem eu : aR Tryd.prog 44:=⟨_,Tryd.func44,rfl,by kernel_rfl⟩
set_option maxHeartbeats 8000000 in
theorem zZ (s : aT) (h : 32≤s.l.length) (w : World) (hs : s.ok w) : Calls Tryd.prog 44 [s.v].toArray w fun e w'=>e=.returned (.agg ((s.l.take 32).map U8).toArray)∧Ext w w':=by
  obtain ⟨b,j,eA,cA⟩:=hs.reads.at (by rw [List.length_map];omega)
  obtain ⟨ad,cap,l⟩:=s
  dsimp only at h eA cA
  subst eA
  clear hs
  have hsv : aT.v ⟨some ⟨b,j,none⟩,cap,l⟩=.slice (some ⟨b,j,none⟩) l.length cap:=rfl
  rw [hsv]
  have hl32 : ((l.take 32).map U8).length=32:=by rw [List.length_map,List.length_take];omega
  refine enter (n:=17) Tryd.func44 rfl rfl rfl (ah.start w []) ?_
  repeat (first | refine JC.seq ?_ | refine JC.region ?_)
  refine JL.alloc iW rfl fun b2 _=>?_
  repeat (first | refine JC.seq ?_ | refine JC.region ?_ | refine JL.nil ?_ | refine JE.next ?_)
  refine JL.q (OQ.dZ (cs:=bO.map U8) [] [] (vs:=[]) rfl rfl (by kernel_rfl)) rfl ?_
  refine JL.alloc iW rfl fun b3 _=>?_
  refine JL.ag (cs:=bO.map U8) aO rfl rfl rfl (cQ _) .here (by simp) ?_
  repeat (first | refine JL.q (by (apply OQ.assign;rfl)) rfl ?_ | refine JC.seq ?_ | refine JC.region ?_ | refine JC.block ?_ | refine JL.nil ?_ | refine JE.next ?_)
  have hc0 : uT l 0=bO:=by unfold uT;rw [List.take_zero];rfl
  refine JC.loop (fun i : Nat=>[(0,.slice (some ⟨b,j,none⟩) l.length cap),(2,Pt b2 0),(3,Pt b3 0),(4,N i)]) (fun i=>[⟨b3,Row 23 ((uT l i).map U8),true⟩,⟨b2,Row 23 (bO.map U8),true⟩]) (fun i=>32 - i) (fun i=>i≤32) 0 (by decide) (by repeat (first | exact aj.nil | refine aj.cons _ _ _ rfl ?_)) (by rw [hc0];exact ax.refl _) ?_
  intro i hi
  dsimp only at hi ⊢
  repeat (first | refine JL.q (by first|(apply OQ.cF (a:=i) (b:=32);rfl;rfl)|(apply OQ.move;rfl)) rfl ?_ | refine JC.seq ?_ | refine JC.region ?_ | refine JL.nil ?_ | refine JE.next ?_)
  refine JC.cond rfl (fun hc=>?_) (fun hc=>?_)
  · have hi' : i<32:=of_decide_eq_true hc
    clear hc
    have hv:=cA i (U8 (l.getD i 0)) (by rw [List.getElem?_map,List.getElem?_eq_getElem (by omega),List.getD_eq_getElem?_getD,List.getElem?_eq_getElem (by omega)];rfl)
    have hb : b<w.heap.size:=block_lt_of_cell hv
    have hcl : ((uT l i).map U8).length=32:=by rw [List.length_map];exact BK (by omega) (by omega)
    have hst:=zY (z:=l) (i:=i) (by omega) hi'
    generalize (uT l i).map U8=C at hcl hst
    repeat (first | refine JL.q (by first|(apply OQ.eC (i:=i) (len:=l.length) (cap:=cap) (b:=b) (j:=j);exact Tryd.underlying27;exact dH;rfl;rfl;exact (by omega))|(apply OQ.aL;exact om;rfl;exact hb;exact (by simp);exact hv)|(apply OQ.aW (b:=b3);exact Tryd.underlying23;exact dH;rfl;rfl;exact hi')|(apply OQ.move;rfl)) rfl ?_ | refine JC.seq ?_ | refine JC.region ?_ | refine JC.block ?_ | refine JC.skip ?_ | refine JE.next ?_)
    refine JL.aU (r':=(uT l (i+1)).map U8) dH rfl rfl rfl rfl .here (by rw [hcl];exact hi') hst ?_
    repeat (first | refine JL.q (by first|(apply OQ.bH (a:=i) (b:=1);rfl;rfl;exact (by omega))|(apply OQ.move;rfl)|(apply OQ.assign;rfl)) rfl ?_ | refine JC.region ?_ | refine JL.nil ?_ | refine JE.next ?_ | refine JE.az ?_)
    exact JE.again (i:=i) (i+1) hi' (by omega) (by repeat (first | exact aj.nil | refine aj.cons _ _ _ rfl ?_)) (ax.refl _)
  have hi' : i=32:=by have h9 : ¬ i<32:=of_decide_eq_false hc;omega
  subst hi'
  clear hc hi
  have hcl : uT l 32=l.take 32:=by unfold uT;rw [Nat.sub_self];simp
  rw [hcl]
  repeat (first | refine JL.q (by (apply OQ.af (cs:=(l.take 32).map U8);exact bB;exact aO;rfl;exact .here;exact hl32;exact Row.all)) rfl ?_ | refine JC.seq ?_ | refine JC.region ?_ | refine JC.exit ?_ | refine JE.next ?_ | refine JE.aB ?_ | refine JE.aG ?_)
  refine JL.ag (cs:=(l.take 32).map U8) aO rfl rfl hl32 (cQ _) (.there .here) rfl ?_
  repeat (first | refine JL.nil ?_ | refine JE.next ?_)
  exact JC.ret (JE.aM rfl (RV.av bB aO rfl (.there .here) hl32 Row.all) fun w' hw=>⟨rfl,hw.aH⟩)
theorem z5 (s : aT) (h4 : 4≤s.l.length) (w : World) (hs : s.ok w) : Calls Tryd.prog 43 [s.v].toArray w fun e w'=>e=.returned (N (fF.bP (s.l.take 4)))∧Ext w w':=by
  obtain ⟨b,j,eA,cA⟩:=hs.reads.at (by rw [List.length_map];omega)
  obtain ⟨ad,cap,l⟩:=s
  dsimp only at h4 eA cA
  subst eA
  clear hs
  have hlen : (4 : Nat)≤l.length:=h4
  have hsv : aT.v ⟨some ⟨b,j,none⟩,cap,l⟩=.slice (some ⟨b,j,none⟩) l.length cap:=rfl
  match l,h4 with
  | a0::a1::a2::a3::rest,_=>
  have g0:=cA 0 _ rfl
  have g1:=cA 1 _ rfl
  have g2:=cA 2 _ rfl
  have g3:=cA 3 _ rfl
  clear cA
  have hb : b<w.heap.size:=block_lt_of_cell g0
  have b0:=a0.isLt
  have b1:=a1.isLt
  have b2:=a2.isLt
  have b3:=a3.isLt
  show Calls _ _ _ _ fun e w'=>e=.returned (N (fF.bP [a0,a1,a2,a3]))∧Ext w w'
  rw [Cp,hsv]
  generalize (a0::a1::a2::a3::rest).length=L at hlen
  refine enter (n:=25) Tryd.func43 rfl rfl rfl (ah.start w []) ?_
  repeat (first | refine JL.q (by (apply OQ.assign;rfl)) rfl ?_ | refine JC.seq ?_ | refine JC.region ?_ | refine JL.nil ?_ | refine JE.next ?_)
  refine JC.quiet iV (by kernel_rfl) ?_
  repeat (first | refine JQ.q (by first|(apply OQ.eC (i:=0) (len:=L) (cap:=cap) (b:=b) (j:=j);exact Tryd.underlying27;exact dH;rfl;rfl;exact (by omega))|(apply OQ.eC (i:=1) (len:=L) (cap:=cap) (b:=b) (j:=j);exact Tryd.underlying27;exact dH;rfl;rfl;exact (by omega))|(apply OQ.eC (i:=2) (len:=L) (cap:=cap) (b:=b) (j:=j);exact Tryd.underlying27;exact dH;rfl;rfl;exact (by omega))|(apply OQ.eC (i:=3) (len:=L) (cap:=cap) (b:=b) (j:=j);exact Tryd.underlying27;exact dH;rfl;rfl;exact (by omega))|(apply OQ.aL;exact om;rfl;exact hb;exact (by simp);exact g0)|(apply OQ.aL;exact om;rfl;exact hb;exact (by simp);exact g1)|(apply OQ.aL;exact om;rfl;exact hb;exact (by simp);exact g2)|(apply OQ.aL;exact om;rfl;exact hb;exact (by simp);exact g3)|(apply OQ.vj;exact Tryd.underlying5;exact Tryd.underlying3;rfl)|(apply OQ.gN (a:=16777216) (b:=a0.toNat);rfl;rfl;exact (by omega))|(apply OQ.gN (a:=65536) (b:=a1.toNat);rfl;rfl;exact (by omega))|(apply OQ.gN (a:=256) (b:=a2.toNat);rfl;rfl;exact (by omega))|(apply OQ.move;rfl)|(apply OQ.assign;rfl)|(apply OQ.bH;rfl;rfl;exact (by (try simp only []);omega))) rfl ?_ | refine JQ.nil ?_ | refine JE.next ?_)
  refine JC.ret (JE.aM rfl (RV.tmp rfl) ?_)
  exact fun w' hw=>⟨rfl,hw.aH⟩
section
variable {n : Nat} {w0 : World} {ops : Array Oper} {Q : Exit→Act→World→Prop} {l : List Oper} {E : Env} {M : List aJ} {d : Nat} {ty : TypeId} {pos : String} {aft : Array Edge} {x y : Operand}
theorem JL.Fm {q : Nat × Nat} {xs : Bk} (s : aT) (hs : s.ok w0) (e1 : ev E x=some (aA (some q) xs.length)) (e2 : ev E y=some s.v) (h0 : s.l≠[]) (hl : xs.length+s.l.length≤1000000000) (hd : Nat.blt d n=true)
    (kk : ∀ q' : Nat × Nat,JL Tryd.prog n w0 [] ops Q l ((d,aA (some q') (xs++s.l).length)::E) (aZ 5 (some q') ((xs++s.l).map U8)++M)) :
    JL Tryd.prog n w0 [] ops Q (⟨some d,.call ⟨.builtin .append,#[x,y],#[27,27]⟩,ty,pos,aft,none⟩::l) E (aZ 5 (some q) (xs.map U8)++M):=by
  have hx : (xs.map U8).length=xs.length:=List.length_map _
  refine JL.pX (xs:=xs.map U8) (cs:=s.l.map U8) (m:=s.l.length) (ad:=s.ad) (sc:=s.cap) (some q) Tryd.underlying27 qN nofun (by rw [hx];exact e1) e2 (List.length_map _) (fun w hw=>(hs.holds hw rfl).reads) (fun v hv=>by obtain ⟨q,_,rfl⟩:=List.mem_map.1 hv;rfl) rfl (by rw [hx];omega) (by rw [hx];omega) hd fun q' hq'=>?_
  cases q' with
  | none=>
    have:=hq' rfl
    have h1 : xs=[]∧s.l=[]:=by simpa using this
    exact absurd h1.2 h0
  | some q'=>
    have:=kk q'
    rw [List.map_append,List.length_append] at this
    rw [List.length_append,List.length_map,List.length_map]
    exact this
end
theorem pO : aR Tryd.prog 17:=⟨_,Tryd.func17,rfl,by kernel_rfl⟩
set_option maxHeartbeats 16000000 in
theorem sW (t : bC) (K : fX) (ht : t.ok) (he : K.l=t.kept) (hm1 : t.sent≤2147483647) (hm2 : t.taken≤2147483647) (hm3 : t.prev≤2147483647) (hkm : ∀ y ∈ t.kept,y.num≤2147483647) (hkl : t.kept.length≤2000) (w : World) (hk : K.ok w) :
    Calls Tryd.prog 17 [.agg (sec t K.v).toArray].toArray w fun e w'=>∃ q : Nat × Nat,e=.returned (aA (some q) (bI t).length)∧ah w [] (aZ 5 (some q) ((bI t).map U8)) w':=by
  have hn:=au ht K.v
  have hkp : ∀ o,Row 26 (sec t K.v) o→cellAt o 165=some K.v:=Row.cell (fk ht _)
  have h96 : ∀ o,Row 26 (sec t K.v) o→cellAt o 96=some (.bool t.ay):=Row.cell (e7 ht _)
  have h97 : ∀ o,Row 26 (sec t K.v) o→cellAt o 97=some (.bool t.takes):=Row.cell (iJ ht _)
  have h162 : ∀ o,Row 26 (sec t K.v) o→cellAt o 162=some (N t.sent):=Row.cell (gh ht _)
  have h163 : ∀ o,Row 26 (sec t K.v) o→cellAt o 163=some (N t.taken):=Row.cell (iK ht _)
  have h164 : ∀ o,Row 26 (sec t K.v) o→cellAt o 164=some (N t.prev):=Row.cell (hO ht _)
  refine enter (n:=83) Tryd.func17 rfl rfl rfl (ah.start w []) ?_
  repeat (first | refine JC.seq ?_ | refine JC.region ?_)
  refine JL.box (r:=sec t K.v) rfl rfl rfl fun b1 _=>?_
  repeat (refine JL.q (by (apply OQ.assign;rfl)) rfl ?_)
  refine JL.nil (JE.next ?_)
  refine JC.seq (JC.region ?_)
  repeat (refine JL.q (by (apply OQ.assign;rfl)) rfl ?_)
  refine JL.nil (JE.next ?_)
  obtain ⟨v1,hv1⟩ : ∃ m,t.ay=m:=⟨_,rfl⟩
  obtain ⟨v2,hv2⟩ : ∃ m,t.takes=m:=⟨_,rfl⟩
  rw [hv1] at h96
  rw [hv2] at h97
  refine JC.mid (ι:=Unit) (fun _=>[(1,Pt b1 0),(3,N (if v1 then 1 else 0))]) (fun _=>[⟨b1,Row 26 (sec t K.v),true⟩]) (fun _=>True) ?_ ?_
  · cases v1
    · repeat (first | refine JL.q (by first|(apply OQ.load;exact cg;rfl;exact .here;exact h96)|(apply OQ.cw;rfl;rfl;rfl;exact (by decide);rfl)) rfl ?_ | refine JC.seq ?_ | refine JC.region ?_ | refine JL.nil ?_ | refine JE.next ?_)
      refine JC.cond_false rfl rfl ?_
      repeat (refine JC.skip ?_)
      exact JE.mid () trivial (by repeat (first | exact aj.nil | refine aj.cons _ _ _ rfl ?_)) (ax.refl _)
    · repeat (first | refine JL.q (by first|(apply OQ.load;exact cg;rfl;exact .here;exact h96)|(apply OQ.cw;rfl;rfl;rfl;exact (by decide);rfl)) rfl ?_ | refine JC.seq ?_ | refine JC.region ?_ | refine JL.nil ?_ | refine JE.next ?_)
      refine JC.cond_true rfl rfl ?_
      repeat (first | refine JL.q (by first|(apply OQ.bH (a:=0) (b:=1);rfl;rfl;exact (by decide))|(apply OQ.move;rfl)|(apply OQ.assign;rfl)) rfl ?_ | refine JC.region ?_ | refine JL.nil ?_)
      exact JE.mid () trivial (by repeat (first | exact aj.nil | refine aj.cons _ _ _ rfl ?_)) (ax.refl _)
  intro _ _
  refine JC.mid (ι:=Unit) (fun _=>[(1,Pt b1 0),(3,N ((if v1 then 1 else 0)+(if v2 then 2 else 0)))]) (fun _=>[⟨b1,Row 26 (sec t K.v),true⟩]) (fun _=>True) ?_ ?_
  · cases v2
    · repeat (first | refine JL.q (by first|(apply OQ.load;exact cg;rfl;exact .here;exact h97)|(apply OQ.cw;rfl;rfl;rfl;exact (by decide);rfl)) rfl ?_ | refine JC.seq ?_ | refine JC.region ?_ | refine JL.nil ?_ | refine JE.next ?_)
      refine JC.cond_false rfl rfl ?_
      repeat (refine JC.skip ?_)
      exact JE.mid () trivial (by repeat (first | exact aj.nil | refine aj.cons _ _ _ rfl ?_)) (ax.refl _)
    · repeat (first | refine JL.q (by first|(apply OQ.load;exact cg;rfl;exact .here;exact h97)|(apply OQ.cw;rfl;rfl;rfl;exact (by decide);rfl)) rfl ?_ | refine JC.seq ?_ | refine JC.region ?_ | refine JL.nil ?_ | refine JE.next ?_)
      refine JC.cond_true rfl rfl ?_
      have hv3 : (if v1=true then 1 else 0)+2<9223372036854775808:=by cases v1 <;> decide
      generalize (if v1=true then 1 else 0)=u1 at hv3
      repeat (first | refine JL.q (by first|(apply OQ.bH (a:=u1) (b:=2);rfl;rfl;exact hv3)|(apply OQ.move;rfl)|(apply OQ.assign;rfl)) rfl ?_ | refine JC.region ?_ | refine JL.nil ?_)
      exact JE.mid () trivial (by repeat (first | exact aj.nil | refine aj.cons _ _ _ rfl ?_)) (ax.refl _)
  intro _ _
  have hsg : U8 (BitVec.ofNat 8 ((if v1=true then 1 else 0)+(if v2=true then 2 else 0)))=U8 (oB t.ay t.takes):=by rw [hv1,hv2];rfl
  have hun : ((if v1=true then 1 else 0)+(if v2=true then 2 else 0) : Nat)<9223372036854775808:=by cases v1 <;> cases v2 <;> decide
  generalize ((if v1=true then 1 else 0)+(if v2=true then 2 else 0) : Nat)=u at hsg hun
  repeat (first | refine JL.q (by first|(apply OQ.mP (a:=u);exact Tryd.underlying3;exact Tryd.underlying5;rfl)|(apply OQ.move;rfl)) rfl ?_ | refine JC.seq ?_ | refine JC.region ?_)
  rw [hsg]
  refine JL.gy (v:=U8 (oB t.ay t.takes)) Tryd.underlying27 qN rfl rfl rfl rfl fun bl _=>?_
  refine JL.gj (M':=aZ 5 (some (bl,1)) ([oB t.ay t.takes].map U8)++[⟨b1,Row 26 (sec t K.v),true⟩]) (.keep _ _ _ _ _ _ (fun o ho=>rq rfl o ho) (ax.refl _)) ?_
  have hS1 : ∀ (q : Nat × Nat) (xs : List Value),Has (aZ 5 (some q) xs++[(⟨b1,Row 26 (sec t K.v),true⟩ : aJ)]) b1 (Row 26 (sec t K.v)) true:=fun _ _=>.there .here
  have hb1 : Has [(⟨b1,Row 26 (sec t K.v),true⟩ : aJ)] b1 (Row 26 (sec t K.v)) true:=.here
  repeat (first | refine JL.q (by first|(apply OQ.iT;exact Tryd.underlying23;exact dH;rfl)|(apply OQ.move;rfl)|(apply OQ.assign;rfl)|(apply OQ.cw;rfl;rfl;rfl;exact (by decide);rfl)) rfl ?_ | refine JC.seq ?_ | refine JC.region ?_ | refine JL.nil ?_ | refine JE.next ?_)
  refine JL.qJ (q:=(bl,1)) (xs:=[oB t.ay t.takes]) (ys:=t.root) (b:=b1) (j:=0) (cap:=32) rfl (by rw [ht.root];rfl) hb1 (Row.cells (j3 ht _)) (fun e=>by have:=ht.root;rw [e] at this;cases this) (by simp [ht.root,ht.own,ht.other,ht.send,ht.take]) rfl fun q0=>?_
  repeat (first | refine JL.q (by first|(apply OQ.iT;exact Tryd.underlying23;exact dH;rfl)|(apply OQ.move;rfl)|(apply OQ.assign;rfl)|(apply OQ.cw;rfl;rfl;rfl;exact (by decide);rfl)) rfl ?_ | refine JC.seq ?_ | refine JC.region ?_ | refine JL.nil ?_ | refine JE.next ?_)
  refine JL.qJ (q:=q0) (xs:=[oB t.ay t.takes]++t.root) (ys:=t.own) (b:=b1) (j:=32) (cap:=32) rfl (by rw [ht.own];rfl) hb1 (Row.cells (j4 ht _)) (fun e=>by have:=ht.own;rw [e] at this;cases this) (by simp [ht.root,ht.own,ht.other,ht.send,ht.take]) rfl fun q1=>?_
  repeat (first | refine JL.q (by first|(apply OQ.iT;exact Tryd.underlying23;exact dH;rfl)|(apply OQ.move;rfl)|(apply OQ.assign;rfl)|(apply OQ.cw;rfl;rfl;rfl;exact (by decide);rfl)) rfl ?_ | refine JC.seq ?_ | refine JC.region ?_ | refine JL.nil ?_ | refine JE.next ?_)
  refine JL.qJ (q:=q1) (xs:=[oB t.ay t.takes]++t.root++t.own) (ys:=t.other) (b:=b1) (j:=64) (cap:=32) rfl (by rw [ht.other];rfl) hb1 (Row.cells (iI ht _)) (fun e=>by have:=ht.other;rw [e] at this;cases this) (by simp [ht.root,ht.own,ht.other,ht.send,ht.take]) rfl fun q2=>?_
  repeat (first | refine JL.q (by first|(apply OQ.iT;exact Tryd.underlying23;exact dH;rfl)|(apply OQ.move;rfl)|(apply OQ.assign;rfl)|(apply OQ.cw;rfl;rfl;rfl;exact (by decide);rfl)) rfl ?_ | refine JC.seq ?_ | refine JC.region ?_ | refine JL.nil ?_ | refine JE.next ?_)
  refine JL.qJ (q:=q2) (xs:=[oB t.ay t.takes]++t.root++t.own++t.other) (ys:=t.send) (b:=b1) (j:=98) (cap:=32) rfl (by rw [ht.send];rfl) hb1 (Row.cells (hJ ht _)) (fun e=>by have:=ht.send;rw [e] at this;cases this) (by simp [ht.root,ht.own,ht.other,ht.send,ht.take]) rfl fun q3=>?_
  repeat (first | refine JL.q (by first|(apply OQ.iT;exact Tryd.underlying23;exact dH;rfl)|(apply OQ.move;rfl)|(apply OQ.assign;rfl)|(apply OQ.cw;rfl;rfl;rfl;exact (by decide);rfl)) rfl ?_ | refine JC.seq ?_ | refine JC.region ?_ | refine JL.nil ?_ | refine JE.next ?_)
  refine JL.qJ (q:=q3) (xs:=[oB t.ay t.takes]++t.root++t.own++t.other++t.send) (ys:=t.take) (b:=b1) (j:=130) (cap:=32) rfl (by rw [ht.take];rfl) hb1 (Row.cells (j5 ht _)) (fun e=>by have:=ht.take;rw [e] at this;cases this) (by simp [ht.root,ht.own,ht.other,ht.send,ht.take]) rfl fun q4=>?_
  repeat (first | refine JL.q (by (apply OQ.assign;rfl)) rfl ?_ | refine JC.seq ?_ | refine JL.nil ?_ | refine JE.next ?_)
  have hx5 : [oB t.ay t.takes]++t.root++t.own++t.other++t.send++t.take=mF t:=by unfold mF dG;simp only [List.append_assoc,List.singleton_append,List.cons_append,List.nil_append]
  rw [hx5]
  have hhl:=pN ht
  have hkl2 : K.l.length≤2000:=by rw [he];exact hkl
  have hcB:=sS t
  obtain ⟨hd,hhe⟩ : ∃ hd,mF t=hd:=⟨_,rfl⟩
  rw [hhe] at hhl hcB ⊢
  obtain ⟨qh,hqh⟩ : ∃ qh,q4=qh:=⟨_,rfl⟩
  rw [hqh]
  let vs : Nat→(Nat × Nat)→Value:=fun j y=>match j with
    | 0=>aA (some qh) hd.length
    | 1=>Pt b1 162
    | 2=>N t.sent
    | 3=>aA (some y) (hd++b4 t.sent).length
    | 4=>Pt b1 163
    | 5=>N t.taken
    | 6=>aA (some y) (hd++b4 t.sent++b4 t.taken).length
    | 7=>Pt b1 164
    | 8=>N t.prev
    | 9=>aA (some y) (hd++b4 t.sent++b4 t.taken++b4 t.prev).length
    | 10=>Pt b1 165
    | 11=>K.v
    | 12=>N K.l.length
    | 13=>aA (some y) (hd++b4 t.sent++b4 t.taken++b4 t.prev++b4 K.l.length).length
    | 14=>aA (some y) (hd++b4 t.sent++b4 t.taken++b4 t.prev++b4 K.l.length).length
    | _=>N 0
  let Ms : Nat→(Nat × Nat)→List aJ:=fun j y=>match j with
    | 3=>aZ 5 (some y) ((hd++b4 t.sent).map U8)
    | 6=>aZ 5 (some y) ((hd++b4 t.sent++b4 t.taken).map U8)
    | 9=>aZ 5 (some y) ((hd++b4 t.sent++b4 t.taken++b4 t.prev).map U8)
    | 13=>aZ 5 (some y) ((hd++b4 t.sent++b4 t.taken++b4 t.prev++b4 K.l.length).map U8)
    | 15=>aZ 5 (some qh) (hd.map U8)
    | 16=>[⟨b1,Row 26 (sec t K.v),true⟩]
    | _=>[]
  refine JC.BY (g:=⟨[(1,Pt b1 0)],17,vs,Ms,(fun j=>match j with | 2=>[(1,38)] | 3=>[(0,37),(2,39)] | 5=>[(4,41)] | 6=>[(3,40),(5,42)] | 8=>[(7,44)] | 9=>[(6,43),(8,45)] | 11=>[(10,47)] | 12=>[(11,48)] | 13=>[(9,46),(12,49)] | 14=>[(13,50)] | _=>[]),(fun j=>match j with | 2=>[16] | 3=>[15] | 5=>[16] | 6=>[3] | 8=>[16] | 9=>[6] | 11=>[16] | 13=>[9] | _=>[]),(fun j=>match j with | 3=>[15] | 6=>[3] | 9=>[6] | 13=>[9] | _=>[]),(fun j=>match j with | 14=>some 13 | _=>none),(fun j=>match j with | 0=>[(4,aA (some qh) hd.length)] | _=>[])⟩) [(14,4)] [13,16] iV (by repeat (first | exact aj.nil | refine aj.cons _ _ _ rfl ?_)) (fun i _=>by dsimp only;split <;> first | exact aj.nil | exact (by repeat (first | exact aj.nil | refine aj.cons _ _ _ rfl ?_))) ?_ (by kernel_rfl) (by kernel_rfl) (by kernel_rfl) ?_ ?_
  · exact ax.refl _
  · refine ⟨?_,?_,?_,?_,?_,?_,?_,?_,?_,?_,?_,?_,?_,?_,?_,trivial⟩
    · (intro xx EF MF Q kk;(try refine JL.bn rfl rfl ?_);exact JL.q (OQ.move rfl) rfl (JL.nil (kk default nofun)))
    · (intro xx EF MF Q kk;(try refine JL.bn rfl rfl ?_);exact JL.q (OQ.cw rfl rfl rfl (by decide) rfl) rfl (JL.nil (kk default nofun)))
    · (intro xx EF MF Q kk;(try refine JL.bn rfl rfl ?_);exact JL.q (OQ.load bg rfl .here h162) rfl (JL.nil (kk default nofun)))
    · (intro xx EF MF Q kk;refine JL.jk (M':=aZ 5 (some qh) ((hd).map U8)++MF) (List.Perm.of_eq (qD _ _ _)) ?_;exact JL.zG (by (try simp only [List.length_append,eo]);omega) (by omega) rfl rfl rfl fun r=>JL.nil (kk r nofun))
    · (intro xx EF MF Q kk;(try refine JL.bn rfl rfl ?_);exact JL.q (OQ.cw rfl rfl rfl (by decide) rfl) rfl (JL.nil (kk default nofun)))
    · (intro xx EF MF Q kk;(try refine JL.bn rfl rfl ?_);exact JL.q (OQ.load bg rfl .here h163) rfl (JL.nil (kk default nofun)))
    · (intro xx EF MF Q kk;refine JL.jk (M':=aZ 5 (some (xx 3)) ((hd++b4 t.sent).map U8)++MF) (List.Perm.of_eq (qD _ _ _)) ?_;exact JL.zG (by (try simp only [List.length_append,eo]);omega) (by omega) rfl rfl rfl fun r=>JL.nil (kk r nofun))
    · (intro xx EF MF Q kk;(try refine JL.bn rfl rfl ?_);exact JL.q (OQ.cw rfl rfl rfl (by decide) rfl) rfl (JL.nil (kk default nofun)))
    · (intro xx EF MF Q kk;(try refine JL.bn rfl rfl ?_);exact JL.q (OQ.load bg rfl .here h164) rfl (JL.nil (kk default nofun)))
    · (intro xx EF MF Q kk;refine JL.jk (M':=aZ 5 (some (xx 6)) ((hd++b4 t.sent++b4 t.taken).map U8)++MF) (List.Perm.of_eq (qD _ _ _)) ?_;exact JL.zG (by (try simp only [List.length_append,eo]);omega) (by omega) rfl rfl rfl fun r=>JL.nil (kk r nofun))
    · (intro xx EF MF Q kk;(try refine JL.bn rfl rfl ?_);exact JL.q (OQ.cw rfl rfl rfl (by decide) rfl) rfl (JL.nil (kk default nofun)))
    · (intro xx EF MF Q kk;(try refine JL.bn rfl rfl ?_);exact JL.q (OQ.load ef rfl .here hkp) rfl (JL.nil (kk default nofun)))
    · (intro xx EF MF Q kk;(try refine JL.bn rfl rfl ?_);exact JL.q (OQ.len (k:=K.l.length) (ad:=K.ad) (cap:=K.cap) Tryd.underlying24 rfl) rfl (JL.nil (kk default nofun)))
    · (intro xx EF MF Q kk;refine JL.jk (M':=aZ 5 (some (xx 9)) ((hd++b4 t.sent++b4 t.taken++b4 t.prev).map U8)++MF) (List.Perm.of_eq (qD _ _ _)) ?_;exact JL.zG (by (try simp only [List.length_append,eo]);omega) (by omega) rfl rfl rfl fun r=>JL.nil (kk r nofun))
    · (intro xx EF MF Q kk;(try refine JL.bn rfl rfl ?_);exact JL.q (OQ.assign rfl) rfl (JL.nil (kk (xx 13) (fun k h=>by cases h;rfl))))
  · intro xx hx
    have e1:=hx 14 13 (by decide) rfl
    show JE _ _ _ _ _ [(4,aA (some (xx 14)) (hd++b4 t.sent++b4 t.taken++b4 t.prev++b4 K.l.length).length),(1,Pt b1 0)] (aZ 5 (some (xx 13)) ((hd++b4 t.sent++b4 t.taken++b4 t.prev++b4 K.l.length).map U8)++[⟨b1,Row 26 (sec t K.v),true⟩])
    rw [e1]
    generalize xx 13=q
    clear hx e1 xx vs Ms
    repeat (first | refine JL.q (by (apply OQ.assign;rfl)) rfl ?_ | refine JC.seq ?_ | refine JC.region ?_ | refine JC.block ?_ | refine JL.nil ?_ | refine JE.next ?_)
    have hco : bI t=hd++b4 t.sent++b4 t.taken++b4 t.prev++b4 K.l.length++t.kept.flatMap pH:=by rw [hcB,← he];simp only [zT,← he,List.flatMap_cons,List.flatMap_nil,List.append_nil,List.append_assoc]
    obtain ⟨h2,hh2⟩ : ∃ h2,hd++b4 t.sent++b4 t.taken++b4 t.prev++b4 K.l.length=h2:=⟨_,rfl⟩
    have hh2l : h2.length≤200:=by rw [← hh2];simp only [List.length_append,eo];omega
    rw [hh2] at hco ⊢
    refine JC.loop (fun s : En=>[(1,Pt b1 0),(4,aA (some s.q) (h2++(t.kept.take s.i).flatMap pH).length),(5,N s.i)]) (fun s=>aZ 5 (some s.q) ((h2++(t.kept.take s.i).flatMap pH).map U8)++[⟨b1,Row 26 (sec t K.v),true⟩]) (fun s=>K.l.length - s.i) (fun s=>s.i≤K.l.length) ⟨0,q⟩ (Nat.zero_le _) (by simp only [List.take_zero,List.flatMap_nil,List.append_nil];exact (by repeat (first | exact aj.nil | refine aj.cons _ _ _ rfl ?_))) (by simp only [List.take_zero,List.flatMap_nil,List.append_nil];exact ax.refl _) ?_
    clear q
    rintro ⟨i,q⟩ hi
    dsimp only at hi ⊢
    repeat (first | refine JL.q (by first|(apply OQ.load;exact ef;rfl;exact (hS1 _ _);exact hkp)|(apply OQ.len (k:=K.l.length) (ad:=K.ad) (cap:=K.cap);exact Tryd.underlying24;rfl)|(apply OQ.cF (a:=i) (b:=K.l.length);rfl;rfl)|(apply OQ.move;rfl)|(apply OQ.cw;rfl;rfl;rfl;exact (by decide);rfl)) rfl ?_ | refine JC.seq ?_ | refine JC.region ?_ | refine JL.nil ?_ | refine JE.next ?_)
    refine JC.cond rfl (fun hc=>?_) (fun hc=>?_)
    · have hi' : i<K.l.length:=of_decide_eq_true hc
      clear hc
      obtain ⟨b,j,eA,lb,cA⟩:=hk.at hi'
      have hft:=jK pH (l:=t.kept) (i:=i) oN (by rw [← he];exact hi')
      have hfl:=v5 ht.kept i (by rw [← he];exact hi)
      rw [← he] at hft hfl
      have hmem : K.l.getD i oN ∈ K.l:=by rw [List.getD_eq_getElem?_getD,List.getElem?_eq_getElem hi'];exact List.getElem_mem hi'
      have hok:=hk.all _ hmem
      have hnum:=hkm _ (by rw [← he];exact hmem)
      rw [← he]
      generalize K.l.getD i oN=x at cA hft hok hnum
      generalize (K.l.take i).flatMap pH=xs at hft hfl
      have hkv : K.v=.slice (some ⟨b,j,none⟩) K.l.length K.cap:=by rw [← eA];rfl
      have ck : ∀ (o : Nat) (ys : Bk),ys.length=32→((c6 x).drop o).take (ys.map U8).length=ys.map U8→aT.ok w ⟨some ⟨b,j+i * 65+o,none⟩,32,ys⟩:=fun o ys hy h=>⟨Nat.le_of_eq hy,Reads.of fun i' v hv=>by
        rw [Nat.add_assoc (j+i * 65)]
        refine cA (o+i') v ?_
        have hv':=hv
        rw [← h,List.getElem?_take] at hv
        split at hv
        · rw [List.getElem?_drop] at hv;exact hv
        · cases hv⟩
      have s1:=ck 0 x.chain hok.c (lO hok)
      have s2:=ck 33 x.key hok.k (qC hok)
      have hnc:=cA 32 _ (qB hok)
      clear ck
      have d1 : h2.length+xs.length+32+4+32≤1000000:=by omega
      repeat (first | refine JL.q (by first|(apply OQ.load (v:=.slice (some ⟨b,j,none⟩) K.l.length K.cap);exact ef;rfl;exact (hS1 _ _);exact (hkv ▸ hkp))|(apply OQ.gw (i:=i);exact Tryd.underlying24;exact qz;rfl;rfl;exact hi')|(apply OQ.iT;exact Tryd.underlying23;exact dH;rfl)|(apply OQ.move;rfl)|(apply OQ.cw;rfl;rfl;rfl;exact (by decide);rfl)) rfl ?_ | refine JC.seq ?_ | refine JC.region ?_ | refine JC.block ?_ | refine JC.skip ?_ | refine JE.next ?_)
      refine JL.Fm (q:=q) (xs:=h2++xs) ⟨some ⟨b,j+i * 65+0,none⟩,32,x.chain⟩ s1 rfl (by rw [aT.v,hok.c];rfl) (fun e=>by have:=hok.c;dsimp only at e;rw [e] at this;cases this) (by simp only [List.length_append,hok.c];omega) rfl fun q1=>?_
      dsimp only
      repeat (first | refine JL.q (by first|(apply OQ.load (v:=.slice (some ⟨b,j,none⟩) K.l.length K.cap);exact ef;rfl;exact (hS1 _ _);exact (hkv ▸ hkp))|(apply OQ.gw (i:=i);exact Tryd.underlying24;exact qz;rfl;rfl;exact hi')|(apply OQ.aL;exact bg;rfl;exact lb;exact (by simp);exact hnc)|(apply OQ.move;rfl)|(apply OQ.assign;rfl)|(apply OQ.cw;rfl;rfl;rfl;exact (by decide);rfl)) rfl ?_ | refine JC.seq ?_ | refine JC.region ?_ | refine JL.nil ?_ | refine JE.next ?_)
      refine JL.zG (q:=q1) (xs:=h2++xs++x.chain) (m:=x.num) (by simp only [List.length_append,hok.c];omega) (by omega) rfl rfl rfl fun q2=>?_
      repeat (first | refine JL.q (by first|(apply OQ.load (v:=.slice (some ⟨b,j,none⟩) K.l.length K.cap);exact ef;rfl;exact (hS1 _ _);exact (hkv ▸ hkp))|(apply OQ.gw (i:=i);exact Tryd.underlying24;exact qz;rfl;rfl;exact hi')|(apply OQ.iT;exact Tryd.underlying23;exact dH;rfl)|(apply OQ.move;rfl)|(apply OQ.assign;rfl)|(apply OQ.cw;rfl;rfl;rfl;exact (by decide);rfl)) rfl ?_ | refine JC.region ?_ | refine JL.nil ?_ | refine JE.next ?_)
      refine JL.Fm (q:=q2) (xs:=h2++xs++x.chain++b4 x.num) ⟨some ⟨b,j+i * 65+33,none⟩,32,x.key⟩ s2 rfl (by rw [aT.v,hok.k];rfl) (fun e=>by have:=hok.k;dsimp only at e;rw [e] at this;cases this) (by simp only [List.length_append,hok.c,hok.k,eo];omega) rfl fun q3=>?_
      dsimp only
      have hfin : h2++xs++x.chain++b4 x.num++x.key=h2++(K.l.take (i+1)).flatMap pH:=by rw [hft];unfold pH;simp only [List.append_assoc]
      rw [hfin]
      repeat (first | refine JL.q (by first|(apply OQ.bH (a:=i) (b:=1);rfl;rfl;exact (by omega))|(apply OQ.move;rfl)|(apply OQ.assign;rfl)) rfl ?_ | refine JC.region ?_ | refine JL.nil ?_ | refine JE.next ?_ | refine JE.az ?_)
      exact JE.again (i:=En.mk i q) ⟨i+1,q3⟩ hi' (by dsimp only;omega) (by repeat (first | exact aj.nil | refine aj.cons _ _ _ rfl ?_)) (ax.refl _)
    have hi' : i=K.l.length:=by have h9 : ¬ i<K.l.length:=of_decide_eq_false hc;omega
    subst hi'
    have htl : t.kept.take K.l.length=t.kept:=List.take_of_length_le (by rw [he];exact Nat.le_refl _)
    rw [htl,← hco]
    repeat (first | refine JL.q (by first|(apply OQ.move;rfl)|(apply OQ.assign;rfl)) rfl ?_ | refine JC.seq ?_ | refine JC.region ?_ | refine JC.exit ?_ | refine JL.nil ?_ | refine JE.next ?_ | refine JE.aB ?_ | refine JE.aG ?_)
    exact JC.ret (JE.aM rfl (RV.tmp rfl) fun w' hw=>⟨q,rfl,hw.weak (fh _ _)⟩)
end
section
set_option maxRecDepth 10000
open Sl ec gE cV gB
open iZ (Bk)
theorem uU (s : bC) (hs : s.ok) : Tryd.prog.built 26 ([3,4,0,1,2,5,6,7,8,9].zip [.bool s.ay,.bool s.takes,.agg (s.root.map U8).toArray,.agg (s.own.map U8).toArray,.agg (s.other.map U8).toArray,.agg (s.send.map U8).toArray,.agg (s.take.map U8).toArray,N s.sent,N s.taken,N s.prev])=some (sec { aD with ay:=s.ay,takes:=s.takes,root:=s.root,own:=s.own,other:=s.other,send:=s.send,take:=s.take,sent:=s.sent,taken:=s.taken,prev:=s.prev } aq).toArray:=by
  have h : Tryd.prog.built 26 ([3,4,0,1,2,5,6,7,8,9].zip [.bool s.ay,.bool s.takes,.agg (s.root.map U8).toArray,.agg (s.own.map U8).toArray,.agg (s.other.map U8).toArray,.agg (s.send.map U8).toArray,.agg (s.take.map U8).toArray,N s.sent,N s.taken,N s.prev])=Instr.fill (fun i=>#[(0,32),(32,32),(64,32),(96,1),(97,1),(98,32),(130,32),(162,1),(163,1),(164,1),(165,1)][i]?) (sec aD aq).toArray [(3,.bool s.ay),(4,.bool s.takes),(0,.agg (s.root.map U8).toArray),(1,.agg (s.own.map U8).toArray),(2,.agg (s.other.map U8).toArray),(5,.agg (s.send.map U8).toArray),(6,.agg (s.take.map U8).toArray),(7,N s.sent),(8,N s.taken),(9,N s.prev)]:=by kernel_rfl
  have k0 : (aD : bC).ok:=aC
  have p0:=fS k0 aq s.ay
  have k1 : ({ aD with ay:=s.ay } : bC).ok:=⟨rfl,rfl,rfl,rfl,rfl,nofun⟩
  have p1:=je k1 aq s.takes
  have k2 : ({ aD with ay:=s.ay,takes:=s.takes } : bC).ok:=⟨rfl,rfl,rfl,rfl,rfl,nofun⟩
  have p2:=eU k2 aq s.root hs.root
  rw [List.length_map,hs.root] at p2
  have k3 : ({ aD with ay:=s.ay,takes:=s.takes,root:=s.root } : bC).ok:=⟨hs.root,rfl,rfl,rfl,rfl,nofun⟩
  have p3:=fH k3 aq s.own hs.own
  rw [List.length_map,hs.own] at p3
  have k4 : ({ aD with ay:=s.ay,takes:=s.takes,root:=s.root,own:=s.own } : bC).ok:=⟨hs.root,hs.own,rfl,rfl,rfl,nofun⟩
  have p4:=fR k4 aq s.other hs.other
  rw [List.length_map,hs.other] at p4
  have k5 : ({ aD with ay:=s.ay,takes:=s.takes,root:=s.root,own:=s.own,other:=s.other } : bC).ok:=⟨hs.root,hs.own,hs.other,rfl,rfl,nofun⟩
  have p5:=eV k5 aq s.send hs.send
  rw [List.length_map,hs.send] at p5
  have k6 : ({ aD with ay:=s.ay,takes:=s.takes,root:=s.root,own:=s.own,other:=s.other,send:=s.send } : bC).ok:=⟨hs.root,hs.own,hs.other,hs.send,rfl,nofun⟩
  have p6:=j6 k6 aq s.take hs.take
  rw [List.length_map,hs.take] at p6
  have k7 : ({ aD with ay:=s.ay,takes:=s.takes,root:=s.root,own:=s.own,other:=s.other,send:=s.send,take:=s.take } : bC).ok:=⟨hs.root,hs.own,hs.other,hs.send,hs.take,nofun⟩
  have p7:=gC k7 aq s.sent
  have k8 : ({ aD with ay:=s.ay,takes:=s.takes,root:=s.root,own:=s.own,other:=s.other,send:=s.send,take:=s.take,sent:=s.sent } : bC).ok:=⟨hs.root,hs.own,hs.other,hs.send,hs.take,nofun⟩
  have p8:=jf k8 aq s.taken
  have k9 : ({ aD with ay:=s.ay,takes:=s.takes,root:=s.root,own:=s.own,other:=s.other,send:=s.send,take:=s.take,sent:=s.sent,taken:=s.taken } : bC).ok:=⟨hs.root,hs.own,hs.other,hs.send,hs.take,nofun⟩
  have p9:=j7 k9 aq s.prev
  have k10 : ({ aD with ay:=s.ay,takes:=s.takes,root:=s.root,own:=s.own,other:=s.other,send:=s.send,take:=s.take,sent:=s.sent,taken:=s.taken,prev:=s.prev } : bC).ok:=⟨hs.root,hs.own,hs.other,hs.send,hs.take,nofun⟩
  rw [h,aQ (off:=96) (sz:=1) (cs:=[.bool s.ay]) rfl rfl rfl (by rw [au k0];decide),fM (by rw [au k0];decide),p0,aQ (off:=97) (sz:=1) (cs:=[.bool s.takes]) rfl rfl rfl (by rw [au k1];decide),fM (by rw [au k1];decide),p1,aQ (off:=0) (sz:=32) (cs:=s.root.map U8) rfl rfl (by simp [hs.root]) (by rw [au k2];decide),p2,aQ (off:=32) (sz:=32) (cs:=s.own.map U8) rfl rfl (by simp [hs.own]) (by rw [au k3];decide),p3,aQ (off:=64) (sz:=32) (cs:=s.other.map U8) rfl rfl (by simp [hs.other]) (by rw [au k4];decide),p4,aQ (off:=98) (sz:=32) (cs:=s.send.map U8) rfl rfl (by simp [hs.send]) (by rw [au k5];decide),p5,aQ (off:=130) (sz:=32) (cs:=s.take.map U8) rfl rfl (by simp [hs.take]) (by rw [au k6];decide),p6,aQ (off:=162) (sz:=1) (cs:=[N s.sent]) rfl rfl rfl (by rw [au k7];decide),fM (by rw [au k7];decide),p7,aQ (off:=163) (sz:=1) (cs:=[N s.taken]) rfl rfl rfl (by rw [au k8];decide),fM (by rw [au k8];decide),p8,aQ (off:=164) (sz:=1) (cs:=[N s.prev]) rfl rfl rfl (by rw [au k9];decide),fM (by rw [au k9];decide),p9]
  rfl
theorem sZ (s : bC) (hs : s.ok) : Tryd.prog.built 26 ([3,4].zip [.bool s.ay,.bool s.takes])=some (sec { aD with ay:=s.ay,takes:=s.takes } aq).toArray:=by
  have h : Tryd.prog.built 26 ([3,4].zip [.bool s.ay,.bool s.takes])=Instr.fill (fun i=>#[(0,32),(32,32),(64,32),(96,1),(97,1),(98,32),(130,32),(162,1),(163,1),(164,1),(165,1)][i]?) (sec aD aq).toArray [(3,.bool s.ay),(4,.bool s.takes)]:=by kernel_rfl
  have k0 : (aD : bC).ok:=aC
  have p0:=fS k0 aq s.ay
  have k1 : ({ aD with ay:=s.ay } : bC).ok:=⟨rfl,rfl,rfl,rfl,rfl,nofun⟩
  have p1:=je k1 aq s.takes
  have k2 : ({ aD with ay:=s.ay,takes:=s.takes } : bC).ok:=⟨rfl,rfl,rfl,rfl,rfl,nofun⟩
  rw [h,aQ (off:=96) (sz:=1) (cs:=[.bool s.ay]) rfl rfl rfl (by rw [au k0];decide),fM (by rw [au k0];decide),p0,aQ (off:=97) (sz:=1) (cs:=[.bool s.takes]) rfl rfl rfl (by rw [au k1];decide),fM (by rw [au k1];decide),p1]
  rfl
theorem pP (c k : Bk) (m : Nat) (hc : c.length=32) (hk : k.length=32) : Tryd.prog.built 57 ([0,1,2].zip [.agg (c.map U8).toArray,N m,.agg (k.map U8).toArray])=some (c6 ⟨c,m,k⟩).toArray:=by
  have h : Tryd.prog.built 57 ([0,1,2].zip [.agg (c.map U8).toArray,N m,.agg (k.map U8).toArray])=Instr.fill (fun i=>#[(0,32),(32,1),(33,32)][i]?) (c6 oN).toArray [(0,.agg (c.map U8).toArray),(1,N m),(2,.agg (k.map U8).toArray)]:=by kernel_rfl
  have hp:=jv (a:=c.map U8) (b:=[N 0]) (c:=bO.map U8) (j:=32) (k:=1) [N m] (by simp [hc]) rfl
  have e1 : (c6 oN).take 0++c.map U8++(c6 oN).drop (0+32)=c.map U8++([N 0]++bO.map U8):=rfl
  have e2 : c.map U8++[N m]++bO.map U8=c6 ⟨c,m,bO⟩:=by simp [c6]
  have e3:=DJ (m:=m) hc hk
  rw [List.length_map,hk] at e3
  rw [h,aQ (off:=0) (sz:=32) (cs:=c.map U8) rfl rfl (by simp [hc]) (by simp [c6,oN]),e1,aQ (off:=32) (sz:=1) (cs:=[N m]) rfl rfl rfl (by simp [hc,bO]),hp]
  show Instr.fill _ (c6 ⟨c,m,bO⟩).toArray _=_
  rw [aQ (off:=33) (sz:=32) (cs:=k.map U8) rfl rfl (by simp [hk]) (by simp only [c6,List.length_append,List.length_map,hc,List.length_singleton,List.length_cons,List.length_nil];decide),e3]
  rfl
end
section
set_option maxRecDepth 10000
open Sl ec gE cV gB
open iZ (Bk)
def Kp.z (k : Kp) : iB:=⟨k.chain,k.num,k.key⟩
def bC.z (s : bC) : fY:=⟨s.root,s.own,s.other,s.ay,s.takes,s.send,s.take,s.sent,s.taken,s.prev,s.kept.map Kp.z⟩
theorem DY (l : List Kp) : lS (l.map Kp.z)=bS l:=by
  unfold lS bS
  rw [List.map_map]
  rfl
theorem Fo (s : bC) : (bC.z s).nat=s:=by
  obtain ⟨a,b,c,d,e,f,g,h,i,j,l⟩:=s
  show bC.mk a b c d e f g _ _ _ ((l.map Kp.z).map iB.nat)=_
  rw [List.map_map,show iB.nat ∘ Kp.z=id from rfl,List.map_id]
  rfl
theorem z6 {s : bC} (h : s.ok) : (bC.z s).ok:=⟨h.root,h.own,h.other,h.send,h.take,fun k hk=>by
  obtain ⟨x,hx,rfl⟩:=List.mem_map.1 hk
  exact ⟨(h.kept x hx).c,(h.kept x hx).k⟩⟩
def fX.z (k : fX) : cZ:=⟨k.ad,k.cap,k.l.map Kp.z⟩
theorem fX.G0 (k : fX) : (fX.z k).v=k.v:=by
  show Value.slice _ (k.l.map Kp.z).length _=_
  rw [List.length_map]
  rfl
theorem fX.z6 {w : World} {k : fX} (h : k.ok w) : (fX.z k).ok w:=by
  refine ⟨by show (k.l.map Kp.z).length≤_;rw [List.length_map];exact h.len,?_,fun x hx=>?_⟩
  · show Reads w k.ad (lS (k.l.map Kp.z)).flatten
    rw [DY]
    exact h.reads
  · obtain ⟨y,hy,rfl⟩:=List.mem_map.1 hx
    exact ⟨(h.all y hy).c,(h.all y hy).k⟩
theorem Aa (s : bC) (k : fX) (hs : s.ok) (he : k.l=s.kept) (w : World) (hk : k.ok w) : Calls Tryd.prog 37 [.agg (sec s k.v).toArray].toArray w fun e w'=>∃ r : {b : Bool // b=true↔bw (bC.z s)},e=.returned (.bool r.1)∧Ext w w':=by
  have:=jJ (bC.z s) (fX.z k) (z6 hs) (by show k.l.map Kp.z=s.kept.map Kp.z;rw [he]) w (fX.z6 hk)
  rw [fX.G0] at this
  exact this
theorem Ab (s : bC) (k : fX) (hs : s.ok) (he : k.l=s.kept) (w : World) (hk : k.ok w) : Calls Tryd.prog 8 [.agg (sec s k.v).toArray].toArray w fun e w'=>∃ r : {b : Bool // b=true↔bw (bC.z s)},e=.returned (.bool r.1)∧Ext w w':=by
  have:=jH (bC.z s) (fX.z k) (z6 hs) (by show k.l.map Kp.z=s.kept.map Kp.z;rw [he]) w (fX.z6 hk)
  rw [fX.G0] at this
  exact this
theorem uV (s : bC) (k : fX) (hs : s.ok) (he : k.l=s.kept) (hr : bw (bC.z s)) (w : World) (hk : k.ok w) :
    Calls Tryd.prog 17 [.agg (sec s k.v).toArray].toArray w fun e w'=>∃ q : Nat × Nat,e=.returned (aA (some q) (bI s).length)∧ah w [] (aZ 5 (some q) ((bI s).map U8)) w':=by
  have hm:=hr.most
  rw [Fo] at hm
  refine sW s k hs he hm.1 hm.2.1 hm.2.2 (fun y hy=>?_) (by have:=hr.len;show _≤2000;unfold bC.z at this;dsimp only at this;rwa [List.length_map] at this) w hk
  obtain ⟨i,hi,rfl⟩:=List.mem_iff_getElem.1 hy
  have h1:=hr.num i (by unfold bC.z;dsimp only;rw [List.length_map];exact hi)
  unfold bC.z jF at h1
  dsimp only at h1
  rw [List.getD_eq_getElem?_getD,List.getElem?_map,List.getElem?_eq_getElem hi] at h1
  have h2 : ((Option.map Kp.z (some s.kept[i])).getD bR).num=(s.kept[i].num : Int):=rfl
  omega
theorem DZ (s : fY) (k : cZ) (hs : s.ok) (he : k.l=s.kept) (hr : bw s) (w : World) (hk : k.ok w) :
    Calls Tryd.prog 17 [.agg (dr s k.v).toArray].toArray w fun e w'=>∃ q : Nat × Nat,e=.returned (aA (some q) (bI s.nat).length)∧ah w [] (aZ 5 (some q) ((bI s.nat).map U8)) w':=by
  have hcs:=hr.cells k.v
  have hm:=hr.most
  have:=sW s.nat k.nat (fY.jG hs) (by show k.l.map iB.nat=s.kept.map iB.nat;rw [he]) hm.1 hm.2.1 hm.2.2 (fun y hy=>by
      obtain ⟨x,hx,rfl⟩:=List.mem_map.1 hy
      obtain ⟨i,hi,rfl⟩:=List.mem_iff_getElem.1 hx
      have h1:=hr.num i hi
      rw [List.getD_eq_getElem?_getD,List.getElem?_eq_getElem hi] at h1
      unfold jF at h1
      show (s.kept[i]).num.toNat≤_
      have h2 : ((some s.kept[i]).getD bR).num=s.kept[i].num:=rfl
      omega) (by rw [fY.qF];exact hr.len) w (cZ.jG hk hr hs he)
  rw [cZ.zH,← hcs] at this
  exact this
end
section
set_option maxRecDepth 10000
open Sl ec gE cV gB
open iZ (Bk)
theorem OQ.jr {P : Program} {n : Nat} {E : Env} {C : World→Prop} {dst : Option Tmp} {t ty e : TypeId} {pos : String} {aft : Array Edge} {g : Option (Nat × Bool)} {x y : Operand} {s : aT} {b j i : Nat} (ea : s.ad=some ⟨b,j,none⟩) (hu : P.underlying t=some (.slice e)) (hz : dm P e=some 1) (hx : ev E x=some s.v) (hy : ev E y=some (N i)) (hi : i<s.l.length) :
    OQ P n E C ⟨dst,.indexAddr t x y,ty,pos,aft,g⟩ (.pointer (some ⟨b,j+i,none⟩)):=by
  rw [aT.v,ea] at hx
  exact OQ.eC hu hz hx hy hi
def xq (b : Bk) : Nat:=fF.bP (mid b 173 4)
def BL (b : Bk) : Prop:=kH b=true∧bw (bC.z (di b (xq b)))
structure Ao (b : Bk) where
  q : Acc
  s : bC
  code : Nat
  ok : s.ok
  nil : q=none→s.kept=[]
  is : (BL b∧s=di b (xq b)∧code=0)∨(¬ BL b∧s=aD∧code=3)
theorem pQ : aR Tryd.prog 19:=⟨_,Tryd.func19,rfl,by kernel_rfl⟩
theorem Ac (e : aJ) (A M : List aJ) : ([e]++(A++[]))++M=e::(A++M):=by simp
set_option maxHeartbeats 64000000 in
theorem s6 (z : aT) (w : World) (hz : z.ok w) (hl : z.l.length≤7000) :
    Calls Tryd.prog 19 [z.v].toArray w fun e w'=>∃ r : Ao z.l,e=.returned (.tuple #[.agg (sec r.s (aA r.q r.s.kept.length)).toArray,N r.code])∧ah w [] (fD r.q r.s.kept) w':=by
  have hzl:=au aC aq
  have hlen : kH z.l=true→177≤z.l.length∧(z.l.getD 0 0).toNat≤3∧z.l.length=177+xq z.l * 68:=fun h=>by
    unfold kH at h
    simp only [Bool.and_eq_true,decide_eq_true_eq] at h
    exact ⟨h.1.1,h.1.2,h.2⟩
  refine enter (n:=106) Tryd.func19 rfl rfl rfl (ah.start w []) ?_
  repeat (first | refine JC.seq ?_ | refine JC.region ?_)
  refine JL.alloc qQ rfl fun b2 _=>?_
  by_cases h1 : z.l.length<177
  · repeat (first | refine JL.q (by first|(apply OQ.len (k:=z.l.length) (ad:=z.ad) (cap:=z.cap);exact Tryd.underlying27;rfl)|(apply OQ.xK (a:=z.l.length) (b:=177);rfl;rfl;exact h1)|(apply OQ.bV;rfl;rfl)|(apply OQ.move;rfl)|(apply OQ.assign;rfl)) rfl ?_ | refine JC.seq ?_ | refine JC.region ?_ | refine JL.nil ?_ | refine JE.next ?_ | refine JL.dJ rfl rfl rfl rfl ?_)
    refine JC.cond_true rfl rfl ?_
    repeat (first | refine JC.seq ?_ | refine JC.region ?_)
    refine JL.q (OQ.pure (v:=.agg (sec aD aq).toArray) rfl rfl (by kernel_rfl)) rfl ?_
    refine JL.ag (cs:=sec aD aq) dn rfl rfl hzl (bA rfl) .here (au aC _) ?_
    repeat (first | refine JL.q (by (apply OQ.assign;rfl)) rfl ?_ | refine JL.nil ?_ | refine JE.next ?_)
    refine JC.ret ?_
    repeat (refine JE.aN ?_)
    exact JE.fQ rfl (RV.av fL dn rfl .here hzl Row.all) (RV.tmp rfl) fun w' hw=>⟨⟨none,aD,3,aC,fun _=>rfl,.inr ⟨fun h=>by have:=hlen h.1;omega,rfl,rfl⟩⟩,rfl,hw.weak (.nil _)⟩
  obtain ⟨b,jz,eA,cA⟩:=hz.reads.at (by rw [List.length_map];omega)
  have g0:=cA 0 (U8 (z.l.getD 0 0)) (by rw [List.getElem?_map,List.getElem?_eq_getElem (by omega),List.getD_eq_getElem?_getD,List.getElem?_eq_getElem (by omega)];rfl)
  clear cA
  have hb : b<w.heap.size:=block_lt_of_cell g0
  have hs1 : ∀ n,(di z.l n).ay=decide ((z.l.getD 0 0).toNat % 2=1):=fun _=>rfl
  have hs2 : ∀ n,(di z.l n).takes=decide ((z.l.getD 0 0).toNat / 2=1):=fun _=>rfl
  obtain ⟨c0,hc0⟩ : ∃ c,z.l.getD 0 0=c:=⟨_,rfl⟩
  rw [hc0] at g0 hlen hs1 hs2
  by_cases h2 : 3<c0.toNat
  · have h2d : decide ((3 : Int)<(c0.toNat : Int))=true:=decide_eq_true (by omega)
    repeat (first | refine JL.q (by first|(apply OQ.len (k:=z.l.length) (ad:=z.ad) (cap:=z.cap);exact Tryd.underlying27;rfl)|(apply OQ.gW (a:=z.l.length) (b:=177);rfl;rfl;exact h1)|(apply OQ.jr (s:=z) (b:=b) (j:=jz) (i:=0);exact eA;exact Tryd.underlying27;exact dH;rfl;rfl;exact (by omega))|(apply OQ.aL;exact om;rfl;exact hb;exact (by simp);exact g0)|(apply OQ.kU (a:=(c0.toNat : Int)) (b:=3);rfl;rfl;exact h2d)|(apply OQ.bV;rfl;rfl)|(apply OQ.bG;rfl;rfl)|(apply OQ.move;rfl)|(apply OQ.assign;rfl)) rfl ?_ | refine JC.seq ?_ | refine JC.region ?_ | refine JL.nil ?_ | refine JE.next ?_ | refine JL.bn rfl rfl ?_ | refine JL.dJ rfl rfl rfl rfl ?_)
    refine JC.cond_true rfl rfl ?_
    repeat (first | refine JC.seq ?_ | refine JC.region ?_)
    refine JL.q (OQ.pure (v:=.agg (sec aD aq).toArray) rfl rfl (by kernel_rfl)) rfl ?_
    refine JL.ag (cs:=sec aD aq) dn rfl rfl hzl (bA rfl) .here (au aC _) ?_
    repeat (first | refine JL.q (by (apply OQ.assign;rfl)) rfl ?_ | refine JL.nil ?_ | refine JE.next ?_)
    refine JC.ret ?_
    repeat (refine JE.aN ?_)
    exact JE.fQ rfl (RV.av fL dn rfl .here hzl Row.all) (RV.tmp rfl) fun w' hw=>⟨⟨none,aD,3,aC,fun _=>rfl,.inr ⟨fun h=>by have:=hlen h.1;omega,rfl,rfl⟩⟩,rfl,hw.weak (.nil _)⟩
  have h2d : decide ((3 : Int)<(c0.toNat : Int))=false:=decide_eq_false (by omega)
  by_cases h3 : (z.l.length - 177) % 68=0
  rotate_left
  · have h3d : decide ((((z.l.length - 177) % 68 : Nat) : Int)=0)=false:=decide_eq_false (by omega)
    repeat (first | refine JL.q (by first|(apply OQ.len (k:=z.l.length) (ad:=z.ad) (cap:=z.cap);exact Tryd.underlying27;rfl)|(apply OQ.gW (a:=z.l.length) (b:=177);rfl;rfl;exact h1)|(apply OQ.jr (s:=z) (b:=b) (j:=jz) (i:=0);exact eA;exact Tryd.underlying27;exact dH;rfl;rfl;exact (by omega))|(apply OQ.aL;exact om;rfl;exact hb;exact (by simp);exact g0)|(apply OQ.kU (a:=(c0.toNat : Int)) (b:=3);rfl;rfl;exact h2d)|(apply OQ.mG (a:=z.l.length) (b:=177);rfl;rfl;exact (by omega);exact (by omega))|(apply OQ.xG (a:=z.l.length - 177) (b:=68);rfl;rfl;exact (by decide))|(apply OQ.Aj (a:=(((z.l.length - 177) % 68 : Nat) : Int)) (b:=0);rfl;rfl;exact h3d)|(apply OQ.bV;rfl;rfl)|(apply OQ.bG;rfl;rfl)|(apply OQ.move;rfl)|(apply OQ.assign;rfl)) rfl ?_ | refine JC.seq ?_ | refine JC.region ?_ | refine JL.nil ?_ | refine JE.next ?_ | refine JL.bn rfl rfl ?_ | refine JL.dJ rfl rfl rfl rfl ?_)
    refine JC.cond_true rfl rfl ?_
    repeat (first | refine JC.seq ?_ | refine JC.region ?_)
    refine JL.q (OQ.pure (v:=.agg (sec aD aq).toArray) rfl rfl (by kernel_rfl)) rfl ?_
    refine JL.ag (cs:=sec aD aq) dn rfl rfl hzl (bA rfl) .here (au aC _) ?_
    repeat (first | refine JL.q (by (apply OQ.assign;rfl)) rfl ?_ | refine JL.nil ?_ | refine JE.next ?_)
    refine JC.ret ?_
    repeat (refine JE.aN ?_)
    exact JE.fQ rfl (RV.av fL dn rfl .here hzl Row.all) (RV.tmp rfl) fun w' hw=>⟨⟨none,aD,3,aC,fun _=>rfl,.inr ⟨fun h=>by have:=hlen h.1;omega,rfl,rfl⟩⟩,rfl,hw.weak (.nil _)⟩
  have h3d : decide ((((z.l.length - 177) % 68 : Nat) : Int)=0)=true:=decide_eq_true (by omega)
  have v1:=Cq (s:=z) (lo:=173) (k:=4) (hi:=177) (by omega) rfl
  have o1:=fun (w' : World) (h : z.ok w')=>zX h (lo:=173) (k:=4) (by omega)
  have c1:=fun (w' : World) (h : z.ok w')=>xp _ (by show ((z.l.drop 173).take 4).length=4;rw [List.length_take,List.length_drop];omega) w' (o1 w' h)
  rw [v1] at c1
  dsimp only at c1
  have hcap:=hz.len
  obtain ⟨n,hn⟩ : ∃ n,xq z.l=n:=⟨_,rfl⟩
  have hn0 : fF.bP ((z.l.drop 173).take 4)=n:=hn
  rw [hn0] at c1
  rw [hn] at hlen
  by_cases h4 : n=(z.l.length - 177) / 68
  rotate_left
  · have h4d : decide ((n : Int)=(((z.l.length - 177) / 68 : Nat) : Int))=false:=decide_eq_false (by omega)
    repeat (first | refine JL.q (by first|(apply OQ.len (k:=z.l.length) (ad:=z.ad) (cap:=z.cap);exact Tryd.underlying27;rfl)|(apply OQ.gW (a:=z.l.length) (b:=177);rfl;rfl;exact h1)|(apply OQ.jr (s:=z) (b:=b) (j:=jz) (i:=0);exact eA;exact Tryd.underlying27;exact dH;rfl;rfl;exact (by omega))|(apply OQ.aL;exact om;rfl;exact hb;exact (by simp);exact g0)|(apply OQ.kU (a:=(c0.toNat : Int)) (b:=3);rfl;rfl;exact h2d)|(apply OQ.mG (a:=z.l.length) (b:=177);rfl;rfl;exact (by omega);exact (by omega))|(apply OQ.xG (a:=z.l.length - 177) (b:=68);rfl;rfl;exact (by decide))|(apply OQ.Aj (a:=(((z.l.length - 177) % 68 : Nat) : Int)) (b:=0);rfl;rfl;exact h3d)|(apply OQ.gZ (sz:=1) (lo:=173) (hi:=177) (len:=z.l.length) (cap:=z.cap) (ad:=z.ad);exact Tryd.underlying27;exact dH;rfl;rfl;rfl;exact (by decide);exact (by omega))|(apply OQ.an (vs:=[.slice (if z.cap=173 then z.ad else z.ad.map (·.add (173 * 1))) (177 - 173) (z.cap - 173)]);exact er;rfl;exact (fun w' hw'=>c1 w' (hz.holds hw' rfl)))|(apply OQ.tg (a:=z.l.length - 177) (b:=68);rfl;rfl;exact (by decide);exact (by omega))|(apply OQ.Aj (a:=(n : Int)) (b:=(((z.l.length - 177) / 68 : Nat) : Int));rfl;rfl;exact h4d)|(apply OQ.bG;rfl;rfl)|(apply OQ.move;rfl)|(apply OQ.assign;rfl)) rfl ?_ | refine JC.seq ?_ | refine JC.region ?_ | refine JL.nil ?_ | refine JE.next ?_ | refine JL.bn rfl rfl ?_)
    refine JC.cond_true rfl rfl ?_
    repeat (first | refine JC.seq ?_ | refine JC.region ?_)
    refine JL.q (OQ.pure (v:=.agg (sec aD aq).toArray) rfl rfl (by kernel_rfl)) rfl ?_
    refine JL.ag (cs:=sec aD aq) dn rfl rfl hzl (bA rfl) .here (au aC _) ?_
    repeat (first | refine JL.q (by (apply OQ.assign;rfl)) rfl ?_ | refine JL.nil ?_ | refine JE.next ?_)
    refine JC.ret ?_
    repeat (refine JE.aN ?_)
    exact JE.fQ rfl (RV.av fL dn rfl .here hzl Row.all) (RV.tmp rfl) fun w' hw=>⟨⟨none,aD,3,aC,fun _=>rfl,.inr ⟨fun h=>by have:=hlen h.1;omega,rfl,rfl⟩⟩,rfl,hw.weak (.nil _)⟩
  have h4d : decide ((n : Int)=(((z.l.length - 177) / 68 : Nat) : Int))=true:=decide_eq_true (by omega)
  repeat (first | refine JL.q (by first|(apply OQ.len (k:=z.l.length) (ad:=z.ad) (cap:=z.cap);exact Tryd.underlying27;rfl)|(apply OQ.gW (a:=z.l.length) (b:=177);rfl;rfl;exact h1)|(apply OQ.jr (s:=z) (b:=b) (j:=jz) (i:=0);exact eA;exact Tryd.underlying27;exact dH;rfl;rfl;exact (by omega))|(apply OQ.aL;exact om;rfl;exact hb;exact (by simp);exact g0)|(apply OQ.kU (a:=(c0.toNat : Int)) (b:=3);rfl;rfl;exact h2d)|(apply OQ.mG (a:=z.l.length) (b:=177);rfl;rfl;exact (by omega);exact (by omega))|(apply OQ.xG (a:=z.l.length - 177) (b:=68);rfl;rfl;exact (by decide))|(apply OQ.Aj (a:=(((z.l.length - 177) % 68 : Nat) : Int)) (b:=0);rfl;rfl;exact h3d)|(apply OQ.gZ (sz:=1) (lo:=173) (hi:=177) (len:=z.l.length) (cap:=z.cap) (ad:=z.ad);exact Tryd.underlying27;exact dH;rfl;rfl;rfl;exact (by decide);exact (by omega))|(apply OQ.an (vs:=[.slice (if z.cap=173 then z.ad else z.ad.map (·.add (173 * 1))) (177 - 173) (z.cap - 173)]);exact er;rfl;exact (fun w' hw'=>c1 w' (hz.holds hw' rfl)))|(apply OQ.tg (a:=z.l.length - 177) (b:=68);rfl;rfl;exact (by decide);exact (by omega))|(apply OQ.Aj (a:=(n : Int)) (b:=(((z.l.length - 177) / 68 : Nat) : Int));rfl;rfl;exact h4d)|(apply OQ.bG;rfl;rfl)|(apply OQ.move;rfl)|(apply OQ.assign;rfl)) rfl ?_ | refine JC.seq ?_ | refine JC.region ?_ | refine JL.nil ?_ | refine JE.next ?_ | refine JL.bn rfl rfl ?_)
  refine JC.cond_false rfl rfl ?_
  have hL : z.l.length=177+n * 68:=by omega
  have hlok : kH z.l=true:=by
    unfold kH
    have h9 : fF.bP (mid z.l 173 4)=n:=hn0
    rw [h9,hc0,decide_eq_true (show 177≤z.l.length by omega),decide_eq_true (show c0.toNat≤3 by omega),decide_eq_true hL]
    rfl
  clear h3d h4d h2d hlen c1 o1 v1
  have hok:=qH (b:=z.l) (n:=n) hL
  have hkK : ∀ lo,lo+32≤z.l.length→∀ w' : World,z.ok w'→Calls Tryd.prog 44 [(z.snd lo).v].toArray w' fun e w''=>e=.returned (.agg ((mid z.l lo 32).map U8).toArray)∧Ext w' w'':=fun lo h w' h'=>zZ (z.snd lo) (by show 32≤(z.l.drop lo).length;rw [List.length_drop];omega) w' (h'.snd lo (by omega))
  have hkN : ∀ lo,lo+4≤z.l.length→∀ w' : World,z.ok w'→Calls Tryd.prog 43 [(z.snd lo).v].toArray w' fun e w''=>e=.returned (N (fF.bP (mid z.l lo 4)))∧Ext w' w'':=fun lo h w' h'=>z5 (z.snd lo) (by show 4≤(z.l.drop lo).length;rw [List.length_drop];omega) w' (h'.snd lo (by omega))
  have hsb:=uU (di z.l n) hok
  have hE1 : decide (((c0 % 2).toNat : Int)=1)=(di z.l n).ay:=by rw [hs1,BitVec.toNat_umod];exact decide_eq_decide.2 (by show ((c0.toNat % 2 : Nat) : Int)=1↔_;omega)
  have hE2 : decide (((c0 / 2).toNat : Int)=1)=(di z.l n).takes:=by rw [hs2,BitVec.toNat_udiv];exact decide_eq_decide.2 (by show ((c0.toNat / 2 : Nat) : Int)=1↔_;omega)
  have f1 : mid z.l 1 32=(di z.l n).root:=rfl
  have f2 : mid z.l 33 32=(di z.l n).own:=rfl
  have f3 : mid z.l 65 32=(di z.l n).other:=rfl
  have f4 : mid z.l 97 32=(di z.l n).send:=rfl
  have f5 : mid z.l 129 32=(di z.l n).take:=rfl
  have f6 : fF.bP (mid z.l 161 4)=(di z.l n).sent:=rfl
  have f7 : fF.bP (mid z.l 165 4)=(di z.l n).taken:=rfl
  have f8 : fF.bP (mid z.l 169 4)=(di z.l n).prev:=rfl
  have cK1:=hkK 1 (by omega)
  have cK2:=hkK 33 (by omega)
  have cK3:=hkK 65 (by omega)
  have cK4:=hkK 97 (by omega)
  have cK5:=hkK 129 (by omega)
  have cN1:=hkN 161 (by omega)
  have cN2:=hkN 165 (by omega)
  have cN3:=hkN 169 (by omega)
  rw [f1] at cK1
  rw [f2] at cK2
  rw [f3] at cK3
  rw [f4] at cK4
  rw [f5] at cK5
  rw [f6] at cN1
  rw [f7] at cN2
  rw [f8] at cN3
  have hke : (di z.l n).kept=fE n (z.l.drop 177):=rfl
  obtain ⟨sD,hsD⟩ : ∃ sD,di z.l n=sD:=⟨_,rfl⟩
  rw [hsD] at hok hsb hE1 hE2 cK1 cK2 cK3 cK4 cK5 cN1 cN2 cN3 hke
  clear f1 f2 f3 f4 f5 f6 f7 f8 hs1 hs2
  have hok0 : ({ sD with kept:=[] } : bC).ok:=⟨hok.root,hok.own,hok.other,hok.send,hok.take,nofun⟩
  have hlD:=au hok0 aq
  repeat (first | refine JC.seq ?_ | refine JC.skip ?_ | refine JE.next ?_)
  let vs : Nat→Nat→Value:=fun j y=>match j with
    | 0=>z.v
    | 1=>.pointer (some ⟨b,jz+0,none⟩)
    | 2=>U8 c0
    | 3=>U8 (c0 % 2)
    | 4=>.bool sD.ay
    | 5=>z.v
    | 6=>.pointer (some ⟨b,jz+0,none⟩)
    | 7=>U8 c0
    | 8=>U8 (c0 / 2)
    | 9=>.bool sD.takes
    | 10=>z.v
    | 11=>(z.snd 1).v
    | 12=>.agg (sD.root.map U8).toArray
    | 13=>z.v
    | 14=>(z.snd 33).v
    | 15=>.agg (sD.own.map U8).toArray
    | 16=>z.v
    | 17=>(z.snd 65).v
    | 18=>.agg (sD.other.map U8).toArray
    | 19=>z.v
    | 20=>(z.snd 97).v
    | 21=>.agg (sD.send.map U8).toArray
    | 22=>z.v
    | 23=>(z.snd 129).v
    | 24=>.agg (sD.take.map U8).toArray
    | 25=>z.v
    | 26=>(z.snd 161).v
    | 27=>N sD.sent
    | 28=>z.v
    | 29=>(z.snd 165).v
    | 30=>N sD.taken
    | 31=>z.v
    | 32=>(z.snd 169).v
    | 33=>N sD.prev
    | 34=>.agg (sec { sD with kept:=[] } aq).toArray
    | 35=>Pt y 0
    | _=>N 0
  let Ms : Nat→Nat→List aJ:=fun j y=>match j with
    | 35=>[⟨y,Row 26 (sec aD aq),true⟩]
    | 36=>[⟨y,Row 26 (sec { sD with kept:=[] } aq),true⟩]
    | 37=>[⟨b2,Row 26 (sec aD aq),true⟩]
    | _=>[]
  refine JC.grow (g:=⟨[(0,z.v),(2,Pt b2 0)],38,vs,Ms,(fun j=>match j with | 1=>[(0,33)] | 2=>[(1,34)] | 3=>[(2,35)] | 4=>[(3,36)] | 6=>[(5,38)] | 7=>[(6,39)] | 8=>[(7,40)] | 9=>[(8,41)] | 11=>[(10,43)] | 12=>[(11,44)] | 14=>[(13,46)] | 15=>[(14,47)] | 17=>[(16,49)] | 18=>[(17,50)] | 20=>[(19,52)] | 21=>[(20,53)] | 23=>[(22,55)] | 24=>[(23,56)] | 26=>[(25,58)] | 27=>[(26,59)] | 29=>[(28,61)] | 30=>[(29,62)] | 32=>[(31,64)] | 33=>[(32,65)] | 34=>[(4,37),(9,42),(12,45),(15,48),(18,51),(21,54),(24,57),(27,60),(30,63),(33,66)] | 36=>[(35,4),(34,67)] | _=>[]),(fun j=>match j with | 36=>[35] | _=>[]),(fun j=>match j with | 36=>[35] | _=>[]),(fun j=>match j with | 36=>some 35 | _=>none)⟩) [(35,4)] [36,37] iV (by repeat (first | exact aj.nil | refine aj.cons _ _ _ rfl ?_)) ?_ (by kernel_rfl) (by kernel_rfl) (by kernel_rfl) ?_ ?_
  · exact ax.refl _
  · refine ⟨?_,?_,?_,?_,?_,?_,?_,?_,?_,?_,?_,?_,?_,?_,?_,?_,?_,?_,?_,?_,?_,?_,?_,?_,?_,?_,?_,?_,?_,?_,?_,?_,?_,?_,?_,?_,?_,trivial⟩
    · (intro xx EF MF Q kk;(try refine JL.bn rfl rfl ?_);exact JL.q (OQ.move rfl) rfl (JL.nil (kk default nofun)))
    · (intro xx EF MF Q kk;(try refine JL.bn rfl rfl ?_);exact JL.q (OQ.jr (s:=z) (b:=b) (j:=jz) (i:=0) eA Tryd.underlying27 dH rfl rfl (by omega)) rfl (JL.nil (kk default nofun)))
    · (intro xx EF MF Q kk;(try refine JL.bn rfl rfl ?_);exact JL.q (OQ.aL om rfl hb (by simp) g0) rfl (JL.nil (kk default nofun)))
    · (intro xx EF MF Q kk;(try refine JL.bn rfl rfl ?_);exact JL.q (OQ.FN (a:=c0) (b:=2) rfl rfl (by decide)) rfl (JL.nil (kk default nofun)))
    · (intro xx EF MF Q kk;(try refine JL.bn rfl rfl ?_);exact JL.q (OQ.D9 (a:=((c0 % 2).toNat : Int)) (b:=1) rfl rfl hE1) rfl (JL.nil (kk default nofun)))
    · (intro xx EF MF Q kk;(try refine JL.bn rfl rfl ?_);exact JL.q (OQ.move rfl) rfl (JL.nil (kk default nofun)))
    · (intro xx EF MF Q kk;(try refine JL.bn rfl rfl ?_);exact JL.q (OQ.jr (s:=z) (b:=b) (j:=jz) (i:=0) eA Tryd.underlying27 dH rfl rfl (by omega)) rfl (JL.nil (kk default nofun)))
    · (intro xx EF MF Q kk;(try refine JL.bn rfl rfl ?_);exact JL.q (OQ.aL om rfl hb (by simp) g0) rfl (JL.nil (kk default nofun)))
    · (intro xx EF MF Q kk;(try refine JL.bn rfl rfl ?_);exact JL.q (OQ.FM (a:=c0) (b:=2) rfl rfl (by decide)) rfl (JL.nil (kk default nofun)))
    · (intro xx EF MF Q kk;(try refine JL.bn rfl rfl ?_);exact JL.q (OQ.D9 (a:=((c0 / 2).toNat : Int)) (b:=1) rfl rfl hE2) rfl (JL.nil (kk default nofun)))
    · (intro xx EF MF Q kk;(try refine JL.bn rfl rfl ?_);exact JL.q (OQ.move rfl) rfl (JL.nil (kk default nofun)))
    · (intro xx EF MF Q kk;(try refine JL.bn rfl rfl ?_);exact JL.q (OQ.snd (s:=z) (m:=1) Tryd.underlying27 dH rfl rfl (by omega)) rfl (JL.nil (kk default nofun)))
    · (intro xx EF MF Q kk;(try refine JL.bn rfl rfl ?_);exact JL.q (OQ.an (vs:=[(z.snd 1).v]) eu rfl (fun w' hw'=>cK1 w' (hz.holds hw' rfl))) rfl (JL.nil (kk default nofun)))
    · (intro xx EF MF Q kk;(try refine JL.bn rfl rfl ?_);exact JL.q (OQ.move rfl) rfl (JL.nil (kk default nofun)))
    · (intro xx EF MF Q kk;(try refine JL.bn rfl rfl ?_);exact JL.q (OQ.snd (s:=z) (m:=33) Tryd.underlying27 dH rfl rfl (by omega)) rfl (JL.nil (kk default nofun)))
    · (intro xx EF MF Q kk;(try refine JL.bn rfl rfl ?_);exact JL.q (OQ.an (vs:=[(z.snd 33).v]) eu rfl (fun w' hw'=>cK2 w' (hz.holds hw' rfl))) rfl (JL.nil (kk default nofun)))
    · (intro xx EF MF Q kk;(try refine JL.bn rfl rfl ?_);exact JL.q (OQ.move rfl) rfl (JL.nil (kk default nofun)))
    · (intro xx EF MF Q kk;(try refine JL.bn rfl rfl ?_);exact JL.q (OQ.snd (s:=z) (m:=65) Tryd.underlying27 dH rfl rfl (by omega)) rfl (JL.nil (kk default nofun)))
    · (intro xx EF MF Q kk;(try refine JL.bn rfl rfl ?_);exact JL.q (OQ.an (vs:=[(z.snd 65).v]) eu rfl (fun w' hw'=>cK3 w' (hz.holds hw' rfl))) rfl (JL.nil (kk default nofun)))
    · (intro xx EF MF Q kk;(try refine JL.bn rfl rfl ?_);exact JL.q (OQ.move rfl) rfl (JL.nil (kk default nofun)))
    · (intro xx EF MF Q kk;(try refine JL.bn rfl rfl ?_);exact JL.q (OQ.snd (s:=z) (m:=97) Tryd.underlying27 dH rfl rfl (by omega)) rfl (JL.nil (kk default nofun)))
    · (intro xx EF MF Q kk;(try refine JL.bn rfl rfl ?_);exact JL.q (OQ.an (vs:=[(z.snd 97).v]) eu rfl (fun w' hw'=>cK4 w' (hz.holds hw' rfl))) rfl (JL.nil (kk default nofun)))
    · (intro xx EF MF Q kk;(try refine JL.bn rfl rfl ?_);exact JL.q (OQ.move rfl) rfl (JL.nil (kk default nofun)))
    · (intro xx EF MF Q kk;(try refine JL.bn rfl rfl ?_);exact JL.q (OQ.snd (s:=z) (m:=129) Tryd.underlying27 dH rfl rfl (by omega)) rfl (JL.nil (kk default nofun)))
    · (intro xx EF MF Q kk;(try refine JL.bn rfl rfl ?_);exact JL.q (OQ.an (vs:=[(z.snd 129).v]) eu rfl (fun w' hw'=>cK5 w' (hz.holds hw' rfl))) rfl (JL.nil (kk default nofun)))
    · (intro xx EF MF Q kk;(try refine JL.bn rfl rfl ?_);exact JL.q (OQ.move rfl) rfl (JL.nil (kk default nofun)))
    · (intro xx EF MF Q kk;(try refine JL.bn rfl rfl ?_);exact JL.q (OQ.snd (s:=z) (m:=161) Tryd.underlying27 dH rfl rfl (by omega)) rfl (JL.nil (kk default nofun)))
    · (intro xx EF MF Q kk;(try refine JL.bn rfl rfl ?_);exact JL.q (OQ.an (vs:=[(z.snd 161).v]) er rfl (fun w' hw'=>cN1 w' (hz.holds hw' rfl))) rfl (JL.nil (kk default nofun)))
    · (intro xx EF MF Q kk;(try refine JL.bn rfl rfl ?_);exact JL.q (OQ.move rfl) rfl (JL.nil (kk default nofun)))
    · (intro xx EF MF Q kk;(try refine JL.bn rfl rfl ?_);exact JL.q (OQ.snd (s:=z) (m:=165) Tryd.underlying27 dH rfl rfl (by omega)) rfl (JL.nil (kk default nofun)))
    · (intro xx EF MF Q kk;(try refine JL.bn rfl rfl ?_);exact JL.q (OQ.an (vs:=[(z.snd 165).v]) er rfl (fun w' hw'=>cN2 w' (hz.holds hw' rfl))) rfl (JL.nil (kk default nofun)))
    · (intro xx EF MF Q kk;(try refine JL.bn rfl rfl ?_);exact JL.q (OQ.move rfl) rfl (JL.nil (kk default nofun)))
    · (intro xx EF MF Q kk;(try refine JL.bn rfl rfl ?_);exact JL.q (OQ.snd (s:=z) (m:=169) Tryd.underlying27 dH rfl rfl (by omega)) rfl (JL.nil (kk default nofun)))
    · (intro xx EF MF Q kk;(try refine JL.bn rfl rfl ?_);exact JL.q (OQ.an (vs:=[(z.snd 169).v]) er rfl (fun w' hw'=>cN3 w' (hz.holds hw' rfl))) rfl (JL.nil (kk default nofun)))
    · (intro xx EF MF Q kk;(try refine JL.bn rfl rfl ?_);exact JL.q (OQ.dZ (cs:=sec { sD with kept:=[] } aq) [3,4,0,1,2,5,6,7,8,9] [.tmp 37,.tmp 42,.tmp 45,.tmp 48,.tmp 51,.tmp 54,.tmp 57,.tmp 60,.tmp 63,.tmp 66] (vs:=[.bool sD.ay,.bool sD.takes,.agg (sD.root.map U8).toArray,.agg (sD.own.map U8).toArray,.agg (sD.other.map U8).toArray,.agg (sD.send.map U8).toArray,.agg (sD.take.map U8).toArray,N sD.sent,N sD.taken,N sD.prev]) rfl rfl hsb) rfl (JL.nil (kk default nofun)))
    · (intro xx EF MF Q kk;exact JL.alloc qQ rfl fun b0 _=>JL.nil (kk b0 nofun))
    · (intro xx EF MF Q kk;exact JL.ag (cs:=sec { sD with kept:=[] } aq) dn rfl rfl hlD (bA rfl) .here (au aC _) (JL.nil (kk (xx 35) (fun k h=>by cases h;rfl))))
  · intro xx hx
    have e1:=hx 36 35 (by decide) rfl
    show JE _ _ _ _ _ [(4,Pt (xx 35) 0),(0,z.v),(2,Pt b2 0)] [⟨xx 36,Row 26 (sec { sD with kept:=[] } aq),true⟩,⟨b2,Row 26 (sec aD aq),true⟩]
    rw [e1]
    generalize xx 35=b4
    clear hx e1 xx vs Ms
    repeat (first | refine JL.q (by (apply OQ.assign;rfl)) rfl ?_ | refine JC.seq ?_ | refine JC.region ?_ | refine JC.block ?_ | refine JL.nil ?_ | refine JE.next ?_)
    have hR0 : fE 0 (z.l.drop 177)=[]:=rfl
    refine JC.loop (fun x : Nat × Acc=>[(0,z.v),(2,Pt b2 0),(4,Pt b4 0),(5,N (177+x.1 * 68))]) (fun x=>⟨b4,Row 26 (sec { sD with kept:=fE x.1 (z.l.drop 177) } (aA x.2 x.1)),true⟩::(fD x.2 (fE x.1 (z.l.drop 177))++[⟨b2,Row 26 (sec aD aq),true⟩])) (fun x=>n - x.1) (fun x=>x.1≤n∧(x.2=none→x.1=0)) (0,none) ⟨Nat.zero_le _,fun _=>rfl⟩ (by repeat (first | exact aj.nil | refine aj.cons _ _ _ rfl ?_)) (ax.refl _) ?_
    rintro ⟨i,q⟩ ⟨hi,hq⟩
    dsimp only at hi hq ⊢
    have hnx:=lV i (z.l.drop 177)
    have hRl:=iC i (z.l.drop 177)
    have hRo:=mY i (z.l.drop 177) (by rw [List.length_drop];omega)
    repeat (first | refine JL.q (by first|(apply OQ.len (k:=z.l.length) (ad:=z.ad) (cap:=z.cap);exact Tryd.underlying27;rfl)|(apply OQ.cF (a:=177+i * 68) (b:=z.l.length);rfl;rfl)|(apply OQ.move;rfl)) rfl ?_ | refine JC.seq ?_ | refine JC.region ?_ | refine JL.nil ?_ | refine JE.next ?_)
    refine JC.cond rfl (fun hc=>?_) (fun hc=>?_)
    · have hi' : i<n:=by have : 177+i * 68<z.l.length:=of_decide_eq_true hc;omega
      clear hc
      obtain ⟨R,hR⟩ : ∃ R,fE i (z.l.drop 177)=R:=⟨_,rfl⟩
      obtain ⟨p,hp⟩ : ∃ p,177+i * 68=p:=⟨_,rfl⟩
      have hpl : p+68≤z.l.length:=by omega
      have hkD : Ee ((z.l.drop 177).drop (i * 68))=⟨mid z.l p 32,fF.bP (mid z.l (p+32) 4),mid z.l (p+36) 32⟩:=by
        rw [List.drop_drop,hp]
        unfold Ee mid
        simp only [List.drop_drop,Nat.add_zero]
      have ck1:=hkK p (by omega)
      have cn1:=hkN (p+32) (by omega)
      have ck2:=hkK (p+36) (by omega)
      have hm1 : (mid z.l p 32).length=32:=bU (by omega)
      have hm2 : (mid z.l (p+36) 32).length=32:=bU (by omega)
      rw [hkD,hR] at hnx
      rw [hR] at hRl hRo ⊢
      have hp2 : 177+(i+1) * 68=p+68:=by omega
      rw [hp]
      generalize mid z.l p 32=kc at ck1 hm1 hnx
      generalize mid z.l (p+36) 32=kq at ck2 hm2 hnx
      generalize fF.bP (mid z.l (p+32) 4)=kn at cn1 hnx
      have hkb:=pP kc kq kn hm1 hm2
      have hkl:=j0 (k:=⟨kc,kn,kq⟩) ⟨hm1,hm2⟩
      have hk1:=mR ⟨kc,kn,kq⟩
      generalize (⟨kc,kn,kq⟩ : Kp)=kp1 at *
      have hokR : ({ sD with kept:=R } : bC).ok:=⟨hok.root,hok.own,hok.other,hok.send,hok.take,hRo⟩
      have hkp : ∀ o,Row 26 (sec { sD with kept:=R } (aA q i)) o→cellAt o 165=some (aA q (bS R).length):=by rw [dM,hRl];exact Row.cell (fk hokR _)
      have hset : ∀ v',(sec { sD with kept:=R } (aA q i)).set 165 v'=sec { sD with kept:=R++[kp1] } v':=fun v'=>gD hokR _ _ v'
      have hl166:=au hokR (aA q i)
      have hqL : q=none→bS R=[]:=fun e=>by have:=hq e;rw [this] at hRl;rw [List.length_eq_zero_iff.1 hRl];rfl
      have hLl : (bS R).length<10000:=by rw [dM];omega
      repeat (first | refine JC.seq ?_ | refine JC.block ?_ | refine JC.skip ?_ | refine JE.next ?_)
      let vs : Nat→(Nat × Nat)→Value:=fun j y=>match j with
        | 0=>Pt b4 165
        | 1=>aA q (bS R).length
        | 2=>z.v
        | 3=>N p
        | 4=>(z.snd p).v
        | 5=>.agg (kc.map U8).toArray
        | 6=>z.v
        | 7=>N p
        | 8=>N (p+32)
        | 9=>(z.snd (p+32)).v
        | 10=>N kn
        | 11=>z.v
        | 12=>N p
        | 13=>N (p+36)
        | 14=>(z.snd (p+36)).v
        | 15=>.agg (kq.map U8).toArray
        | 16=>.agg (c6 kp1).toArray
        | 17=>.slice (some ⟨y.1,0,none⟩) 1 1
        | 18=>aA (some y) (bS R++[c6 kp1]).length
        | 19=>Pt b4 165
        | _=>N 0
      let Ms : Nat→(Nat × Nat)→List aJ:=fun j y=>match j with
        | 17=>[⟨y.1,Row 57 (c6 kp1),true⟩]
        | 18=>mH 57 65 (some y) (bS R++[c6 kp1])
        | 20=>[⟨b4,Row 26 (sec { sD with kept:=R++[kp1] } (aA (some y) (bS R++[c6 kp1]).length)),true⟩]
        | 21=>[⟨b4,Row 26 (sec { sD with kept:=R } (aA q i)),true⟩]
        | 22=>fD q R
        | 23=>[⟨b2,Row 26 (sec aD aq),true⟩]
        | _=>[]
      refine JC.grow (g:=⟨[(0,z.v),(2,Pt b2 0),(4,Pt b4 0),(5,N p)],24,vs,Ms,(fun j=>match j with | 1=>[(0,74)] | 4=>[(2,76),(3,77)] | 5=>[(4,78)] | 8=>[(7,81)] | 9=>[(6,80),(8,82)] | 10=>[(9,83)] | 13=>[(12,86)] | 14=>[(11,85),(13,87)] | 15=>[(14,88)] | 16=>[(5,79),(10,84),(15,89)] | 17=>[(16,90)] | 18=>[(1,75),(17,91)] | 20=>[(19,93),(18,92)] | _=>[]),(fun j=>match j with | 1=>[21] | 18=>[17,22] | 20=>[21] | _=>[]),(fun j=>match j with | 18=>[17,22] | 20=>[21] | _=>[]),(fun j=>match j with | 20=>some 18 | _=>none)⟩) [] [20,18,23] iV (by repeat (first | exact aj.nil | refine aj.cons _ _ _ rfl ?_)) ?_ (by kernel_rfl) (by kernel_rfl) (by kernel_rfl) ?_ ?_
      · exact ax.refl _
      · refine ⟨?_,?_,?_,?_,?_,?_,?_,?_,?_,?_,?_,?_,?_,?_,?_,?_,?_,?_,?_,?_,?_,trivial⟩
        · (intro xx EF MF Q kk;(try refine JL.bn rfl rfl ?_);exact JL.q (OQ.cw rfl rfl rfl (by decide) rfl) rfl (JL.nil (kk default nofun)))
        · (intro xx EF MF Q kk;(try refine JL.bn rfl rfl ?_);exact JL.q (OQ.load ef rfl .here hkp) rfl (JL.nil (kk default nofun)))
        · (intro xx EF MF Q kk;(try refine JL.bn rfl rfl ?_);exact JL.q (OQ.move rfl) rfl (JL.nil (kk default nofun)))
        · (intro xx EF MF Q kk;(try refine JL.bn rfl rfl ?_);exact JL.q (OQ.move rfl) rfl (JL.nil (kk default nofun)))
        · (intro xx EF MF Q kk;(try refine JL.bn rfl rfl ?_);exact JL.q (OQ.snd (s:=z) (m:=p) Tryd.underlying27 dH rfl rfl (by omega)) rfl (JL.nil (kk default nofun)))
        · (intro xx EF MF Q kk;(try refine JL.bn rfl rfl ?_);exact JL.q (OQ.an (vs:=[(z.snd p).v]) eu rfl (fun w' hw'=>ck1 w' (hz.holds hw' rfl))) rfl (JL.nil (kk default nofun)))
        · (intro xx EF MF Q kk;(try refine JL.bn rfl rfl ?_);exact JL.q (OQ.move rfl) rfl (JL.nil (kk default nofun)))
        · (intro xx EF MF Q kk;(try refine JL.bn rfl rfl ?_);exact JL.q (OQ.move rfl) rfl (JL.nil (kk default nofun)))
        · (intro xx EF MF Q kk;(try refine JL.bn rfl rfl ?_);exact JL.q (OQ.bH (a:=p) (b:=32) rfl rfl (by omega)) rfl (JL.nil (kk default nofun)))
        · (intro xx EF MF Q kk;(try refine JL.bn rfl rfl ?_);exact JL.q (OQ.snd (s:=z) (m:=p+32) Tryd.underlying27 dH rfl rfl (by omega)) rfl (JL.nil (kk default nofun)))
        · (intro xx EF MF Q kk;(try refine JL.bn rfl rfl ?_);exact JL.q (OQ.an (vs:=[(z.snd (p+32)).v]) er rfl (fun w' hw'=>cn1 w' (hz.holds hw' rfl))) rfl (JL.nil (kk default nofun)))
        · (intro xx EF MF Q kk;(try refine JL.bn rfl rfl ?_);exact JL.q (OQ.move rfl) rfl (JL.nil (kk default nofun)))
        · (intro xx EF MF Q kk;(try refine JL.bn rfl rfl ?_);exact JL.q (OQ.move rfl) rfl (JL.nil (kk default nofun)))
        · (intro xx EF MF Q kk;(try refine JL.bn rfl rfl ?_);exact JL.q (OQ.bH (a:=p) (b:=36) rfl rfl (by omega)) rfl (JL.nil (kk default nofun)))
        · (intro xx EF MF Q kk;(try refine JL.bn rfl rfl ?_);exact JL.q (OQ.snd (s:=z) (m:=p+36) Tryd.underlying27 dH rfl rfl (by omega)) rfl (JL.nil (kk default nofun)))
        · (intro xx EF MF Q kk;(try refine JL.bn rfl rfl ?_);exact JL.q (OQ.an (vs:=[(z.snd (p+36)).v]) eu rfl (fun w' hw'=>ck2 w' (hz.holds hw' rfl))) rfl (JL.nil (kk default nofun)))
        · (intro xx EF MF Q kk;(try refine JL.bn rfl rfl ?_);exact JL.q (OQ.dZ (cs:=c6 kp1) [0,1,2] [.tmp 79,.tmp 84,.tmp 89] (vs:=[.agg (kc.map U8).toArray,N kn,.agg (kq.map U8).toArray]) rfl rfl hkb) rfl (JL.nil (kk default nofun)))
        · (intro xx EF MF Q kk;exact JL.Er Tryd.underlying24 Ed rfl (by decide) (by decide) rfl hkl rfl fun b9 _=>JL.nil (kk (b9,0) nofun))
        · (intro xx EF MF Q kk;refine JL.jk (M':=⟨(xx 17).1,Row 57 (c6 kp1),true⟩::(mH 57 65 q (bS R)++MF)) (List.Perm.of_eq (Ac _ _ MF)) ?_;exact JL.vm (z:=.agg (c6 oN).toArray) (c:=c6 kp1) (L:=bS R) q Tryd.underlying24 Ed hqL rfl rfl hkl (fun v hv=>List.all_eq_true.1 hk1 v hv) rfl (by decide) (by omega) (by omega) rfl fun b9 cap9=>JL.nil (kk (b9,cap9) nofun))
        · (intro xx EF MF Q kk;(try refine JL.bn rfl rfl ?_);exact JL.q (OQ.cw rfl rfl rfl (by decide) rfl) rfl (JL.nil (kk default nofun)))
        · (intro xx EF MF Q kk;exact JL.aU (r:=sec { sD with kept:=R } (aA q i)) (r':=sec { sD with kept:=R++[kp1] } (aA (some (xx 18)) (bS R++[c6 kp1]).length)) (v:=aA (some (xx 18)) (bS R++[c6 kp1]).length) DI rfl rfl (dj _ _) (jE _ _) .here (by rw [hl166];decide) (hset _) (JL.nil (kk (xx 18) (fun k h=>by cases h;rfl))))
      · intro xx hx
        have e1:=hx 20 18 (by decide) rfl
        show JE _ _ _ _ _ [(0,z.v),(2,Pt b2 0),(4,Pt b4 0),(5,N p)] ([⟨b4,Row 26 (sec { sD with kept:=R++[kp1] } (aA (some (xx 20)) (bS R++[c6 kp1]).length)),true⟩]++(mH 57 65 (some (xx 18)) (bS R++[c6 kp1])++[⟨b2,Row 26 (sec aD aq),true⟩]))
        rw [e1]
        generalize xx 18=r
        clear hx e1 xx vs Ms
        rw [show bS R++[c6 kp1]=bS (R++[kp1]) by simp [bS],dM,show (R++[kp1]).length=i+1 by rw [List.length_append,hRl];rfl]
        repeat (first | refine JL.q (by first|(apply OQ.bH (a:=p) (b:=68);rfl;rfl;exact (by omega))|(apply OQ.move;rfl)|(apply OQ.assign;rfl)) rfl ?_ | refine JC.region ?_ | refine JL.nil ?_ | refine JE.next ?_ | refine JE.az ?_)
        exact JE.again (ι:=Nat × Acc) (i:=(i,q)) (i+1,some r) ⟨hi',nofun⟩ (by dsimp only;omega) (by dsimp only;rw [hp2];exact (by repeat (first | exact aj.nil | refine aj.cons _ _ _ rfl ?_))) (by dsimp only;rw [hnx];exact ax.refl _)
    have hi' : i=n:=by have h9 : ¬ 177+i * 68<z.l.length:=of_decide_eq_false hc;omega
    subst hi'
    clear hc hi
    rw [← hke] at hRl hRo ⊢
    have hsE : ({ sD with kept:=sD.kept } : bC)=sD:=rfl
    rw [hsE]
    obtain ⟨K,hK⟩ : ∃ K : fX,lJ q sD.kept=K:=⟨_,rfl⟩
    have hKl : K.l=sD.kept:=by rw [← hK];exact lN fun e=>List.length_eq_zero_iff.1 (by rw [hRl];exact hq e)
    have hKv : K.v=aA q i:=by rw [← hK,lK,hRl]
    have hlS:=au hok (aA q i)
    have hvi : aA q i=aA q sD.kept.length:=by rw [hRl]
    have hkn : q=none→sD.kept=[]:=fun e=>List.length_eq_zero_iff.1 (by rw [hRl];exact hq e)
    obtain ⟨r,hr⟩ : ∃ r : Bool,r=true↔bw (bC.z sD):=by classical exact ⟨decide (bw (bC.z sD)),by simp⟩
    have hKo : ∀ (w' : World) (A : List aJ),ah w [] (A++(fD q sD.kept++[⟨b2,Row 26 (sec aD aq),true⟩])) w'→K.ok w':=fun w' A hw'=>hK ▸ iR hRo (hw'.weak (iG _ _))
    have cR : ∀ w' : World,ah w [] ([⟨b4,Row 26 (sec sD (aA q i)),true⟩]++(fD q sD.kept++[⟨b2,Row 26 (sec aD aq),true⟩])) w'→Calls Tryd.prog 8 [.agg (sec sD (aA q i)).toArray].toArray w' fun e w''=>e=.returned (.bool r)∧Ext w' w'':=fun w' hw'=>by
      have:=(Ab sD K hok hKl w' (hKo w' _ hw')).mono fun e w'' ⟨⟨b,hb⟩,e1,h⟩=>(⟨by rw [e1];congr 2;exact Bool.eq_iff_iff.2 (hb.trans hr.symm),h⟩ : e=Ending.returned (.bool r)∧Ext w' w'')
      rwa [hKv] at this
    have hoo : (sec sD (aA q i)).all Value.oneCell'=true:=bA (dj _ _)
    cases r
    · have hno : ¬ BL z.l:=fun h=>absurd (hr.2 (by have h2:=h.2;rw [hn,hsD] at h2;exact h2)) (by decide)
      repeat (first | refine JL.q (by first|(apply OQ.af (cs:=sec sD (aA q i));exact fL;exact dn;rfl;exact .here;exact hlS;exact Row.all)|(apply OQ.an (vs:=[.agg (sec sD (aA q i)).toArray]);exact fN;rfl;exact cR)|(apply OQ.not;rfl)|(apply OQ.bV;rfl;rfl)|(apply OQ.move;rfl)) rfl ?_ | refine JC.seq ?_ | refine JC.region ?_ | refine JC.exit ?_ | refine JL.nil ?_ | refine JE.next ?_ | refine JE.aB ?_ | refine JE.aG ?_ | refine JL.dJ rfl rfl rfl rfl ?_)
      refine JC.cond_true rfl rfl ?_
      repeat (first | refine JC.seq ?_ | refine JC.region ?_)
      refine JL.gj (M':=[⟨b2,Row 26 (sec aD aq),true⟩]) (.drop _ _ _ (iG _ _)) ?_
      refine JL.q (OQ.pure (v:=.agg (sec aD aq).toArray) rfl rfl (by kernel_rfl)) rfl ?_
      refine JL.ag (cs:=sec aD aq) dn rfl rfl hzl (bA rfl) .here (au aC _) ?_
      repeat (first | refine JL.q (by (apply OQ.assign;rfl)) rfl ?_ | refine JL.nil ?_ | refine JE.next ?_)
      refine JC.ret ?_
      repeat (refine JE.aN ?_)
      exact JE.fQ rfl (RV.av fL dn rfl .here hzl Row.all) (RV.tmp rfl) fun w' hw=>⟨⟨none,aD,3,aC,fun _=>rfl,.inr ⟨hno,rfl,rfl⟩⟩,rfl,hw.weak (.nil _)⟩
    have hrz:=hr.1 rfl
    have hcb : bI sD=z.l:=by rw [← hsD];exact xl hL (by rw [hc0];omega) hn
    have hce:=pJ hok
    have cE : ∀ w' : World,ah w [] ([⟨b4,Row 26 (sec sD (aA q i)),true⟩]++(fD q sD.kept++[⟨b2,Row 26 (sec aD aq),true⟩])) w'→Calls Tryd.prog 17 [.agg (sec sD (aA q i)).toArray].toArray w' fun e w''=>∃ q' : Nat × Nat,e=.returned (aA (some q') (bI sD).length)∧ah w' [] (aZ 5 (some q') ((bI sD).map U8)) w'':=fun w' hw'=>by
      have:=uV sD K hok hKl hrz w' (hKo w' _ hw')
      rwa [hKv] at this
    repeat (first | refine JL.q (by first|(apply OQ.af (cs:=sec sD (aA q i));exact fL;exact dn;rfl;exact .here;exact hlS;exact Row.all)|(apply OQ.an (vs:=[.agg (sec sD (aA q i)).toArray]);exact fN;rfl;exact cR)|(apply OQ.not;rfl)|(apply OQ.move;rfl)) rfl ?_ | refine JC.seq ?_ | refine JC.region ?_ | refine JC.exit ?_ | refine JE.next ?_ | refine JE.aB ?_ | refine JE.aG ?_ | refine JL.bn rfl rfl ?_)
    refine JL.dK (ι:=Nat × Nat) (vs:=[.agg (sec sD (aA q i)).toArray]) (fun q'=>aA (some q') (bI sD).length) (fun q'=>aZ 5 (some q') ((bI sD).map U8)) pO rfl rfl (fun q'=>eT _ _ _) cE ?_
    intro q'
    have cS : ∀ w' : World,ah w [] (aZ 5 (some q') ((bI sD).map U8)++([⟨b4,Row 26 (sec sD (aA q i)),true⟩]++(fD q sD.kept++[⟨b2,Row 26 (sec aD aq),true⟩]))) w'→Calls Tryd.prog 12 [aA (some q') (bI sD).length,z.v].toArray w' fun e w''=>e=.returned (.bool true)∧Ext w' w'':=fun w' hw'=>x8 (a:=⟨some ⟨q'.1,0,none⟩,q'.2,bI sD⟩) (b:=z) rfl rfl (dN hw' .here) (hz.holds hw' rfl) (by show (bI sD).length<_;rw [hcb];omega) hcb
    repeat (first | refine JL.q (by first|(apply OQ.an (vs:=[aA (some q') (bI sD).length,z.v]);exact oP;rfl;exact cS)|(apply OQ.not;rfl)|(apply OQ.bG;rfl;rfl)|(apply OQ.move;rfl)) rfl ?_ | refine JL.nil ?_ | refine JE.next ?_ | refine JL.bn rfl rfl ?_)
    refine JC.cond_false rfl rfl ?_
    repeat (first | refine JL.q (by (apply OQ.af (cs:=sec sD (aA q i));exact fL;exact dn;rfl;exact (.there .here);exact hlS;exact Row.all)) rfl ?_ | refine JC.seq ?_ | refine JC.region ?_ | refine JC.skip ?_ | refine JE.next ?_)
    refine JL.gj (M':=fD q sD.kept++[⟨b2,Row 26 (sec aD aq),true⟩]) (.drop _ _ _ (.drop _ _ _ (ax.refl _))) ?_
    refine JL.jk (M':=⟨b2,Row 26 (sec aD aq),true⟩::fD q sD.kept) (by exact List.perm_append_comm (l₂:=[_])) ?_
    refine JL.ag (cs:=sec sD (aA q i)) dn rfl rfl hlS hoo .here (au aC _) ?_
    repeat (first | refine JL.q (by (apply OQ.assign;rfl)) rfl ?_ | refine JL.nil ?_ | refine JE.next ?_)
    refine JC.ret ?_
    skip
    exact JE.fQ rfl (RV.av fL dn rfl .here hlS Row.all) (RV.tmp rfl) fun w' hw=>⟨⟨q,sD,0,hok,hkn,.inl ⟨⟨hlok,by rw [hn,hsD];exact hrz⟩,by rw [hn,hsD],rfl⟩⟩,by dsimp only;rw [hvi];rfl,hw.weak (.drop _ _ _ (ax.refl _))⟩
end
end Go.Proofs.YtkfeolclllhfpaaDoor
