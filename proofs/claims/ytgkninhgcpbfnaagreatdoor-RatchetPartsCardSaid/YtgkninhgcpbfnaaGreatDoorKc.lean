/-
  Of no statement by itself: the texts KdfD, KdfE, KdfG, Sliv, Slgr, NumA, SealA, StrQ, StrR, StrM, StrO, StrT, StrU, StrV, SealB, CrvA, CrvB in one.
  Conditions: each theorem's own.
-/
import Derived.Test.YtgkninhgcpbfnaaGreatDoorKb
import Derived.Test.YtgkninhgcpbfnaaGreatDoorProg
import Init
set_option linter.unusedSimpArgs false
set_option linter.unusedVariables false
namespace Go.Proofs.YtgkninhgcpbfnaaGreatDoor
section
set_option maxRecDepth 10000
open Sl g5
theorem uS : aK Tryz.prog 69:=⟨_,Tryz.func69,rfl,by kernel_rfl⟩
theorem JZ (key info : List B) (i : Nat) : (tk key info i).length≤32:=by
  cases i with
  | zero=>simp [tk]
  | succ i=>exact Nat.le_of_eq (mC _ _ _)
set_option maxHeartbeats 16000000 in
theorem wH (key : List B) (hk : key.length=32) (info : aM) (m : Nat) (hm : m≤8160) (w : World) (hi : info.ok w) (hil : info.l.length<35184372080000) :
    Calls Tryz.prog 69 [.agg (key.map U8).toArray,info.v,N m].toArray w fun e w'=>∃ s : aM,e=.returned s.v∧uE s (iS key info.l m) s.cap∧ah w [] s.ct w':=by
  refine enter (n:=47) Tryz.func69 rfl rfl rfl (ah.start w []) ?_
  repeat (first | refine JC.seq ?_ | refine JC.region ?_)
  refine JL.box (r:=key.map U8) rfl rfl rfl fun b3 _=>?_
  repeat (first | refine JL.q (by (apply OQ.assign;rfl)) rfl ?_ | refine JC.seq ?_ | refine JC.region ?_ | refine JL.nil ?_ | refine JE.next ?_)
  refine JL.zX Tryz.underlying27 e5 rfl fun b12 _=>?_
  refine JL.zX Tryz.underlying27 e5 rfl fun b13 _=>?_
  repeat (first | refine JL.q (by (apply OQ.assign;rfl)) rfl ?_ | refine JC.seq ?_ | refine JC.region ?_ | refine JC.block ?_ | refine JL.nil ?_ | refine JE.next ?_)
  refine JC.loop (ι:=Nat × Nat × Nat × Nat × Nat) (fun i=>[(1,info.v),(2,N m),(3,Pt b3 0),(7,.slice (some ⟨i.2.1,0,none⟩) (32 * i.1) i.2.2.1),(8,.slice (some ⟨i.2.2.2.1,0,none⟩) (tk key info.l i.1).length i.2.2.2.2),(9,N (i.1+1))])
    (fun i=>[⟨i.2.2.2.1,Sl.aE 5 1 (tk key info.l i.1).length i.2.2.2.2 ((tk key info.l i.1).map U8),true⟩,⟨i.2.1,Sl.aE 5 1 (32 * i.1) i.2.2.1 ((mk key info.l i.1).map U8),true⟩,⟨b3,Row 23 (key.map U8),true⟩]) (fun i=>300 - i.1) (fun i=>32 * i.1<m+32) (0,b12,0,b13,0) (by dsimp only;omega) (by repeat (first | exact ai.nil | refine ai.cons _ _ _ rfl ?_)) (aq.refl _) ?_
  rintro ⟨i,b7,cap7,b8,cap8⟩ hI
  dsimp only at hI ⊢
  have hT:=JZ key info.l i
  by_cases h : i+1≤255∧32 * i<m
  · repeat (first | refine JL.q (by first|(apply OQ.yg;rfl;rfl;exact h.1)|(apply OQ.g9;rfl;rfl;exact h.2)|(apply OQ.eP;rfl;rfl)|(apply OQ.move;rfl)|(apply OQ.len;rfl;rfl)) rfl ?_ | refine JC.seq ?_ | refine JC.region ?_ | refine JL.nil ?_ | refine JE.next ?_ | refine JL.aU rfl rfl ?_)
    refine JC.cond_true rfl rfl ?_
    repeat (first | refine JC.seq ?_ | refine JC.region ?_ | refine JC.block ?_ | refine JC.skip ?_ | refine JE.next ?_)
    refine JL.zX Tryz.underlying27 e5 rfl fun b24 _=>?_
    repeat (refine JL.q (by (apply OQ.move;rfl)) rfl ?_)
    refine JL.append (cs:=(tk key info.l i).map U8) (fun b' cap'=>[⟨b',Sl.aE 5 1 (0+(tk key info.l i).length) cap' ([]++(tk key info.l i).map U8),true⟩,⟨b8,Sl.aE 5 1 (tk key info.l i).length cap8 ((tk key info.l i).map U8),true⟩,⟨b7,Sl.aE 5 1 (32 * i) cap7 ((mk key info.l i).map U8),true⟩,⟨b3,Row 23 (key.map U8),true⟩]) Tryz.underlying27 e5 rfl rfl (by intro _ _;repeat (first | exact aZ.here | apply aZ.there)) (by simp) (fun w' hw'=>?_) (eu _) rfl (by decide) (by omega) (by omega) rfl fun b10 cap10=>?_
    · obtain ⟨o,ho,hA⟩:=hw'.get (.there .here)
      exact Reads.block ho (Sl.aE.cells _ hA)
    rw [List.nil_append,Nat.zero_add]
    repeat (first | refine JL.q (by first|(apply OQ.move;rfl)|(apply OQ.assign;rfl)) rfl ?_ | refine JC.seq ?_ | refine JC.region ?_ | refine JL.nil ?_ | refine JE.next ?_)
    refine JL.append (cs:=info.l.map U8) (fun b' cap'=>[⟨b',Sl.aE 5 1 ((tk key info.l i).length+info.l.length) cap' ((tk key info.l i).map U8++info.l.map U8),true⟩,⟨b8,Sl.aE 5 1 (tk key info.l i).length cap8 ((tk key info.l i).map U8),true⟩,⟨b7,Sl.aE 5 1 (32 * i) cap7 ((mk key info.l i).map U8),true⟩,⟨b3,Row 23 (key.map U8),true⟩]) Tryz.underlying27 e5 rfl rfl (by intro _ _;repeat (first | exact aZ.here | apply aZ.there)) (by simp) (fun w' hw'=>(hi.holds hw' rfl).reads) (eu _) rfl (by decide) (by omega) (by omega) rfl fun b10 cap10=>?_
    repeat (first | refine JL.q (by first|(apply OQ.move;rfl)|(apply OQ.assign;rfl)|(apply OQ.uA;rfl;rfl;rfl)) rfl ?_ | refine JC.seq ?_ | refine JC.region ?_ | refine JL.nil ?_ | refine JE.next ?_)
    refine JL.fC Tryz.underlying27 e5 rfl rfl rfl rfl fun b33 _=>?_
    refine JL.append (cs:=[U8 (BitVec.ofNat 8 (i+1))]) (fun b' cap'=>[⟨b33,Row 5 [U8 (BitVec.ofNat 8 (i+1))],true⟩,⟨b',Sl.aE 5 1 ((tk key info.l i).length+info.l.length+1) cap' ((tk key info.l i).map U8++info.l.map U8++[U8 (BitVec.ofNat 8 (i+1))]),true⟩,⟨b8,Sl.aE 5 1 (tk key info.l i).length cap8 ((tk key info.l i).map U8),true⟩,⟨b7,Sl.aE 5 1 (32 * i) cap7 ((mk key info.l i).map U8),true⟩,⟨b3,Row 23 (key.map U8),true⟩]) Tryz.underlying27 e5 rfl rfl (by intro _ _;repeat (first | exact aZ.here | apply aZ.there)) rfl (fun w' hw'=>?_) (by simp [Value.oneCell']) rfl (by decide) (by omega) (by omega) rfl fun b10 cap10=>?_
    · obtain ⟨o,ho,hA⟩:=hw'.get .here
      exact Reads.block ho (Row.all _ hA)
    rw [show (tk key info.l i).map U8++info.l.map U8++[U8 (BitVec.ofNat 8 (i+1))]=(tk key info.l i++info.l++[BitVec.ofNat 8 (i+1)]).map U8 by simp,show (tk key info.l i).length+info.l.length+1=(tk key info.l i++info.l++[BitVec.ofNat 8 (i+1)]).length by simp;omega]
    have hml : (tk key info.l i++info.l++[BitVec.ofNat 8 (i+1)]).length<35184372088000:=by simp;omega
    have hmm : bS key (tk key info.l i++info.l++[BitVec.ofNat 8 (i+1)])=tk key info.l (i+1):=rfl
    generalize tk key info.l i++info.l++[BitVec.ofNat 8 (i+1)]=mm at hml hmm ⊢
    have hH : ∀ w',ah w [] [⟨b33,Row 5 [U8 (BitVec.ofNat 8 (i+1))],true⟩,⟨b10,Sl.aE 5 1 mm.length cap10 (mm.map U8),true⟩,⟨b8,Sl.aE 5 1 (tk key info.l i).length cap8 ((tk key info.l i).map U8),true⟩,⟨b7,Sl.aE 5 1 (32 * i) cap7 ((mk key info.l i).map U8),true⟩,⟨b3,Row 23 (key.map U8),true⟩] w'→
        Calls Tryz.prog 45 [.slice (some ⟨b3,0,none⟩) 32 32,.slice (some ⟨b10,0,none⟩) mm.length cap10].toArray w' fun e w''=>e=.returned (.agg ((tk key info.l (i+1)).map U8).toArray)∧Ext w' w'':=fun w' hw'=>by
      obtain ⟨o1,ho1,hA1⟩:=hw'.get (.there (.there (.there (.there .here))))
      obtain ⟨o2,ho2,hA2⟩:=hw'.get (.there .here)
      obtain ⟨sp,rfl,h2,h3,h4⟩:=id hA2
      have:=jG ⟨some ⟨b3,0,none⟩,32,key⟩ ⟨some ⟨b10,0,none⟩,cap10,mm⟩ w' ⟨Nat.le_of_eq hk,Reads.block ho1 (Row.all _ hA1)⟩ ⟨h4,Reads.block ho2 (Sl.aE.cells _ hA2)⟩ (show key.length<35184372088000 by omega) hml
      rw [hmm] at this
      simpa [aM.v,hk] using this
    repeat (first | refine JL.q (by first|(apply OQ.jT;exact Tryz.underlying23;exact s5;rfl)|(apply OQ.au;exact gw;rfl;exact hH)|(apply OQ.move;rfl)|(apply OQ.assign;rfl)) rfl ?_ | refine JC.seq ?_ | refine JC.region ?_ | refine JL.nil ?_ | refine JE.next ?_)
    refine JL.alloc fN rfl fun b11 _=>?_
    refine JL.ag eV rfl rfl (dF _) (dL _) .here (by simp) ?_
    repeat (first | refine JC.seq ?_ | refine JC.region ?_ | refine JL.nil ?_ | refine JE.next ?_)
    refine JL.zX Tryz.underlying27 e5 rfl fun b38 _=>?_
    repeat (refine JL.q (by (apply OQ.jT;exact Tryz.underlying23;exact s5;rfl)) rfl ?_)
    refine JL.append (cs:=(tk key info.l (i+1)).map U8) (fun b' cap'=>[⟨b',Sl.aE 5 1 (0+32) cap' ([]++(tk key info.l (i+1)).map U8),true⟩,⟨b11,Row 23 ((tk key info.l (i+1)).map U8),true⟩,⟨b33,Row 5 [U8 (BitVec.ofNat 8 (i+1))],true⟩,⟨b10,Sl.aE 5 1 mm.length cap10 (mm.map U8),true⟩,⟨b8,Sl.aE 5 1 (tk key info.l i).length cap8 ((tk key info.l i).map U8),true⟩,⟨b7,Sl.aE 5 1 (32 * i) cap7 ((mk key info.l i).map U8),true⟩,⟨b3,Row 23 (key.map U8),true⟩]) Tryz.underlying27 e5 rfl rfl (by intro _ _;repeat (first | exact aZ.here | apply aZ.there)) rfl (fun w' hw'=>?_) (eu _) rfl (by decide) (by decide) (by decide) rfl fun b8' cap8'=>?_
    · obtain ⟨o,ho,hA⟩:=hw'.get (.there .here)
      exact Reads.block ho (Row.all _ hA)
    rw [List.nil_append,Nat.zero_add]
    repeat (first | refine JL.q (by first|(apply OQ.move;rfl)|(apply OQ.assign;rfl)) rfl ?_ | refine JC.region ?_ | refine JL.nil ?_ | refine JE.next ?_)
    refine JL.append (cs:=(tk key info.l (i+1)).map U8) (fun b' cap'=>[⟨b8',Sl.aE 5 1 32 cap8' ((tk key info.l (i+1)).map U8),true⟩,⟨b11,Row 23 ((tk key info.l (i+1)).map U8),true⟩,⟨b33,Row 5 [U8 (BitVec.ofNat 8 (i+1))],true⟩,⟨b10,Sl.aE 5 1 mm.length cap10 (mm.map U8),true⟩,⟨b8,Sl.aE 5 1 (tk key info.l i).length cap8 ((tk key info.l i).map U8),true⟩,⟨b',Sl.aE 5 1 (32 * i+32) cap' ((mk key info.l i).map U8++(tk key info.l (i+1)).map U8),true⟩,⟨b3,Row 23 (key.map U8),true⟩]) Tryz.underlying27 e5 rfl rfl (by intro _ _;repeat (first | exact aZ.here | apply aZ.there)) rfl (fun w' hw'=>?_) (eu _) rfl (by decide) (by omega) (by omega) rfl fun b7' cap7'=>?_
    · obtain ⟨o,ho,hA⟩:=hw'.get .here
      exact Reads.block ho (Sl.aE.cells _ hA)
    rw [← List.map_append,show 32 * i+32=32 * (i+1) by omega]
    repeat (first | refine JL.q (by first|(apply OQ.move;rfl)|(apply OQ.assign;rfl)|(apply OQ.aY;rfl;rfl;exact (by (try simp only []);omega))) rfl ?_ | refine JC.region ?_ | refine JL.nil ?_ | refine JE.next ?_ | refine JE.an ?_)
    exact JE.again (ι:=Nat × Nat × Nat × Nat × Nat) (i:=(i,b7,cap7,b8,cap8)) (i+1,b7',cap7',b8',cap8') (by dsimp only;omega) (by dsimp only;omega) (by repeat (first | exact ai.nil | refine ai.cons _ _ _ rfl ?_)) (.keep _ _ _ _ _ _ (fun _ h=>h) (.drop _ _ _ (.drop _ _ _ (.drop _ _ _ (.drop _ _ _ (.keep _ _ _ _ _ _ (fun _ h=>h) (aq.refl _)))))))
  · have h' : ¬ 32 * i<m:=by omega
    refine JC.fact (.there .here) (fun o ho=>(Sl.aE.has (m:=m) o ho).2) fun hcap=>?_
    by_cases h1 : i+1≤255
    · repeat (first | refine JL.q (by first|(apply OQ.yg;rfl;rfl;exact h1)|(apply OQ.gu;rfl;rfl;exact h')|(apply OQ.eP;rfl;rfl)|(apply OQ.move;rfl)|(apply OQ.len;rfl;rfl)) rfl ?_ | refine JC.seq ?_ | refine JC.region ?_ | refine JL.nil ?_ | refine JE.next ?_ | refine JL.aU rfl rfl ?_)
      refine JC.cond_false rfl rfl ?_
      repeat (first | refine JL.q (by first|(apply OQ.nw;exact Tryz.underlying27;exact s5;rfl;rfl;exact (show m≤cap7 by omega))|(apply OQ.move;rfl)|(apply OQ.assign;rfl)) rfl ?_ | refine JC.seq ?_ | refine JC.region ?_ | refine JC.exit ?_ | refine JL.nil ?_ | refine JE.next ?_ | refine JE.ax ?_ | refine JE.aA ?_)
      refine JC.ret ?_
      skip
      refine JE.aQ rfl (RV.tmp rfl) fun w' hw=>⟨⟨some ⟨b7,0,none⟩,cap7,iS key info.l m⟩,?_,⟨rfl,rfl,fun h=>by cases h⟩,hw.weak (.drop _ _ _ (.keep _ _ _ _ _ _ (fun o ho=>?_) (aq.nil _)))⟩
      · simp [aM.v,dn,Addr.add]
      · refine ⟨?_,?_,rfl⟩
        · have:=(Sl.aE.has (m:=m) o ho).1
          show bD o 0 ((iS key info.l m).map U8)
          rw [iS,show (m+31) / 32=i by omega]
          exact this
        · show (iS key info.l m).length≤cap7
          rw [dn]
          omega
    · repeat (first | refine JL.q (by first|(apply OQ.CQ;rfl;rfl;exact h1)|(apply OQ.dK;rfl;rfl)|(apply OQ.move;rfl)) rfl ?_ | refine JC.seq ?_ | refine JC.region ?_ | refine JL.nil ?_ | refine JE.next ?_ | refine JL.iX rfl rfl rfl rfl ?_)
      refine JC.cond_false rfl rfl ?_
      repeat (first | refine JL.q (by first|(apply OQ.nw;exact Tryz.underlying27;exact s5;rfl;rfl;exact (show m≤cap7 by omega))|(apply OQ.move;rfl)|(apply OQ.assign;rfl)) rfl ?_ | refine JC.seq ?_ | refine JC.region ?_ | refine JC.exit ?_ | refine JL.nil ?_ | refine JE.next ?_ | refine JE.ax ?_ | refine JE.aA ?_)
      refine JC.ret ?_
      skip
      refine JE.aQ rfl (RV.tmp rfl) fun w' hw=>⟨⟨some ⟨b7,0,none⟩,cap7,iS key info.l m⟩,?_,⟨rfl,rfl,fun h=>by cases h⟩,hw.weak (.drop _ _ _ (.keep _ _ _ _ _ _ (fun o ho=>?_) (aq.nil _)))⟩
      · simp [aM.v,dn,Addr.add]
      · refine ⟨?_,?_,rfl⟩
        · have:=(Sl.aE.has (m:=m) o ho).1
          show bD o 0 ((iS key info.l m).map U8)
          rw [iS,show (m+31) / 32=i by omega]
          exact this
        · show (iS key info.l m).length≤cap7
          rw [dn]
          omega
end
section
set_option maxRecDepth 10000
open Sl g5
section
variable {P : Program} {n : Nat} {w0 w w' : World} {S : List Nat} {ops : Array Oper} {Q : Exit→Act→World→Prop} {l : List Oper} {E : Env} {M Ms : List aG} {d : Nat} {t t' e ty : TypeId} {pos : String} {aft : Array Edge} {x : Operand}
end
theorem K2 : EI Tryz.prog 23 (.agg ((List.replicate 32 (0 : B)).map U8).toArray) 32 32:=by unfold EI;kernel_rfl
theorem tM : aK Tryz.prog 55:=⟨_,Tryz.func55,rfl,by kernel_rfl⟩
def yJ (l : List B) (n i : Nat) : List Value:=(l.take (i * 32)).map U8++List.replicate (n * 32 - i * 32) (.int .u8 0)
theorem yK (l : List B) (n i : Nat) (hl : l.length=n * 32) (hi : i≤n) : (yJ l n i).length=n * 32:=by
  simp [yJ];omega
theorem Dh (l : List B) (n i : Nat) (hl : l.length=n * 32) (hi : i<n) :
    (yJ l n i).take (0+i * 32)++((l.drop (i * 32)).map U8).take 32++(yJ l n i).drop (0+i * 32+32)=yJ l n (i+1):=by
  have h1 : ((l.take (i * 32)).map U8).length=i * 32:=by simp;omega
  have a1 : (yJ l n i).take (0+i * 32)=(l.take (i * 32)).map U8:=by rw [Nat.zero_add,yJ,List.take_append_of_le_length (by omega),List.take_of_length_le (by omega)]
  have a2 : (yJ l n i).drop (0+i * 32+32)=List.replicate (n * 32 - (i+1) * 32) (.int .u8 0):=by
    rw [Nat.zero_add,yJ,List.drop_append,List.drop_of_length_le (by omega),List.nil_append,h1,List.drop_replicate]
    congr 1
    omega
  rw [a1,a2,← List.map_take,← List.map_append,← List.take_add,yJ,show i * 32+32=(i+1) * 32 by omega]
set_option maxHeartbeats 16000000 in
theorem wI (k s : aM) (p : ByteArray) (m : Nat) (hm : m≤255) (w : World) (hG : g7 w) (hk : k.ok w) (hs : s.ok w) (hkl : k.l.length<4611686018427387904) (hsl : s.l.length<4611686018427387000) (hpl : p.size<4611686018427380000) :
    Calls Tryz.prog 55 [k.v,s.v,.string p,N m].toArray w fun e w'=>∃ b,e=.returned (.tuple #[.slice (some ⟨b,0,none⟩) m m,N 0])∧ah w [] [⟨b,Row 23 ((iS (bS k.l s.l) (bytesOf p) (m * 32)).map U8),true⟩] w':=by
  refine enter (n:=52) Tryz.func55 rfl rfl rfl (ah.start w []) ?_
  repeat (first | refine JL.q (by first|(apply OQ.CM;rfl;rfl;exact (show ¬ ((m : Int)<0) by omega))|(apply OQ.CN;rfl;rfl;exact (show ¬ ((255 : Int)<(m : Int)) by omega))|(apply OQ.dK;rfl;rfl)|(apply OQ.move;rfl)|(apply OQ.assign;rfl)) rfl ?_ | refine JC.seq ?_ | refine JC.region ?_ | refine JL.nil ?_ | refine JE.next ?_ | refine JL.aU rfl rfl ?_)
  refine JC.cond_false rfl rfl ?_
  repeat (first | refine JL.q (by first|(apply OQ.au;exact uQ;rfl;exact (fun w' hw'=>wE k s w' (hG.aL hw'.aL (by simp)) (hk.holds hw' rfl) (hs.holds hw' rfl) hkl hsl))|(apply OQ.move;rfl)) rfl ?_ | refine JC.seq ?_ | refine JC.region ?_ | refine JC.skip ?_ | refine JE.next ?_)
  refine JL.MC Tryz.underlying9 Tryz.underlying27 Tryz.underlying5 rfl rfl fun b25 cap25=>?_
  repeat (refine JL.q (by first|(apply OQ.move;rfl)|(apply OQ.iB;rfl;rfl;exact (by (try simp only []);omega))) rfl ?_)
  refine JL.bX (ι:={ s' : aM // uE s' (iS (bS k.l s.l) (bytesOf p) (m * 32)) (m * 32) }) (fun i=>.tuple #[i.1.v,N 0]) (fun i=>i.1.ct) wF rfl rfl (fun i=>aM.ig _) (fun w' hw'=>(yI (bS k.l s.l) (qc _ _) ⟨some ⟨b25,0,none⟩,cap25,bytesOf p⟩ (m * 32) (by omega) w' (hG.aL hw'.aL (by simp)) (aM.jW hw' (fun h=>by cases h)) (by rw [fW];exact hpl)).mono fun e w2 ⟨s',h1,h2,h3⟩=>⟨⟨s',h2⟩,h1,h3⟩) ?_
  rintro ⟨s',hs'⟩
  dsimp only
  repeat (first | refine JL.q (by first|(apply OQ.extract;rfl;rfl)|(apply OQ.v7;rfl;rfl;rfl)|(apply OQ.move;rfl)|(apply OQ.assign;rfl)) rfl ?_ | refine JC.seq ?_ | refine JC.region ?_ | refine JL.nil ?_ | refine JE.next ?_)
  refine JC.cond_false rfl rfl ?_
  repeat (first | refine JL.q (by (apply OQ.move;rfl)) rfl ?_ | refine JC.seq ?_ | refine JC.region ?_ | refine JC.skip ?_ | refine JE.next ?_)
  refine JL.make Tryz.underlying90 K2 rfl (by decide) (c:=m) rfl rfl (by omega) (by omega) rfl fun b35 _=>?_
  repeat (first | refine JL.q (by first|(apply OQ.move;rfl)|(apply OQ.assign;rfl)|(apply OQ.len;rfl;rfl)) rfl ?_ | refine JC.seq ?_ | refine JC.region ?_ | refine JC.block ?_ | refine JL.nil ?_ | refine JE.next ?_)
  have hl : s'.l.length=m * 32:=by rw [hs'.val,dn]
  refine JC.loop (fun i : Nat=>[(10,s'.v),(12,.slice (some ⟨b35,0,none⟩) m m),(37,N m),(38,N i)]) (fun i=>⟨b35,Row 23 (yJ s'.l m i),true⟩::(s'.ct++((⟨some ⟨b25,0,none⟩,cap25,bytesOf p⟩ : aM).ct++[])))
    (fun i=>m - i) (fun i=>i≤m) 0 (by omega) (by repeat (first | exact ai.nil | refine ai.cons _ _ _ rfl ?_)) (.keep _ _ _ _ _ _ (fun o ho=>by simpa [yJ] using ho) (aq.refl _)) ?_
  intro i hi
  repeat (first | refine JL.q (by (apply OQ.bJ;rfl;rfl)) rfl ?_ | refine JC.seq ?_ | refine JC.region ?_ | refine JL.nil ?_ | refine JE.next ?_)
  refine JC.cond rfl (fun h=>?_) (fun h=>?_)
  · have hi' : i<m:=of_decide_eq_true h
    clear h hi
    repeat (first | refine JL.q (by first|(apply OQ.move;rfl)|(apply OQ.assign;rfl)) rfl ?_ | refine JC.seq ?_ | refine JC.region ?_ | refine JC.block ?_ | refine JC.skip ?_ | refine JL.nil ?_ | refine JE.next ?_)
    refine JC.tail 8 mixed (by kernel_rfl) ?_
    simp only [List.take_succ_cons,List.take_zero,List.drop_succ_cons,List.drop_zero]
    repeat (first | refine JQ.q (by first|(apply OQ.jS;exact Tryz.underlying90;exact eV;rfl;rfl;exact hi')|(apply OQ.jT;exact Tryz.underlying23;exact s5;rfl)|(apply OQ.nv;exact Tryz.underlying27;exact s5;rfl;rfl;exact (show i * 32≤s'.l.length by omega))|(apply OQ.move;rfl)|(apply OQ.iB;rfl;rfl;exact (by (try simp only []);omega))) rfl ?_ | refine JQ.bC ?_)
    have hmin : min (s'.l.length - i * 32) 32=32:=by omega
    refine JL.copy (cs:=(s'.l.drop (i * 32)).map U8) (r':=yJ s'.l m (i+1)) Tryz.underlying27 s5 rfl rfl .here (by simp) (fun w' hw'=>?_) (eu _) (by rw [hmin,yK _ _ _ hl (by omega)];omega) (by rw [hmin];exact Dh _ _ _ hl hi') rfl ?_
    · have hok:=aM.jW (hw'.weak (.drop _ _ _ (aq.refl _))) hs'.none
      have:=hok.reads.drop (len:=s'.l.length) (cap:=s'.cap) (lo:=i * 32) (by simp) hok.len (by omega)
      rwa [← List.map_drop] at this
    repeat (first | refine JL.q (by first|(apply OQ.move;rfl)|(apply OQ.aY;rfl;rfl;exact (by (try simp only []);omega))) rfl ?_ | refine JC.region ?_ | refine JL.nil ?_ | refine JE.next ?_ | refine JE.an ?_)
    exact JE.again (i:=i) (i+1) (by omega) (by omega) (by repeat (first | exact ai.nil | refine ai.cons _ _ _ rfl ?_)) (aq.refl _)
  · have hi' : ¬ i<m:=of_decide_eq_false h
    obtain rfl : i=m:=by omega
    clear h hi hi'
    repeat (first | refine JL.q (by first|(apply OQ.move;rfl)|(apply OQ.assign;rfl)) rfl ?_ | refine JC.seq ?_ | refine JC.region ?_ | refine JC.exit ?_ | refine JL.nil ?_ | refine JE.next ?_ | refine JE.ax ?_ | refine JE.aA ?_)
    refine JC.ret ?_
    skip
    refine JE.gp rfl (RV.tmp rfl) (RV.tmp rfl) fun w' hw=>⟨b35,rfl,hw.weak (.keep _ _ _ _ _ _ (fun o ho=>?_) (aq.nil _))⟩
    have e : yJ s'.l i i=(iS (bS k.l s.l) (bytesOf p) (i * 32)).map U8:=by
      rw [yJ,Nat.sub_self,List.replicate_zero,List.append_nil,List.take_of_length_le (by omega),hs'.val]
    rw [← e]
    exact ho
end
section
set_option maxRecDepth 10000
open Sl g5
theorem rC : aK Tryz.prog 44:=⟨_,Tryz.func44,rfl,by kernel_rfl⟩
def kj (l : List B) (i j : Nat) : List Value:=(((l.drop (32 * i)).take j)++List.replicate (32 - j) 0).map U8
theorem tN (l : List B) (i j m : Nat) (hl : l.length=32 * m) (hi : i<m) (hj : j≤32) : (kj l i j).length=32:=by
  simp [kj];omega
theorem H8 (l : List B) (i j m : Nat) (hl : l.length=32 * m) (hi : i<m) (hj : j<32) : (kj l i j).set j (U8 (l.getD (32 * i+j) 0))=kj l i (j+1):=by
  have h1 : ((l.drop (32 * i)).take j).length=j:=by simp;omega
  have h2 : j<(l.drop (32 * i)).length:=by simp;omega
  rw [kj,kj,← List.map_set,List.set_append_right _ _ (by omega),h1,Nat.sub_self,show 32 - j=(32 - (j+1))+1 by omega,List.replicate_succ,List.set_cons_zero,List.take_succ_eq_append_getElem h2,List.append_assoc]
  congr 2
  simp [List.getD,show 32 * i+j<l.length by omega]
theorem H9 (l : List B) (i : Nat) : kj l i 32=((l.drop (32 * i)).take 32).map U8:=by simp [kj]
set_option maxHeartbeats 16000000 in
theorem tO (k s : aM) (p : ByteArray) (m : Nat) (hm : m≤255) (w : World) (hk : k.ok w) (hs : s.ok w) (hkl : k.l.length<35184372088000) (hsl : s.l.length<35184372088000) (hpl : p.size<35184372080000) :
    Calls Tryz.prog 44 [k.v,s.v,.string p,N m].toArray w fun e w'=>∃ x : Nat × Nat,e=.returned (.slice (some ⟨x.1,0,none⟩) m x.2)∧ah w [] [⟨x.1,Sl.aE 23 32 m x.2 ((iS (bS k.l s.l) (bytesOf p) (32 * m)).map U8),true⟩] w':=by
  refine enter (n:=47) Tryz.func44 rfl rfl rfl (ah.start w []) ?_
  repeat (first | refine JL.q (by first|(apply OQ.au;exact sQ;rfl;exact (fun w' hw'=>uR k s w' (hk.holds hw' rfl) (hs.holds hw' rfl) hkl hsl))|(apply OQ.move;rfl)|(apply OQ.assign;rfl)) rfl ?_ | refine JC.seq ?_ | refine JC.region ?_ | refine JL.nil ?_ | refine JE.next ?_)
  refine JL.MC Tryz.underlying9 Tryz.underlying27 Tryz.underlying5 rfl rfl fun b18 cap18=>?_
  repeat (refine JL.q (by first|(apply OQ.move;rfl)|(apply OQ.iB;rfl;rfl;exact (by (try simp only []);omega))) rfl ?_)
  refine JL.bX (ι:={ s' : aM // uE s' (iS (bS k.l s.l) (bytesOf p) (32 * m)) s'.cap }) (fun i=>i.1.v) (fun i=>i.1.ct) uS rfl rfl (fun i=>aM.ig _) (fun w' hw'=>(wH (bS k.l s.l) (qc _ _) ⟨some ⟨b18,0,none⟩,cap18,bytesOf p⟩ (32 * m) (by omega) w' (aM.jW hw' (fun h=>by cases h)) (by rw [fW];exact hpl)).mono fun e w2 ⟨s',h1,h2,h3⟩=>⟨⟨s',h2⟩,h1,h3⟩) ?_
  rintro ⟨s',hs'⟩
  try dsimp only
  repeat (first | refine JL.q (by (apply OQ.assign;rfl)) rfl ?_ | refine JC.seq ?_ | refine JC.region ?_ | refine JL.nil ?_ | refine JE.next ?_)
  refine JL.uF Tryz.underlying90 K2 rfl fun b22 _=>?_
  repeat (first | refine JL.q (by (apply OQ.assign;rfl)) rfl ?_ | refine JC.seq ?_ | refine JC.region ?_ | refine JC.block ?_ | refine JL.nil ?_ | refine JE.next ?_)
  have hl : s'.l.length=32 * m:=by rw [hs'.val,dn]
  refine JC.loop (ι:=Nat × Nat × Nat) (fun i=>[(3,N m),(9,s'.v),(10,.slice (some ⟨i.2.1,0,none⟩) i.1 i.2.2),(11,N i.1)]) (fun i=>⟨i.2.1,Sl.aE 23 32 i.1 i.2.2 ((s'.l.take (32 * i.1)).map U8),true⟩::s'.ct)
    (fun i=>m - i.1) (fun i=>i.1≤m) (0,b22,0) (by dsimp only;omega) (by repeat (first | exact ai.nil | refine ai.cons _ _ _ rfl ?_)) (.keep _ _ _ _ _ _ (fun _ h=>h) (dS _ _)) ?_
  rintro ⟨i,b10,cap10⟩ hi
  dsimp only at hi ⊢
  repeat (first | refine JL.q (by first|(apply OQ.move;rfl)|(apply OQ.bJ;rfl;rfl)) rfl ?_ | refine JC.seq ?_ | refine JC.region ?_ | refine JL.nil ?_ | refine JE.next ?_)
  refine JC.cond rfl (fun h=>?_) (fun h=>?_)
  · have hi' : i<m:=of_decide_eq_true h
    clear h hi
    obtain ⟨ad,cap,l⟩:=s'
    cases ad with
    | none=>
      have : l=[]:=hs'.none rfl
      have hl : l.length=32 * m:=hl
      rw [this] at hl
      simp at hl
      omega
    | some a=>
    obtain ⟨b,j0,sp⟩:=a
    refine JC.fact (.there .here) (fun o ho=>ho.2.2) fun hsp=>?_
    have hsp : sp=none:=hsp
    subst hsp
    have hl : l.length=32 * m:=hl
    repeat (first | refine JC.seq ?_ | refine JC.region ?_ | refine JC.block ?_ | refine JC.skip ?_ | refine JE.next ?_)
    refine JL.q (OQ.pure (v:=.agg ((List.replicate 32 (0 : B)).map U8).toArray) rfl rfl (by kernel_rfl)) rfl ?_
    refine JL.alloc fN rfl fun b12 _=>?_
    refine JL.ag eV rfl rfl (by simp) (dL _) .here (by simp) ?_
    repeat (first | refine JL.q (by (apply OQ.assign;rfl)) rfl ?_ | refine JC.seq ?_ | refine JC.region ?_ | refine JC.block ?_ | refine JL.nil ?_ | refine JE.next ?_)
    refine JC.loop (fun j : Nat=>[(3,N m),(9,.slice (some ⟨b,j0,none⟩) l.length cap),(10,.slice (some ⟨b10,0,none⟩) i cap10),(11,N i),(12,Pt b12 0),(13,N j)])
      (fun j=>[⟨b12,Row 23 (kj l i j),true⟩,⟨b10,Sl.aE 23 32 i cap10 ((l.take (32 * i)).map U8),true⟩,⟨b,fun o=>bD o j0 (l.map U8)∧l.length≤cap∧(none : Option Nat)=none,true⟩]) (fun j=>32 - j) (fun j=>j≤32) 0 (by omega) (by repeat (first | exact ai.nil | refine ai.cons _ _ _ rfl ?_))
      (.keep _ _ _ _ _ _ (fun o ho=>by simpa [kj] using ho) (.keep _ _ _ _ _ _ (fun _ h=>h) (.keep _ _ _ _ _ _ (fun _ h=>h) (aq.nil _)))) ?_
    intro j hj
    repeat (first | refine JL.q (by first|(apply OQ.move;rfl)|(apply OQ.bJ;rfl;rfl)) rfl ?_ | refine JC.seq ?_ | refine JC.region ?_ | refine JL.nil ?_ | refine JE.next ?_)
    refine JC.cond rfl (fun h=>?_) (fun h=>?_)
    · have hj' : j<32:=of_decide_eq_true h
      clear h hj
      have hx : 32 * i+j<l.length:=by omega
      have hat:=dj (r:=l) U8 0 hx
      repeat (first | refine JL.q (by first|(apply OQ.gN;exact Tryz.underlying27;exact s5;rfl;rfl;exact hx)|(apply OQ.load;exact c5;rfl;exact (.there (.there .here));exact (fun o ho=>CP ho.1 hat))|(apply OQ.move;rfl)|(apply OQ.aY;rfl;rfl;exact (by (try simp only []);omega))|(apply OQ.iB;rfl;rfl;exact (by (try simp only []);omega))|(apply OQ.aD;rfl;rfl;rfl;rfl;exact (by (try simp only []);omega))) rfl ?_ | refine JC.seq ?_ | refine JC.region ?_ | refine JC.block ?_ | refine JC.skip ?_ | refine JE.next ?_)
      refine JL.az s5 rfl rfl rfl rfl .here (by rw [tN l i j m hl hi' (by omega)];exact hj') (H8 l i j m hl hi' hj') ?_
      repeat (first | refine JL.q (by first|(apply OQ.move;rfl)|(apply OQ.assign;rfl)|(apply OQ.aY;rfl;rfl;exact (by (try simp only []);omega))) rfl ?_ | refine JC.region ?_ | refine JL.nil ?_ | refine JE.next ?_ | refine JE.an ?_)
      exact JE.again (i:=j) (j+1) (by omega) (by omega) (by repeat (first | exact ai.nil | refine ai.cons _ _ _ rfl ?_)) (aq.refl _)
    · have hj' : ¬ j<32:=of_decide_eq_false h
      obtain rfl : j=32:=by omega
      clear h hj hj'
      have hkl':=tN l i 32 m hl hi' (Nat.le_refl _)
      rw [H9] at hkl' ⊢
      repeat (first | refine JL.q (by first|(apply OQ.af (cs:=((l.drop (32 * i)).take 32).map U8);exact mS;exact eV;rfl;exact .here;exact hkl';exact Row.all)|(apply OQ.move;rfl)) rfl ?_ | refine JC.region ?_ | refine JC.exit ?_ | refine JE.next ?_ | refine JE.ax ?_ | refine JE.aA ?_)
      refine JL.HH Tryz.underlying90 K2 rfl (by decide) (by decide) rfl hkl' rfl fun b44 _=>?_
      refine JL.append (cs:=((l.drop (32 * i)).take 32).map U8) (fun b' cap'=>[⟨b44,Row 23 (((l.drop (32 * i)).take 32).map U8),true⟩,⟨b12,Row 23 (((l.drop (32 * i)).take 32).map U8),true⟩,⟨b',Sl.aE 23 32 (i+1) cap' ((l.take (32 * i)).map U8++((l.drop (32 * i)).take 32).map U8),true⟩,⟨b,fun o=>bD o j0 (l.map U8)∧l.length≤cap∧(none : Option Nat)=none,true⟩]) Tryz.underlying90 K2 rfl rfl (by intro _ _;repeat (first | exact aZ.here | apply aZ.there)) hkl' (fun w' hw'=>?_) (eu _) rfl (by decide) (by omega) (by omega) rfl fun b10' cap10'=>?_
      · obtain ⟨o,ho,hA⟩:=hw'.get .here
        exact Reads.block ho (Row.all _ hA)
      rw [← List.map_append,← List.take_add,show 32 * i+32=32 * (i+1) by omega]
      repeat (first | refine JL.q (by first|(apply OQ.move;rfl)|(apply OQ.assign;rfl)|(apply OQ.aY;rfl;rfl;exact (by (try simp only []);omega))) rfl ?_ | refine JC.region ?_ | refine JL.nil ?_ | refine JE.next ?_ | refine JE.an ?_)
      exact JE.again (ι:=Nat × Nat × Nat) (i:=(i,b10,cap10)) (i+1,b10',cap10') (by dsimp only;omega) (by dsimp only;omega) (by repeat (first | exact ai.nil | refine ai.cons _ _ _ rfl ?_)) (.drop _ _ _ (.drop _ _ _ (aq.refl _)))
  · have hi' : ¬ i<m:=of_decide_eq_false h
    obtain rfl : i=m:=by omega
    clear h hi hi'
    repeat (first | refine JL.q (by first|(apply OQ.move;rfl)|(apply OQ.assign;rfl)) rfl ?_ | refine JC.seq ?_ | refine JC.region ?_ | refine JC.exit ?_ | refine JL.nil ?_ | refine JE.next ?_ | refine JE.ax ?_ | refine JE.aA ?_)
    refine JC.ret ?_
    skip
    refine JE.aQ rfl (RV.tmp rfl) fun w' hw=>⟨(b10,cap10),rfl,hw.weak (.keep _ _ _ _ _ _ (fun o ho=>?_) (aq.nil _))⟩
    rw [List.take_of_length_le (by omega),hs'.val] at ho
    exact ho
end
section
set_option maxRecDepth 10000
namespace Sl
section
variable {P : Program} {n : Nat} {w0 : World} {S : List Nat} {ops : Array Oper} {Q : Exit→Act→World→Prop} {l : List Oper} {E : Env} {M : List aG} {C : World→Prop}
variable {dst : Option Tmp} {d : Nat} {t ty : TypeId} {pos name : String} {aft : Array Edge} {g : Option (Nat × Bool)} {r : Operand} {v u : Value} {f : FuncId} {xs : List Operand} {ats ats' : Array TypeId}
def Di (P : Program) (t : TypeId) (v : Value) (name : String) (f : FuncId) : Prop:=CA P (Go.method (P.types.size+Made.depth) t v name)=some (f,v)
theorem Dj {a : Act} (hm : Di P t v name f) (hk : bK n E a) (hr : ev E r=some (.iface t v)) (w : World) :
    (execOp a.eval ⟨dst,.call ⟨.invoke r name,xs.toArray,ats⟩,ty,pos,aft,g⟩).run P w=(execOp a.eval ⟨dst,.call ⟨.value (.func f),(.const v::xs).toArray,ats'⟩,ty,pos,aft,g⟩).run P w:=by
  have h1:=hk.eval hr
  have h2 : (Go.method (P.types.size+Made.depth) t v name).run P w=.ok (f,v) w:=n5 hm
  have e2 : a.eval (.func f)=.func (.func f) #[] #[]:=rfl
  have e3 : a.eval (.const v)=v:=rfl
  have e4 : List.take xs.length (List.map a.eval xs)=List.map a.eval xs:=List.take_of_length_le (by simp)
  simp only [execOp,resolve,Sem.run_bind,Sem.run_pure,Result.andThen_ok,e2,Deferred.ofValue,invoke]
  simp [h1,callMethod,program,Sem.run_bind,Sem.run,h2,e3,e4]
theorem OQ.inv (hm : Di P t v name f) (hr : ev E r=some (.iface t v)) (h : OQ P n E C ⟨dst,.call ⟨.value (.func f),(.const v::xs).toArray,ats⟩,ty,pos,aft,g⟩ u) : OQ P n E C ⟨dst,.call ⟨.invoke r name,xs.toArray,ats⟩,ty,pos,aft,g⟩ u:=by
  refine ⟨fun a ha w hw=>?_⟩
  have h1:=h.go a ha w hw
  unfold Oper.quietAt at h1 ⊢
  rw [Dj hm ha hr]
  exact h1
end
end Sl
end
section
namespace Sl
variable {Y : Type}
structure dr (Y : Type) where
  E0 : Env
  N : Nat
  v : Nat→Y→Value
  M : Nat→Y→List aG
  need : Nat→List (Nat × Nat)
  oe : Nat→List Nat
  v9 : Nat→List Nat
  src : Nat→Option Nat
  E1 : Nat→Env
  R : Nat→Y→Y→Prop
def dr.HF (g : dr Y) (l : List Oper) (i : Nat) : Bool:=
  (g.E1 i).all fun p=>(List.range l.length).all fun k=>fD l k != some p.1 || (k != i && dH l k i)
def dr.oW (g : dr Y) (l : List Oper) (i : Nat) (o : Oper) : Bool:=
  (((g.need i).all (fun p=>behind o p.1 && fD l p.1 == some p.2) && zM o (g.src i)) && g.HF l i) &&
  ((g.oe i).all (fun j=>decide (j<g.N) && (decide (l.length≤j) || behind o j)) &&
  ((g.v9 i).all (fun j=>(g.oe i).contains j) &&
  ((List.range l.length).all (fun k=>k == i || (g.v9 k).all fun j=>!(g.oe i).contains j || dH l k i) &&
  (qS (g.oe i) && (o.after.toList.all (fun e=>!Region.binds .any e || decide (e.on<i)) && oV l g.E0 i o.dst)))))
def dr.iC (g : dr Y) (l : List Oper) : Nat→List Oper→Bool
  | _,[]=>true
  | i,o::r=>g.oW l i o && g.iC l (i+1) r
theorem dr.dR {g : dr Y} {l : List Oper} : ∀ {r : List Oper} {i : Nat},g.iC l i r=true→∀ {j o},r[j]?=some o→g.oW l (i+j) o=true
  | [],_,_,j,o,h=>by simp at h
  | q::r,i,hk,j,o,h=>by
    simp only [dr.iC,Bool.and_eq_true] at hk
    cases j with
    | zero=>
      simp only [List.getElem?_cons_zero,Option.some.injEq] at h
      subst h
      exact hk.1
    | succ j=>
      have:=dr.dR hk.2 (j:=j) (o:=o) (by simpa using h)
      rwa [show i+1+j=i+(j+1) by omega] at this
def dr.JM (g : dr Y) (P : Program) (n : Nat) (w0 : World) (S : List Nat) (l : List Oper) (i : Nat) (o : Oper) : Prop:=
  ∀ (x : Nat→Y) (EF : Env) (MF : List aG) (Q : Exit→Act→World→Prop),
    (∀ xi : Y,(∀ k,g.src i=some k→g.R i xi (x k))→JE n w0 S Q .normal (slot o.dst (g.v i xi)++((g.need i).map (fun p=>(p.2,g.v p.1 (x p.1)))++(g.E0++(g.E1 i++EF)))) (g.M i xi++(((g.oe i).filter fun j=>!(g.v9 i).contains j).flatMap (fun j=>g.M j (x j))++MF)))→
    JL P n w0 S l.toArray Q [o] ((g.need i).map (fun p=>(p.2,g.v p.1 (x p.1)))++(g.E0++(g.E1 i++EF))) ((g.oe i).flatMap (fun j=>g.M j (x j))++MF)
def dr.uC (g : dr Y) (P : Program) (n : Nat) (w0 : World) (S : List Nat) (l : List Oper) : Nat→List Oper→Prop
  | _,[]=>True
  | i,o::r=>g.JM P n w0 S l i o∧g.uC P n w0 S l (i+1) r
theorem dr.og {g : dr Y} {P : Program} {n : Nat} {w0 : World} {S : List Nat} {l : List Oper} : ∀ {r : List Oper} {i : Nat},g.uC P n w0 S l i r→∀ {j o},r[j]?=some o→g.JM P n w0 S l (i+j) o
  | [],_,_,j,o,h=>by simp at h
  | q::r,i,hk,j,o,h=>by
    cases j with
    | zero=>
      simp only [List.getElem?_cons_zero,Option.some.injEq] at h
      subst h
      exact hk.1
    | succ j=>
      have:=dr.og hk.2 (j:=j) (o:=o) (by simpa using h)
      rwa [show i+1+j=i+(j+1) by omega] at this
def dr.live (g : dr Y) (m : Nat) (done : Array Bool) (j : Nat) : Prop:=j<g.N∧(m≤j∨done.getD j false=true)∧∀ k,done.getD k false=true→j ∉ g.v9 k
structure dr.Inv (g : dr Y) (n : Nat) (w0 : World) (S : List Nat) (l : List Oper) (done : Array Bool) (x : Nat→Y) (a : Act) (w : World) : Prop where
  size : a.tmps.size=n
  defers : a.defers=[]
  tD : done.size=l.length
  base : ∀ p ∈ g.E0,a.tmps.getD p.1 undef=p.2
  first : ∀ j,j<l.length→done.getD j false=false→∀ p ∈ g.E1 j,a.tmps.getD p.1 undef=p.2
  vals : ∀ j d,done.getD j false=true→fD l j=some d→a.tmps.getD d undef=g.v j (x j)
  rel : ∀ j k,done.getD j false=true→g.src j=some k→g.R j (x j) (x k)
  down : ∀ j i,done.getD j false=true→dH l j i=true→done.getD i false=true
  mem : jV w0 S (g.live l.length done) (fun j=>g.M j (x j)) w
section
variable {P : Program} {n : Nat} {w0 : World} {S : List Nat} {Q : Exit→Act→World→Prop} {E : Env} {M : List aG} {g : dr Y} {l : List Oper}
theorem dr.run (hok : g.iC l 0 l=true) (hj : g.uC P n w0 S l 0 l)
    (hend : ∀ done x a w,g.Inv n w0 S l done x a w→(∀ j,j<l.length→done.getD j false=true)→Q .normal a w) :
    ∀ (f : Nat) (done : Array Bool) (x : Nat→Y) (a : Act) (w : World),f=(List.range l.length).countP (fun j=>!done.getD j false)→g.Inv n w0 S l done x a w→wpAny P .any l.toArray Q f done a w:=by
  have hrdy : ∀ done : Array Bool,done.size=l.length→Region.ready .any l.toArray done=[]→∀ j,j<l.length→done.getD j false=true:=by
    intro done hds hr j
    induction j using Nat.strongRecOn with
    | _ j ih=>
      intro hjl
      cases hd : done.getD j false with
      | true=>rfl
      | false=>
        obtain ⟨o,ho⟩ : ∃ o,l[j]?=some o:=⟨_,List.getElem?_eq_getElem hjl⟩
        have hk:=dr.dR hok ho
        simp only [dr.oW,Bool.and_eq_true,Nat.zero_add] at hk
        have hkk:=hk.2.2.2.2.2.1
        have : j ∈ Region.ready .any l.toArray done:=by
          rw [mem_ready]
          refine ⟨?_,o,by simpa using ho,fun e he hb=>?_⟩
          · rw [Array.getD_eq_getD_getElem?,Array.getElem?_eq_getElem (by omega)] at hd ⊢
            simpa using hd
          · have:=List.all_eq_true.1 hkk e (by simpa using he)
            simp only [hb,Bool.not_true,Bool.false_or,decide_eq_true_eq] at this
            exact ih e.on this (by omega)
        rw [hr] at this
        cases this
  intro f
  induction f with
  | zero=>
    intro done x a w hf hI
    have hall : ∀ j,j<l.length→done.getD j false=true:=fun j hjl=>by
      have:=List.countP_eq_zero.1 hf.symm j (List.mem_range.2 hjl)
      simpa using this
    refine ⟨?_,hend done x a w hI hall⟩
    refine List.eq_nil_iff_forall_not_mem.2 fun i hi=>?_
    obtain ⟨hu,o,ho,_⟩:=mem_ready.1 hi
    have hil : i<l.length:=by
      have:=(Array.getElem?_eq_some_iff.1 ho).1
      simpa using this
    have:=hall i hil
    rw [Array.getD_eq_getD_getElem?,Array.getElem?_eq_getElem (by have:=hI.tD;omega)] at hu this
    simp only [Option.getD_some] at hu this
    rw [hu] at this
    cases this
  | succ f ih=>
    intro done x a w hf hI
    have hds:=hI.tD
    refine ⟨fun h0=>hend done x a w hI (hrdy done hds h0),fun i hi=>?_⟩
    obtain ⟨hu,o,ho,hbe⟩:=mem_ready.1 hi
    have hil : i<l.length:=by
      have:=(Array.getElem?_eq_some_iff.1 ho).1
      simpa using this
    have ho' : l[i]?=some o:=by simpa using ho
    have hu' : done.getD i false=false:=by
      rw [Array.getD_eq_getD_getElem?,Array.getElem?_eq_getElem (by omega)] at hu ⊢
      simpa using hu
    have hk:=dr.dR hok ho'
    simp only [dr.oW,Bool.and_eq_true,Nat.zero_add] at hk
    obtain ⟨⟨⟨k1,k8⟩,k9⟩,k2,k3,k4,k5,_,k7⟩:=hk
    have hbeh : ∀ j,behind o j=true→done.getD j false=true:=fun j hj=>by
      simp only [behind,List.any_eq_true,Bool.and_eq_true,beq_iff_eq] at hj
      obtain ⟨e,he,rfl,hb⟩:=hj
      exact hbe e (by simpa using he) hb
    have hbi : ∀ k,dH l k i=true→done.getD k false=false:=fun k hk=>by
      cases h : done.getD k false with
      | false=>rfl
      | true=>have:=hI.down k i h hk;rw [hu'] at this;cases this
    have hinp : ∀ j ∈ g.oe i,g.live l.length done j:=by
      intro j hj
      have h2:=List.all_eq_true.1 k2 j hj
      simp only [Bool.and_eq_true,Bool.or_eq_true,decide_eq_true_eq] at h2
      refine ⟨h2.1,h2.2.imp id (hbeh j),fun k hkd hjk=>?_⟩
      have hkl : k<l.length:=by
        by_cases h : k<l.length
        · exact h
        · rw [Array.getD_eq_getD_getElem?,Array.getElem?_eq_none (by omega)] at hkd
          cases hkd
      have h4:=List.all_eq_true.1 k4 k (List.mem_range.2 hkl)
      have hki : k≠i:=fun e=>by rw [e,hu'] at hkd;cases hkd
      simp only [Bool.or_eq_true,beq_iff_eq,hki,false_or] at h4
      have h5:=List.all_eq_true.1 h4 j hjk
      simp only [Bool.or_eq_true,Bool.not_eq_true',List.contains_eq_mem,decide_eq_false_iff_not,hj,not_true,false_or] at h5
      rw [hbi k h5] at hkd
      cases hkd
    have hdone_ne : ∀ j,done.getD j false=true→j≠i:=fun j hj e=>by rw [e,hu'] at hj;cases hj
    have hlen : ∀ k,done.getD k false=true→k<l.length:=fun k hkd=>by
      by_cases h : k<l.length
      · exact h
      · rw [Array.getD_eq_getD_getElem?,Array.getElem?_eq_none (by omega)] at hkd
        cases hkd
    have hdi : fD l i=o.dst:=by simp [fD,ho']
    have hne : ∀ j d,done.getD j false=true→fD l j=some d→o.dst≠some d:=by
      intro j d hjd hd he
      rw [he] at k7
      simp only [oV,Bool.and_eq_true] at k7
      have:=List.all_eq_true.1 k7.1 j (List.mem_range.2 (hlen j hjd))
      simp [hdone_ne j hjd,hd] at this
    have hne0 : ∀ p ∈ g.E0,o.dst≠some p.1:=by
      intro p hp he
      rw [he] at k7
      simp only [oV,Bool.and_eq_true] at k7
      have:=List.all_eq_true.1 k7.2 p hp
      simp at this
    let rest : List Nat:=(List.range g.N).filter fun j=>@decide (g.live l.length done j) (Classical.propDecidable _) && !(g.oe i).contains j
    have hrest : ∀ j,j ∈ rest↔g.live l.length done j∧j ∉ g.oe i:=by
      intro j
      simp only [rest,List.mem_filter,List.mem_range,Bool.and_eq_true,Bool.not_eq_true',List.contains_eq_mem,decide_eq_false_iff_not]
      refine ⟨fun ⟨_,h2,h3⟩=>⟨@of_decide_eq_true _ (Classical.propDecidable _) h2,h3⟩,fun ⟨h2,h3⟩=>⟨h2.1,@decide_eq_true _ (Classical.propDecidable _) h2,h3⟩⟩
    have hnd : (g.oe i++rest).Nodup:=by
      rw [List.nodup_append]
      refine ⟨nB k5,List.nodup_range.filter _,fun a ha b hb e=>?_⟩
      exact ((hrest b).1 hb).2 (e ▸ ha)
    have H1:=hI.mem.to (g.oe i++rest) hnd (fun j hj=>by
      rcases List.mem_append.1 hj with h | h
      · exact hinp j h
      · exact ((hrest j).1 h).1)
    rw [List.flatMap_append] at H1
    let EF0 : Env:=(List.range l.length).filterMap fun j=>if done.getD j false=true then (fD l j).map (fun d=>(d,g.v j (x j))) else none
    let EF1 : Env:=(List.range l.length).flatMap fun j=>if done.getD j false=true then [] else g.E1 j
    let EF : Env:=EF0++EF1
    have hEF : ∀ p,p ∈ EF0↔∃ j d,done.getD j false=true∧fD l j=some d∧p=(d,g.v j (x j)):=by
      intro p
      simp only [EF0,List.mem_filterMap,List.mem_range]
      constructor
      · rintro ⟨j,_,hp⟩
        split at hp
        · rename_i hjd
          obtain ⟨d,hd,rfl⟩:=Option.map_eq_some_iff.1 hp
          exact ⟨j,d,hjd,hd,rfl⟩
        · cases hp
      · rintro ⟨j,d,hjd,hd,rfl⟩
        exact ⟨j,hlen j hjd,by rw [if_pos hjd,hd];rfl⟩
    have hEF1 : ∀ j,j<l.length→done.getD j false=false→∀ p ∈ g.E1 j,p ∈ EF1:=by
      intro j hjl hjd p hp
      simp only [EF1,List.mem_flatMap,List.mem_range]
      exact ⟨j,hjl,by rw [if_neg (by rw [hjd];decide)];exact hp⟩
    have hne1 : ∀ j,j<l.length→done.getD j false=false→∀ p ∈ g.E1 j,o.dst≠some p.1:=by
      intro j hjl hjd p hp he
      have hjo : l[j]?=some (l[j]'hjl):=List.getElem?_eq_getElem hjl
      have hkj:=dr.dR hok hjo
      simp only [dr.oW,Bool.and_eq_true,Nat.zero_add] at hkj
      have h9:=List.all_eq_true.1 hkj.1.2 p hp
      have h10:=List.all_eq_true.1 h9 i (List.mem_range.2 hil)
      simp only [hdi,he,bne_self_eq_false,Bool.false_or,Bool.and_eq_true] at h10
      have h11 : behind o j=true:=by simpa [dH,ho'] using h10.2
      rw [hbeh j h11] at hjd
      cases hjd
    have hneed : ∀ p ∈ g.need i,done.getD p.1 false=true∧fD l p.1=some p.2:=by
      intro p hp
      have h1:=List.all_eq_true.1 k1 p hp
      simp only [Bool.and_eq_true,beq_iff_eq] at h1
      exact ⟨hbeh _ h1.1,h1.2⟩
    have hK : ∀ p ∈ ((g.need i).map (fun p=>(p.2,g.v p.1 (x p.1)))++(g.E0++(g.E1 i++EF))),a.tmps.getD p.1 undef=p.2∧o.dst≠some p.1:=by
      intro p hp
      rcases List.mem_append.1 hp with h | h
      · obtain ⟨q,hq,rfl⟩:=List.mem_map.1 h
        obtain ⟨h1,h2⟩:=hneed q hq
        exact ⟨hI.vals _ _ h1 h2,hne _ _ h1 h2⟩
      · rcases List.mem_append.1 h with h | h
        · exact ⟨hI.base p h,hne0 p h⟩
        · rcases List.mem_append.1 h with h | h
          · exact ⟨hI.first i hil hu' p h,hne1 i hil hu' p h⟩
          · rcases List.mem_append.1 h with h | h
            · obtain ⟨j,d,h1,h2,rfl⟩:=(hEF p).1 h
              exact ⟨hI.vals _ _ h1 h2,hne _ _ h1 h2⟩
            · simp only [EF1,List.mem_flatMap,List.mem_range] at h
              obtain ⟨j,hjl,h⟩:=h
              cases hjd : done.getD j false with
              | true=>rw [hjd] at h;simp at h
              | false=>
                rw [hjd] at h
                simp only [Bool.false_eq_true,if_false] at h
                exact ⟨hI.first j hjl hjd p h,hne1 j hjl hjd p h⟩
    have job:=dr.og hj ho'
    rw [Nat.zero_add] at job
    refine jU ho ((job x EF (rest.flatMap fun j=>g.M j (x j)) _ fun xi hxi=>⟨fun a' w' hK' hH'=>?_⟩).go a w (bK.of hI.size hI.defers fun p hp=>(hK p hp).1) H1)
    have hd' : ∀ j,(done.setIfInBounds i true).getD j false=(decide (j=i) || done.getD j false):=fun j=>we (by omega)
    refine ih _ (fun j=>if j=i then xi else x j) a' w' ?_ ?_
    · have:=qR (l:=List.range l.length) (p:=fun j=>!done.getD j false) (q:=fun j=>!(done.setIfInBounds i true).getD j false) (i:=i) List.nodup_range (List.mem_range.2 hil) (by simp only [hu'];rfl) (by simp only [hd'];simp) (fun j hj=>by simp only [hd'];simp [hj])
      omega
    · have hmem : ∀ p ∈ (slot o.dst (g.v i xi)++((g.need i).map (fun p=>(p.2,g.v p.1 (x p.1)))++(g.E0++(g.E1 i++EF)))),a'.tmps.getD p.1 undef=p.2:=by
        intro p hp
        refine hK'.mem (f:=fun t=>if o.dst=some t then g.v i xi else a.tmps.getD t undef) (fun q hq=>?_) hp
        rcases List.mem_append.1 hq with h | h
        · cases hod : o.dst with
          | none=>rw [hod] at h;cases h
          | some d=>
            rw [hod] at h
            simp only [slot,List.mem_singleton] at h
            subst h
            simp
        · have:=hK q h
          simp only [this.2,if_false]
          exact this.1
      refine ⟨hK'.size,hK'.defers,by simp [hds],fun p hp=>hmem p (by simp [hp]),fun j hjl hjd p hp=>?_,?_,?_,?_,?_⟩
      · rw [hd'] at hjd
        simp only [Bool.or_eq_false_iff] at hjd
        exact hmem p (List.mem_append_right _ (List.mem_append_right _ (List.mem_append_right _ (List.mem_append_right _ (List.mem_append_right _ (hEF1 j hjl hjd.2 p hp))))))
      · intro j d hjd hd
        by_cases e : j=i
        · subst e
          rw [hdi] at hd
          have:=hmem (d,g.v j xi) (by simp [hd,slot])
          simpa using this
        · rw [hd'] at hjd
          simp only [e,decide_false,Bool.false_or] at hjd
          have:=hmem (d,g.v j (x j)) (List.mem_append_right _ (List.mem_append_right _ (List.mem_append_right _ (List.mem_append_right _ (List.mem_append_left _ ((hEF _).2 ⟨j,d,hjd,hd,rfl⟩))))))
          simpa [e] using this
      · intro j k hjd hs
        rw [hd'] at hjd
        by_cases e : j=i
        · subst e
          rw [hs] at k8
          simp only [if_true,hdone_ne k (hbeh k k8),if_false]
          exact hxi k hs
        · simp only [e,decide_false,Bool.false_or] at hjd
          have hjo : l[j]?=some (l[j]'(hlen j hjd)):=List.getElem?_eq_getElem (hlen j hjd)
          have hkj:=dr.dR hok hjo
          simp only [dr.oW,Bool.and_eq_true,Nat.zero_add] at hkj
          have h8:=hkj.1.1.2
          rw [hs] at h8
          have hkd:=hI.down j k hjd (by simpa [dH,hjo,zM] using h8)
          simp only [e,hdone_ne k hkd,if_false]
          exact hI.rel j k hjd hs
      · intro j i' hjd hb
        rw [hd'] at hjd ⊢
        by_cases e : j=i
        · subst e
          have : behind o i'=true:=by simpa [dH,ho'] using hb
          simp [hbeh i' this]
        · simp only [e,decide_false,Bool.false_or] at hjd
          simp [hI.down j i' hjd hb]
      · have hnl : ¬ g.live l.length done i:=fun h=>by
          rcases h.2.1 with h | h
          · omega
          · rw [hu'] at h;cases h
        have hcg : ∀ L : List Nat,(∀ j ∈ L,g.live l.length done j)→L.flatMap (fun j=>g.M j (if j=i then xi else x j))=L.flatMap fun j=>g.M j (x j):=by
          intro L
          induction L with
          | nil=>simp
          | cons j L ih=>
            intro h
            have hji : j≠i:=fun e=>hnl (e ▸ h j (by simp))
            simp only [List.flatMap_cons,hji,if_false,ih fun k hk=>h k (by simp [hk])]
        refine jV.of (Js:=i::(((g.oe i).filter fun j=>!(g.v9 i).contains j)++rest)) ?_ ?_
        · rw [List.flatMap_cons,List.flatMap_append,hcg _ (fun j hj=>hinp j (List.mem_filter.1 hj).1),hcg rest (fun j hj=>((hrest j).1 hj).1)]
          simpa using hH'
        · intro j hj
          by_cases e : j=i
          · simp [e]
          · have hl : g.live l.length done j:=by
              refine ⟨hj.1,hj.2.1.imp id (fun h=>?_),fun k hk=>hj.2.2 k (by rw [hd'];simp [hk])⟩
              rw [hd'] at h
              simpa [e] using h
            have hne : j ∉ g.v9 i:=hj.2.2 i (by rw [hd'];simp)
            by_cases hji : j ∈ g.oe i
            · simp [e,hji,hne]
            · have:=(hrest j).2 ⟨hl,hji⟩
              simp [e,this]
end
end Sl
end
section
set_option maxRecDepth 10000
open Sl ia
abbrev Bs:=List Bt
theorem uT : aK Tryz.prog 40:=⟨_,Tryz.func40,rfl,by kernel_rfl⟩
set_option maxHeartbeats 4000000 in
theorem wJ (s : aM) (w : World) (hs : s.ok w) (hl : s.l.length≤1000000) : Calls Tryz.prog 40 [s.v].toArray w fun e w'=>e=.returned (aj (th s.l))∧Ext w w':=by
  refine enter (n:=19) Tryz.func40 rfl rfl rfl (ah.start w []) ?_
  repeat (first | refine JL.q (by first|(apply OQ.len (k:=s.l.length) (ad:=s.ad) (cap:=s.cap);exact Tryz.underlying27;rfl)|(apply OQ.move;rfl)|(apply OQ.assign;rfl)) rfl ?_ | refine JC.seq ?_ | refine JC.region ?_ | refine JC.block ?_ | refine JL.nil ?_ | refine JE.next ?_)
  refine JC.loop (fun i : Nat=>[(6,s.v),(7,N s.l.length),(8,N i),(3,aj (th (s.l.take i)))]) (fun _=>[]) (fun i=>s.l.length - i) (fun i=>i≤s.l.length) 0 (Nat.zero_le _) (by repeat (first | exact ai.nil | refine ai.cons _ _ _ rfl ?_)) (aq.refl _) ?_
  intro i hi
  repeat (first | refine JL.q (by (apply OQ.bJ;rfl;rfl)) rfl ?_ | refine JC.seq ?_ | refine JC.region ?_ | refine JL.nil ?_ | refine JE.next ?_)
  refine JC.cond rfl (fun h=>?_) (fun h=>?_)
  · have hi' : i<s.l.length:=by have:=of_decide_eq_true h;omega
    clear h
    obtain ⟨b,j,hae,hca⟩:=hs.reads.at (by simp;omega)
    have hca:=hca i _ (dj U8 0 hi')
    have hsv : s.v=.slice (some ⟨b,j,none⟩) s.l.length s.cap:=by rw [← hae];rfl
    have e : th (s.l.take (i+1))=(th (s.l.take i) <<< 8) ||| (s.l.getD i 0).setWidth 64:=by
      rw [List.take_succ_eq_append_getElem hi']
      unfold th
      rw [List.foldl_append]
      simp [hi']
    rw [hsv]
    repeat (first | refine JL.q (by first|(apply OQ.gN;exact Tryz.underlying27;exact kM;rfl;rfl;exact hi')|(apply OQ.bQ;exact GL;rfl;exact (block_lt_of_cell hca);exact (by simp);exact hca)|(apply OQ.tF (k:=8);rfl;rfl)|(apply OQ.qU;exact Tryz.underlying5;exact Tryz.underlying84;rfl)|(apply OQ.A3;rfl;rfl)|(apply OQ.move;rfl)|(apply OQ.assign;rfl)|(apply OQ.aY;rfl;rfl;exact (by (try simp only []);omega))) rfl ?_ | refine JC.seq ?_ | refine JC.region ?_ | refine JC.block ?_ | refine JC.skip ?_ | refine JL.nil ?_ | refine JE.next ?_ | refine JE.an ?_)
    rw [← hsv,← e]
    exact JE.again (i:=i) (i+1) hi' (by omega) (by repeat (first | exact ai.nil | refine ai.cons _ _ _ rfl ?_)) (aq.refl _)
  · have hi' : i=s.l.length:=by have:=of_decide_eq_false h;omega
    subst hi'
    rw [List.take_length]
    repeat (first | refine JL.q (by first|(apply OQ.move;rfl)|(apply OQ.assign;rfl)) rfl ?_ | refine JC.seq ?_ | refine JC.region ?_ | refine JC.exit ?_ | refine JL.nil ?_ | refine JE.next ?_ | refine JE.ax ?_ | refine JE.aA ?_)
    exact JC.ret (JE.aQ rfl (RV.tmp rfl) fun w' hw=>⟨rfl,hw.aL⟩)
theorem wK : aK Tryz.prog 83:=⟨_,Tryz.func83,rfl,by kernel_rfl⟩
theorem Bn (n : BitVec 64) {size i : Nat} (h : i<size) : (jQ n size).take (i+1)=(jQ n size).take i++[(n >>> (8 * (size - 1 - i))).setWidth 8]:=by
  rw [List.take_succ_eq_append_getElem (by rw [nY];exact h)]
  simp [jQ]
set_option maxHeartbeats 8000000 in
theorem yL (q : Acc) (xs : Bs) (n : BitVec 64) (size : Nat) (h0 : 0<size) (h4 : size≤8) (hq : q=none→xs=[]) (hl : xs.length≤70000000000000) (w : World) (hw : ah w (keys (bR 5 q (xs.map U8))) (bR 5 q (xs.map U8)) w) :
    Calls Tryz.prog 83 [aC q xs.length,aj n,N size].toArray w fun e w'=>∃ r : Nat × Nat,e=.returned (aC (some r) (xs++jQ n size).length)∧ah w (keys (bR 5 q (xs.map U8))) (bR 5 (some r) ((xs++jQ n size).map U8)) w':=by
  generalize keys (bR 5 q (xs.map U8))=S at hw ⊢
  refine enter (n:=25) Tryz.func83 rfl rfl rfl hw ?_
  repeat (first | refine JL.q (by first|(apply OQ.move;rfl)|(apply OQ.assign;rfl)) rfl ?_ | refine JC.seq ?_ | refine JC.region ?_ | refine JC.block ?_ | refine JL.nil ?_ | refine JE.next ?_)
  refine JC.loop (fun z : Nat × Acc=>[(0,aC z.2 (xs++(jQ n size).take z.1).length),(1,aj n),(2,N size),(8,N size),(9,N z.1)]) (fun z=>bR 5 z.2 ((xs++(jQ n size).take z.1).map U8)) (fun z=>size - z.1) (fun z=>z.1≤size∧(z.2=none→xs++(jQ n size).take z.1=[]∧z.1=0)) (0,q) ⟨Nat.zero_le _,fun e=>⟨by rw [hq e];rfl,rfl⟩⟩ (by rw [List.take_zero,List.append_nil];exact (by repeat (first | exact ai.nil | refine ai.cons _ _ _ rfl ?_))) (by rw [List.take_zero,List.append_nil];exact aq.refl _) ?_
  rintro ⟨i,q⟩ ⟨hi,hq2⟩
  dsimp only at hi hq2 ⊢
  repeat (first | refine JL.q (by (apply OQ.bJ;rfl;rfl)) rfl ?_ | refine JC.seq ?_ | refine JC.region ?_ | refine JL.nil ?_ | refine JE.next ?_)
  refine JC.cond rfl (fun h=>?_) (fun h=>?_)
  · have hi' : i<size:=by have:=of_decide_eq_true h;omega
    clear h
    have et:=Bn n hi'
    generalize hys : xs++(jQ n size).take i=ys at hq2 ⊢
    have hy2 : xs++(jQ n size).take (i+1)=ys++[(n >>> (8 * (size - 1 - i))).setWidth 8]:=by rw [et,← List.append_assoc,hys]
    have hyl : ys.length≤70000000000008:=by rw [← hys,List.length_append,List.length_take,nY];omega
    repeat (first | refine JL.q (by first|(apply OQ.iB (a:=8);rfl;rfl;exact (by omega))|(apply OQ.jx (k:=8 * (size - 1 - i));rfl;rfl)|(apply OQ.ld;exact Tryz.underlying84;exact Tryz.underlying5;rfl)|(apply OQ.move;rfl)|(apply OQ.assign;rfl)|(apply OQ.jk;rfl;rfl;exact (by (try simp only []);omega);exact (by (try simp only []);omega))) rfl ?_ | refine JC.seq ?_ | refine JC.region ?_ | refine JC.block ?_ | refine JC.skip ?_ | refine JL.nil ?_ | refine JE.next ?_)
    refine JL.fC Tryz.underlying27 zS rfl rfl rfl rfl fun bl _=>?_
    refine JL.perm (M':=bR 5 q (ys.map U8)++[⟨bl,Row 5 [U8 ((n >>> (8 * (size - 1 - i))).setWidth 8)],true⟩]) ?_ (by exact (List.perm_append_singleton _ _).symm)
    refine JL.E9 (xs:=ys.map U8) (cs:=[U8 ((n >>> (8 * (size - 1 - i))).setWidth 8)]) (m:=1) (ad:=some ⟨bl,0,none⟩) (sc:=1) q Tryz.underlying27 zS (fun e=>by rw [(hq2 e).1];rfl) (by rw [List.length_map];rfl) rfl rfl (fun w' hw'=>?_) (by simp [Value.oneCell']) rfl (by rw [List.length_map];omega) (by rw [List.length_map];omega) rfl fun q' hq'=>?_
    · obtain ⟨o,ho,hA⟩:=hw'.get (b:=bl) (A:=Row 5 [U8 ((n >>> (8 * (size - 1 - i))).setWidth 8)]) (wr:=true) (Lv .here)
      exact Reads.block ho (Row.all o hA)
    have e2 : ys.map U8++[U8 ((n >>> (8 * (size - 1 - i))).setWidth 8)]=(xs++(jQ n size).take (i+1)).map U8:=by rw [hy2];simp
    rw [e2] at hq' ⊢
    rw [List.length_map]
    repeat (first | refine JL.q (by first|(apply OQ.move;rfl)|(apply OQ.assign;rfl)|(apply OQ.aY;rfl;rfl;exact (by (try simp only []);omega))) rfl ?_ | refine JC.region ?_ | refine JL.nil ?_ | refine JE.next ?_ | refine JE.an ?_)
    refine JE.again (i:=(i,q)) (i+1,q') ⟨hi',fun e=>absurd (hq' e) (by rw [hy2];simp)⟩ (by dsimp only;omega) (by repeat (first | exact ai.nil | refine ai.cons _ _ _ rfl ?_)) (dS _ _)
  · have hi' : i=size:=by have:=of_decide_eq_false h;omega
    subst hi'
    cases q with
    | none=>have:=(hq2 rfl).2;omega
    | some r=>
      rw [List.take_of_length_le (by rw [nY];exact Nat.le_refl _)]
      repeat (first | refine JL.q (by first|(apply OQ.move;rfl)|(apply OQ.assign;rfl)) rfl ?_ | refine JC.seq ?_ | refine JC.region ?_ | refine JC.exit ?_ | refine JL.nil ?_ | refine JE.next ?_ | refine JE.ax ?_ | refine JE.aA ?_)
      exact JC.ret (JE.aQ rfl (RV.tmp rfl) fun w' hw=>⟨r,rfl,hw⟩)
section
variable {n : Nat} {w0 : World} {S : List Nat} {ops : Array Oper} {Q : Exit→Act→World→Prop} {l : List Oper} {E : Env} {M : List aG} {C : World→Prop}
variable {dst : Option Tmp} {d : Nat} {ty t t' : TypeId} {pos : String} {aft : Array Edge} {g : Option (Nat × Bool)} {x x1 x2 x3 : Operand} {ats : Array TypeId} {P : Program}
theorem JL.Dl {q : Acc} {xs : Bs} {m : BitVec 64} {size : Nat} (h0 : 0<size) (h4 : size≤8) (hq : q=none→xs=[]) (hl : xs.length≤70000000000000) (e1 : ev E x1=some (aC q xs.length)) (e2 : ev E x2=some (aj m)) (e3 : ev E x3=some (N size)) (hd : Nat.blt d n=true)
    (kk : ∀ r : Nat × Nat,JL Tryz.prog n w0 S ops Q l ((d,aC (some r) (xs++jQ m size).length)::E) (bR 5 (some r) ((xs++jQ m size).map U8)++M)) : JL Tryz.prog n w0 S ops Q (⟨some d,.call ⟨.value (.func 83),#[x1,x2,x3],ats⟩,ty,pos,aft,none⟩::l) E (bR 5 q (xs.map U8)++M):=
  JL.GO (ι:=Nat × Nat) (xs:=[x1,x2,x3]) (vs:=[aC q xs.length,aj m,N size]) (fun r=>aC (some r) (xs++jQ m size).length) (fun r=>bR 5 (some r) ((xs++jQ m size).map U8)) wK (by simp [mO,e1,e2,e3]) hd (jX _ _ _) (fun _=>jX _ _ _)
    (fun w hw=>yL q xs m size h0 h4 hq hl w (hw.weak (dS _ _))) kk
end
end
section
set_option maxRecDepth 10000
open Sl g5 lz
theorem JL.wL {P : Program} {n : Nat} {w0 : World} {S : List Nat} {ops : Array Oper} {Q : Exit→Act→World→Prop} {l : List Oper} {E : Env} {M M' : List aG} (hM : aq M' M) (h : JL P n w0 S ops Q l E M') : JL P n w0 S ops Q l E M:=⟨fun a w ha hw=>h.go a w ha (hw.weak hM)⟩
def jd : ByteArray:=⟨#[115,101,97,108]⟩
def qq (key : List B) : List B:=iS (bS [] key) (bytesOf jd) (2 * 32)
theorem je (key : List B) : (qq key).length=64:=dn _ _ _
def k1 (key : List B) : List B:=(qq key).take 32
def k2 (key : List B) : List B:=(qq key).drop 32
theorem jH (key : List B) : (k1 key).length=32:=by rw [k1,List.length_take,je];rfl
theorem jI (key : List B) : (k2 key).length=32:=by rw [k2,List.length_drop,je]
theorem wM (key : List B) : (((qq key).map U8).drop (0+0 * 32)).take ((k1 key).map U8).length=(k1 key).map U8:=by
  rw [List.length_map,jH,k1,List.map_take];rfl
theorem wN (key : List B) : (((qq key).map U8).drop (0+1 * 32)).take ((k2 key).map U8).length=(k2 key).map U8:=by
  have h:=je key
  rw [List.length_map,jI,k2,List.map_drop,show 0+1 * 32=32 from rfl,List.take_of_length_le (by simp [h])]
theorem wO : aK Tryz.prog 58:=⟨_,Tryz.func58,rfl,by kernel_rfl⟩
theorem rD : aK Tryz.prog 68:=⟨_,Tryz.func68,rfl,by kernel_rfl⟩
theorem oy : aK Tryz.prog 60:=⟨_,Tryz.func60,rfl,by kernel_rfl⟩
theorem sR : aK Tryz.prog 46:=⟨_,Tryz.func46,rfl,by kernel_rfl⟩
def J0 : Nat→List (Nat × Nat)
  | 1=>[(0,11)]
  | 2=>[(1,12)]
  | 4=>[(3,14)]
  | 5=>[(4,15)]
  | 6=>[(2,13)]
  | 7=>[(5,16)]
  | _=>[]
def LD : Nat→List Nat
  | 2=>[8]
  | 5=>[8]
  | 6=>[10]
  | 7=>[9]
  | _=>[]
def LF : Nat→List Nat
  | 6=>[10]
  | 7=>[9]
  | _=>[]
theorem Bo (key : List B) (hk : key.length=32) (b1 : Nat) (w : World) (hG : g7 w) (hr : aM.ok w ⟨some ⟨b1,0,none⟩,32,key⟩) :
    Calls Tryz.prog 55 [iR.v,.slice (some ⟨b1,0,none⟩) 32 32,.string jd,N 2].toArray w fun e w'=>∃ b,e=.returned (.tuple #[.slice (some ⟨b,0,none⟩) 2 2,N 0])∧ah w [] [⟨b,Row 23 ((qq key).map U8),true⟩] w':=by
  have:=wI iR ⟨some ⟨b1,0,none⟩,32,key⟩ jd 2 (by decide) w hG (mj _) hr (by simp [iR]) (show key.length<4611686018427387000 by omega) (by decide)
  rw [show aM.v ⟨some ⟨b1,0,none⟩,32,key⟩=.slice (some ⟨b1,0,none⟩) 32 32 by simp [aM.v,hk]] at this
  rw [qq]
  exact this
set_option maxHeartbeats 2000000 in
theorem zY (key : List B) (hk : key.length=32) (w : World) (hG : g7 w) :
    Calls Tryz.prog 58 [.agg (key.map U8).toArray].toArray w fun e w'=>e=.returned (.tuple #[.agg ((k1 key).map U8).toArray,.agg ((k2 key).map U8).toArray])∧Ext w w':=by
  have hKeys:=Bo key hk
  have h1 : ((k1 key).map U8).length=32:=by rw [List.length_map,jH]
  have h2 : ((k2 key).map U8).length=32:=by rw [List.length_map,jI]
  have c1:=wM key
  have c2:=wN key
  generalize qq key=ek at hKeys c1 c2
  generalize k1 key=a1 at h1 c1 ⊢
  generalize k2 key=a2 at h2 c2 ⊢
  refine enter (n:=17) Tryz.func58 rfl rfl rfl (ah.start w []) ?_
  repeat (first | refine JC.seq ?_ | refine JC.region ?_)
  refine JL.box (r:=key.map U8) rfl rfl rfl fun b1 _=>?_
  refine JL.alloc fN rfl fun b2 _=>?_
  refine JL.alloc fN rfl fun b3 _=>?_
  repeat (first | refine JL.q (by (apply OQ.jT;exact Tryz.underlying23;exact s5;rfl)) rfl ?_ | refine JC.seq ?_ | refine JC.region ?_ | refine JL.nil ?_ | refine JE.next ?_)
  refine JL.bX (ι:=Nat) (vs:=[iR.v,.slice (some ⟨b1,0,none⟩) 32 32,.string jd,N 2]) (fun b=>.tuple #[.slice (some ⟨b,0,none⟩) 2 2,N 0]) (fun b=>[⟨b,Row 23 (ek.map U8),true⟩]) tM rfl rfl (fun i=>by simp) (fun w' hw'=>hKeys b1 w' (hG.aL hw'.aL (by simp)) (fL hw' (.there (.there .here)) rfl (Nat.le_of_eq hk))) fun bk=>?_
  try dsimp only
  repeat (first | refine JL.q (by first|(apply OQ.extract;rfl;rfl)|(apply OQ.move;rfl)|(apply OQ.assign;rfl)) rfl ?_ | refine JC.seq ?_ | refine JL.nil ?_ | refine JE.next ?_)
  let vs : Nat→X→Value:=fun j _=>match j with
    | 0=>.slice (some ⟨bk,0,none⟩) 2 2
    | 1=>Pt bk (0+0 * 32)
    | 2=>.agg (a1.map U8).toArray
    | 3=>.slice (some ⟨bk,0,none⟩) 2 2
    | 4=>Pt bk (0+1 * 32)
    | _=>.agg (a2.map U8).toArray
  let Ms : Nat→X→List aG:=fun j _=>match j with
    | 6=>[⟨b2,Row 23 (a1.map U8),true⟩]
    | 7=>[⟨b3,Row 23 (a2.map U8),true⟩]
    | 8=>[⟨bk,Row 23 (ek.map U8),true⟩]
    | 9=>[⟨b3,Row 23 ((List.replicate 32 (0 : B)).map U8),true⟩]
    | 10=>[⟨b2,Row 23 ((List.replicate 32 (0 : B)).map U8),true⟩]
    | 11=>[⟨b1,Row 23 (key.map U8),true⟩]
    | _=>[]
  refine JC.grow (g:=⟨[(2,Pt b2 0),(3,Pt b3 0),(4,.slice (some ⟨bk,0,none⟩) 2 2)],12,vs,Ms,J0,LD,LF,fun _=>none⟩) [] [6,7] mixed (by repeat (first | exact ai.nil | refine ai.cons _ _ _ rfl ?_)) (aq.refl _) (by kernel_rfl) (by kernel_rfl) (by kernel_rfl) ?_ ?_
  · refine ⟨?_,?_,?_,?_,?_,?_,?_,?_,trivial⟩
    iterate 6 (focus (intro x EF MF Q kk;(try refine JL.aU rfl rfl ?_);exact JL.q (by first|(apply OQ.jS;exact Tryz.underlying90;exact eV;rfl;rfl;exact (by decide))|(apply OQ.af (cs:=a1.map U8);exact mS;exact eV;rfl;exact .here;exact h1;exact (Row.cells c1))|(apply OQ.af (cs:=a2.map U8);exact mS;exact eV;rfl;exact .here;exact h2;exact (Row.cells c2))|(apply OQ.move;rfl)) rfl (JL.nil (kk default nofun))))
    · intro x EF MF Q kk
      exact JL.ag eV rfl rfl h1 (dL _) .here (by simp) (JL.nil (kk (0,0) nofun))
    · intro x EF MF Q kk
      exact JL.ag eV rfl rfl h2 (dL _) .here (by simp) (JL.nil (kk (0,0) nofun))
  · intro x _
    repeat (refine JE.next ?_)
    refine JC.ret ?_
    skip
    exact JE.gp rfl (RV.av mS eV rfl .here h1 Row.all) (RV.av mS eV rfl (.there .here) h2 Row.all) fun w' hw=>⟨rfl,hw.aL⟩
def Jp (a b : List B) : Nat→B
  | 0=>0
  | i+1=>Jp a b i ||| (a.getD i 0 ^^^ b.getD i 0)
theorem or_zero {x y : B} : x ||| y=0↔x=0∧y=0:=by
  constructor
  · intro h
    have g : ∀ i,(x ||| y).getLsbD i=false:=fun i=>by rw [h];simp
    simp only [BitVec.getLsbD_or,Bool.or_eq_false_iff] at g
    exact ⟨BitVec.eq_of_getLsbD_eq fun i _=>by simpa using (g i).1,BitVec.eq_of_getLsbD_eq fun i _=>by simpa using (g i).2⟩
  · rintro ⟨rfl,rfl⟩;rfl
theorem xor_zero {x y : B} : x ^^^ y=0↔x=y:=by
  constructor
  · intro h
    have:=congrArg (· ^^^ y) h
    simpa [BitVec.xor_assoc] using this
  · rintro rfl;simp
theorem rE (a b : List B) : ∀ i,Jp a b i=0↔∀ j<i,a.getD j 0=b.getD j 0
  | 0=>by simp [Jp]
  | i+1=>by
    rw [Jp,or_zero,rE a b i,xor_zero]
    constructor
    · rintro ⟨h1,h2⟩ j hj
      by_cases e : j=i
      · rw [e];exact h2
      · exact h1 j (by omega)
    · intro h
      exact ⟨fun j hj=>h j (by omega),h i (by omega)⟩
theorem Fm {a b : List B} (hl : a.length=b.length) : decide (Jp a b a.length=0)=decide (a=b):=by
  refine decide_eq_decide.2 ⟨fun h=>?_,fun h=>?_⟩
  · exact lz.C2 hl ((rE a b _).1 h)
  · subst h;exact (rE a a _).2 fun _ _=>rfl
set_option maxHeartbeats 8000000 in
theorem Bp (a b : aM) (w : World) (ha : a.ok w) (hb : b.ok w) (hal : a.l.length<4611686018427387904) : Calls Tryz.prog 68 [a.v,b.v].toArray w fun e w'=>e=.returned (.bool (decide (a.l=b.l)))∧Ext w w':=by
  refine enter (n:=31) Tryz.func68 rfl rfl rfl (ah.start w []) ?_
  repeat (first | refine JL.q (by first|(apply OQ.move;rfl)|(apply OQ.assign;rfl)|(apply OQ.len;rfl;rfl)|(apply OQ.Lb;rfl;rfl)) rfl ?_ | refine JC.seq ?_ | refine JC.region ?_ | refine JL.nil ?_ | refine JE.next ?_)
  refine JC.cond rfl (fun h=>?_) (fun h=>?_)
  · have h : ¬ a.l.length=b.l.length:=by simpa using h
    repeat (first | refine JL.q (by (apply OQ.assign;rfl)) rfl ?_ | refine JC.seq ?_ | refine JC.region ?_ | refine JL.nil ?_ | refine JE.next ?_)
    refine JC.ret ?_
    repeat (refine JE.aH ?_)
    refine JE.aQ rfl (RV.tmp rfl) fun w' hw=>⟨?_,hw.aL⟩
    rw [decide_eq_false (fun e=>h (by rw [e]))]
  · have h : a.l.length=b.l.length:=by simpa using h
    repeat (first | refine JL.q (by first|(apply OQ.move;rfl)|(apply OQ.assign;rfl)|(apply OQ.len;rfl;rfl)) rfl ?_ | refine JC.seq ?_ | refine JC.region ?_ | refine JC.block ?_ | refine JC.skip ?_ | refine JL.nil ?_ | refine JE.next ?_)
    refine JC.loop (fun i : Nat=>[(1,b.v),(5,U8 (Jp a.l b.l i)),(13,a.v),(14,N a.l.length),(15,N i)]) (fun _=>[]) (fun i=>a.l.length - i) (fun i=>i≤a.l.length) 0 (by omega) (by repeat (first | exact ai.nil | refine ai.cons _ _ _ rfl ?_)) (aq.refl _) ?_
    intro i hi
    repeat (first | refine JL.q (by (apply OQ.bJ;rfl;rfl)) rfl ?_ | refine JC.seq ?_ | refine JC.region ?_ | refine JL.nil ?_ | refine JE.next ?_)
    refine JC.cond rfl (fun h2=>?_) (fun h2=>?_)
    · have hi' : i<a.l.length:=of_decide_eq_true h2
      clear h2
      obtain ⟨ba,ja,hae,hca⟩:=ha.reads.at (by simp;omega)
      obtain ⟨bb,jb,hbe,hcb⟩:=hb.reads.at (by simp;omega)
      have hca:=hca i _ (dj U8 0 hi')
      have hcb:=hcb i _ (dj U8 0 (show i<b.l.length by omega))
      have hav : a.v=.slice (some ⟨ba,ja,none⟩) a.l.length a.cap:=by rw [← hae];rfl
      have hbv : b.v=.slice (some ⟨bb,jb,none⟩) b.l.length b.cap:=by rw [← hbe];rfl
      rw [hav,hbv]
      repeat (first | refine JL.q (by first|(apply OQ.gN;exact Tryz.underlying27;exact s5;rfl;rfl;exact hi')|(apply OQ.gN;exact Tryz.underlying27;exact s5;rfl;rfl;exact (show i<b.l.length by omega))|(apply OQ.bQ;exact c5;rfl;exact (block_lt_of_cell hca);exact (by simp);exact hca)|(apply OQ.bQ;exact c5;rfl;exact (block_lt_of_cell hcb);exact (by simp);exact hcb)|(apply OQ.MD;rfl;rfl)|(apply OQ.move;rfl)|(apply OQ.assign;rfl)|(apply OQ.A2;rfl;rfl)|(apply OQ.aY;rfl;rfl;exact (by (try simp only []);omega))) rfl ?_ | refine JC.seq ?_ | refine JC.region ?_ | refine JC.block ?_ | refine JC.skip ?_ | refine JL.nil ?_ | refine JE.next ?_ | refine JE.an ?_)
      rw [← hav,← hbv]
      exact JE.again (i:=i) (i+1) (by omega) (by omega) (by repeat (first | exact ai.nil | refine ai.cons _ _ _ rfl ?_)) (aq.refl _)
    · have hi' : ¬ i<a.l.length:=of_decide_eq_false h2
      obtain rfl : i=a.l.length:=by omega
      repeat (first | refine JL.q (by first|(apply OQ.Lj (b:=0#8);rfl;rfl)|(apply OQ.move;rfl)|(apply OQ.assign;rfl)) rfl ?_ | refine JC.seq ?_ | refine JC.region ?_ | refine JC.exit ?_ | refine JL.nil ?_ | refine JE.next ?_ | refine JE.ax ?_ | refine JE.aA ?_)
      refine JC.ret ?_
      skip
      refine JE.aQ rfl (RV.tmp rfl) fun w' hw=>⟨?_,hw.aL⟩
      rw [← Fm h]
      rfl
theorem zZ {a b : aM} {va vb : Value} {c : Bool} (hva : a.v=va) (hvb : b.v=vb) {w : World} (ha : a.ok w) (hb : b.ok w) (hal : a.l.length<4611686018427387904) (h : decide (a.l=b.l)=c) : Calls Tryz.prog 68 [va,vb].toArray w fun e w'=>e=.returned (.bool c)∧Ext w w':=by
  have:=Bp a b w ha hb hal
  rwa [hva,hvb,h] at this
theorem Dm {a b : aM} {va vb : Value} {c : Bool} (hva : a.v=va) (hvb : b.v=vb) {w : World} (ha : a.ok w) (hb : b.ok w) (hal : a.l.length<4611686018427387904) (h : decide (a.l=b.l)=c) : Calls Tryz.prog 11 [va,vb].toArray w fun e w'=>e=.returned (.bool c)∧Ext w w':=by
  have:=wu a b w ha hb hal
  rwa [hva,hvb,h] at this
def mp (nonce side : List B) (i : Nat) : List B:=nonce++(yq (BitVec.ofNat 64 side.length)).take i
theorem Bq {nonce : List B} (hn : nonce.length=12) (side : List B) (i : Nat) (h : i≤8) : (mp nonce side i).length=12+i:=by simp [mp,hn,ei];omega
theorem Fo (nonce side : List B) (i : Nat) (h : i<8) : (mp nonce side i).map U8++[U8 (((BitVec.ofNat 64 side.length) >>> (8 * (7 - i))).setWidth 8)]=(mp nonce side (i+1)).map U8:=by
  rw [mp,mp,wD _ i h];simp
theorem Dn (nonce side c : List B) : mp nonce side 8++side++c=msg nonce side c:=by
  rw [mp,List.take_of_length_le (by rw [ei];omega),msg]
set_option maxHeartbeats 16000000 in
theorem qd (nonce : List B) (s c : aM) (hn : nonce.length=12) (w : World) (hs : s.ok w) (hc : c.ok w) (hsl : s.l.length<35184372088832) (hcl : c.l.length<35184372088832) :
    Calls Tryz.prog 60 [.agg (nonce.map U8).toArray,s.v,c.v].toArray w fun e w'=>∃ x : Nat × Nat,e=.returned (.slice (some ⟨x.1,0,none⟩) (msg nonce s.l c.l).length x.2)∧ah w [] [⟨x.1,Sl.aE 5 1 (msg nonce s.l c.l).length x.2 ((msg nonce s.l c.l).map U8),true⟩] w':=by
  have hml:=iF nonce s.l c.l
  rw [hn] at hml
  refine enter (n:=29) Tryz.func60 rfl rfl rfl (ah.start w []) ?_
  repeat (first | refine JC.seq ?_ | refine JC.region ?_)
  refine JL.box (r:=nonce.map U8) rfl rfl rfl fun b3 _=>?_
  repeat (first | refine JL.q (by first|(apply OQ.move;rfl)|(apply OQ.assign;rfl)|(apply OQ.len;rfl;rfl)|(apply OQ.aY;rfl;rfl;exact (by (try simp only []);omega))) rfl ?_ | refine JC.seq ?_ | refine JC.region ?_ | refine JL.nil ?_ | refine JE.next ?_)
  refine JL.CT (c:=20+s.l.length+c.l.length) Tryz.underlying27 e5 rfl rfl (by omega) rfl fun b7 _=>?_
  repeat (first | refine JL.q (by first|(apply OQ.jT;exact Tryz.underlying72;exact s5;rfl)|(apply OQ.move;rfl)|(apply OQ.assign;rfl)) rfl ?_ | refine JC.seq ?_ | refine JC.region ?_ | refine JL.nil ?_ | refine JE.next ?_)
  refine JL.append (cs:=nonce.map U8) (fun b' cap'=>[⟨b',Sl.aE 5 1 (0+12) cap' ([]++nonce.map U8),true⟩,⟨b3,Row 72 (nonce.map U8),true⟩]) Tryz.underlying27 e5 rfl rfl (by intro _ _;repeat (first | exact aZ.here | apply aZ.there)) (by simpa using hn) (fun w' hw'=>(fL (cap:=12) hw' (.there .here) rfl (Nat.le_of_eq hn)).reads) (eu _) rfl (by decide) (by decide) (by decide) rfl fun b7 cap7=>?_
  rw [List.nil_append,Nat.zero_add]
  repeat (first | refine JL.q (by first|(apply OQ.len (k:=s.l.length) (ad:=s.ad) (cap:=s.cap);exact Tryz.underlying27;rfl)|(apply OQ.gM;exact Tryz.underlying3;exact Tryz.underlying84;rfl)|(apply OQ.move;rfl)|(apply OQ.assign;rfl)) rfl ?_ | refine JC.seq ?_ | refine JC.region ?_ | refine JL.nil ?_ | refine JE.next ?_)
  refine JL.wL (M':=bR 5 (some (b7,cap7)) (nonce.map U8)++[]) (.keep _ _ _ _ _ _ (fun o ho=>by rw [List.length_map,hn];exact ho) (.nil _)) ?_
  refine JL.Dl (q:=some (b7,cap7)) (xs:=nonce) (m:=BitVec.ofNat 64 s.l.length) (size:=8) (by decide) (by decide) nofun (by omega) (by rw [hn];rfl) rfl rfl rfl fun r=>?_
  obtain ⟨b8',cap8⟩:=r
  have hm8 : nonce++ia.jQ (BitVec.ofNat 64 s.l.length) 8=mp nonce s.l 8:=by
    unfold mp
    rw [List.take_of_length_le (by rw [ei];omega)]
    rfl
  rw [hm8]
  have hml8 : (mp nonce s.l 8).length=20:=Bq hn s.l 8 (Nat.le_refl _)
  refine JL.wL (M':=[⟨b8',Sl.aE 5 1 20 cap8 ((mp nonce s.l 8).map U8),true⟩]) (.keep _ _ _ _ _ _ (fun o ho=>by rw [List.length_map,hml8] at ho;exact ho) (.nil _)) ?_
  rw [hml8]
  show JL _ _ _ _ _ _ _ ((_,.slice (some ⟨b8',0,none⟩) 20 cap8)::_) _
  repeat (first | refine JL.q (by first|(apply OQ.move;rfl)|(apply OQ.assign;rfl)) rfl ?_ | refine JC.seq ?_ | refine JC.region ?_ | refine JL.nil ?_ | refine JE.next ?_)
  refine JL.append (cs:=s.l.map U8) (fun b' cap'=>[⟨b',Sl.aE 5 1 (20+s.l.length) cap' ((mp nonce s.l 8).map U8++s.l.map U8),true⟩]) Tryz.underlying27 e5 rfl rfl (by intro _ _;repeat (first | exact aZ.here | apply aZ.there)) (by simp) (fun w' hw'=>(hs.holds hw' rfl).reads) (eu _) rfl (by decide) (by omega) (by omega) rfl fun b7 cap7=>?_
  repeat (first | refine JL.q (by first|(apply OQ.move;rfl)|(apply OQ.assign;rfl)) rfl ?_ | refine JC.seq ?_ | refine JC.region ?_ | refine JL.nil ?_ | refine JE.next ?_)
  refine JL.append (cs:=c.l.map U8) (fun b' cap'=>[⟨b',Sl.aE 5 1 (20+s.l.length+c.l.length) cap' ((mp nonce s.l 8).map U8++s.l.map U8++c.l.map U8),true⟩]) Tryz.underlying27 e5 rfl rfl (by intro _ _;repeat (first | exact aZ.here | apply aZ.there)) (by simp) (fun w' hw'=>(hc.holds hw' rfl).reads) (eu _) rfl (by decide) (by omega) (by omega) rfl fun b7 cap7=>?_
  rw [← List.map_append,← List.map_append,Dn,show 20+s.l.length+c.l.length=(msg nonce s.l c.l).length by omega]
  repeat (first | refine JL.q (by (apply OQ.assign;rfl)) rfl ?_ | refine JL.nil ?_ | refine JE.next ?_)
  refine JC.ret ?_
  skip
  exact JE.aQ rfl (RV.tmp rfl) fun w' hw=>⟨(b7,cap7),rfl,hw⟩
set_option maxHeartbeats 16000000 in
theorem uU (nonce : List B) (s c : aM) (hn : nonce.length=12) (w : World) (hs : s.ok w) (hc : c.ok w) (hsl : s.l.length<35184372088832) (hcl : c.l.length<35184372088832) :
    Calls Tryz.prog 46 [.agg (nonce.map U8).toArray,s.v,c.v].toArray w fun e w'=>∃ x : Nat × Nat,e=.returned (.slice (some ⟨x.1,0,none⟩) (msg nonce s.l c.l).length x.2)∧ah w [] [⟨x.1,Sl.aE 5 1 (msg nonce s.l c.l).length x.2 ((msg nonce s.l c.l).map U8),true⟩] w':=by
  have hml:=iF nonce s.l c.l
  rw [hn] at hml
  refine enter (n:=32) Tryz.func46 rfl rfl rfl (ah.start w []) ?_
  repeat (first | refine JC.seq ?_ | refine JC.region ?_)
  refine JL.box (r:=nonce.map U8) rfl rfl rfl fun b3 _=>?_
  repeat (first | refine JL.q (by (apply OQ.assign;rfl)) rfl ?_ | refine JC.seq ?_ | refine JC.region ?_ | refine JL.nil ?_ | refine JE.next ?_)
  refine JL.uF Tryz.underlying27 e5 rfl fun b9 _=>?_
  repeat (refine JL.q (by (apply OQ.jT;exact Tryz.underlying72;exact s5;rfl)) rfl ?_)
  refine JL.append (cs:=nonce.map U8) (fun b' cap'=>[⟨b',Sl.aE 5 1 (0+12) cap' ([]++nonce.map U8),true⟩,⟨b3,Row 72 (nonce.map U8),true⟩]) Tryz.underlying27 e5 rfl rfl (by intro _ _;repeat (first | exact aZ.here | apply aZ.there)) (by simpa using hn) (fun w' hw'=>(fL (cap:=12) hw' (.there .here) rfl (Nat.le_of_eq hn)).reads) (eu _) rfl (by decide) (by decide) (by decide) rfl fun b7 cap7=>?_
  rw [List.nil_append,Nat.zero_add]
  repeat (first | refine JL.q (by (apply OQ.assign;rfl)) rfl ?_ | refine JC.seq ?_ | refine JC.region ?_ | refine JC.block ?_ | refine JL.nil ?_ | refine JE.next ?_)
  refine JC.loop (ι:=Nat × Nat × Nat) (fun i=>[(1,s.v),(2,c.v),(7,.slice (some ⟨i.2.1,0,none⟩) (12+i.1) i.2.2),(8,.int .i64 (7 - (i.1 : Int)))])
    (fun i=>[⟨i.2.1,Sl.aE 5 1 (12+i.1) i.2.2 ((mp nonce s.l i.1).map U8),true⟩]) (fun i=>8 - i.1) (fun i=>i.1≤8) (0,b7,cap7) (by dsimp only;omega) (by repeat (first | exact ai.nil | refine ai.cons _ _ _ rfl ?_)) (.keep _ _ _ _ _ _ (fun o ho=>by simpa [mp] using ho) (aq.nil _)) ?_
  rintro ⟨i,b7,cap7⟩ hi
  dsimp only at hi ⊢
  repeat (first | refine JL.q (by first|(apply OQ.CK;rfl;rfl)|(apply OQ.move;rfl)) rfl ?_ | refine JC.seq ?_ | refine JC.region ?_ | refine JL.nil ?_ | refine JE.next ?_)
  refine JC.cond rfl (fun h=>?_) (fun h=>?_)
  · have hi' : i<8:=by
      have : (0 : Int)≤7 - (i : Int):=of_decide_eq_true h
      omega
    clear h hi
    rw [show (7 - (i : Int))=((7 - i : Nat) : Int) by omega]
    repeat (first | refine JL.q (by first|(apply OQ.move;rfl)|(apply OQ.len;rfl;rfl)|(apply OQ.jx;rfl;rfl)|(apply OQ.iB;rfl;rfl;exact (by (try simp only []);omega))|(apply OQ.ld;rfl;rfl;rfl)|(apply OQ.gM;rfl;rfl;rfl)) rfl ?_ | refine JC.seq ?_ | refine JC.region ?_ | refine JC.block ?_ | refine JC.skip ?_ | refine JE.next ?_)
    refine JL.fC Tryz.underlying27 e5 rfl rfl rfl rfl fun b33 _=>?_
    refine JL.append (cs:=[U8 (((BitVec.ofNat 64 s.l.length) >>> (8 * (7 - i))).setWidth 8)]) (fun b' cap'=>[⟨b33,Row 5 [U8 (((BitVec.ofNat 64 s.l.length) >>> (8 * (7 - i))).setWidth 8)],true⟩,⟨b',Sl.aE 5 1 (12+i+1) cap' ((mp nonce s.l i).map U8++[U8 (((BitVec.ofNat 64 s.l.length) >>> (8 * (7 - i))).setWidth 8)]),true⟩]) Tryz.underlying27 e5 rfl rfl (by intro _ _;repeat (first | exact aZ.here | apply aZ.there)) rfl (fun w' hw'=>?_) (by simp [Value.oneCell']) rfl (by decide) (by omega) (by omega) rfl fun b7' cap7'=>?_
    · obtain ⟨o,ho,hA⟩:=hw'.get .here
      exact Reads.block ho (Row.all _ hA)
    rw [Fo _ _ _ hi',Nat.add_assoc 12 i 1]
    repeat (first | refine JL.q (by first|(apply OQ.od;rfl;rfl;exact (by omega);exact (by omega))|(apply OQ.move;rfl)|(apply OQ.assign;rfl)) rfl ?_ | refine JC.region ?_ | refine JL.nil ?_ | refine JE.next ?_ | refine JE.an ?_)
    rw [show ((7 - i : Nat) : Int) - 1=7 - ((i+1 : Nat) : Int) by omega]
    exact JE.again (ι:=Nat × Nat × Nat) (i:=(i,b7,cap7)) (i+1,b7',cap7') (by dsimp only;omega) (by dsimp only;omega) (by repeat (first | exact ai.nil | refine ai.cons _ _ _ rfl ?_)) (.drop _ _ _ (aq.refl _))
  · have hi' : ¬ i<8:=by
      have : ¬ (0 : Int)≤7 - (i : Int):=of_decide_eq_false h
      omega
    obtain rfl : i=8:=by omega
    clear h hi hi'
    repeat (first | refine JL.q (by (apply OQ.move;rfl)) rfl ?_ | refine JC.seq ?_ | refine JC.region ?_ | refine JC.exit ?_ | refine JE.next ?_ | refine JE.ax ?_ | refine JE.aA ?_)
    refine JL.append (cs:=s.l.map U8) (fun b' cap'=>[⟨b',Sl.aE 5 1 (12+8+s.l.length) cap' ((mp nonce s.l 8).map U8++s.l.map U8),true⟩]) Tryz.underlying27 e5 rfl rfl (by intro _ _;repeat (first | exact aZ.here | apply aZ.there)) (by simp) (fun w' hw'=>(hs.holds hw' rfl).reads) (eu _) rfl (by decide) (by omega) (by omega) rfl fun b7 cap7=>?_
    repeat (first | refine JL.q (by first|(apply OQ.move;rfl)|(apply OQ.assign;rfl)) rfl ?_ | refine JC.seq ?_ | refine JC.region ?_ | refine JL.nil ?_ | refine JE.next ?_)
    refine JL.append (cs:=c.l.map U8) (fun b' cap'=>[⟨b',Sl.aE 5 1 (12+8+s.l.length+c.l.length) cap' ((mp nonce s.l 8).map U8++s.l.map U8++c.l.map U8),true⟩]) Tryz.underlying27 e5 rfl rfl (by intro _ _;repeat (first | exact aZ.here | apply aZ.there)) (by simp) (fun w' hw'=>(hc.holds hw' rfl).reads) (eu _) rfl (by decide) (by omega) (by omega) rfl fun b7 cap7=>?_
    rw [← List.map_append,← List.map_append,Dn,show 12+8+s.l.length+c.l.length=(msg nonce s.l c.l).length by omega]
    repeat (first | refine JL.q (by (apply OQ.assign;rfl)) rfl ?_ | refine JL.nil ?_ | refine JE.next ?_)
    refine JC.ret ?_
    skip
    exact JE.aQ rfl (RV.tmp rfl) fun w' hw=>⟨(b7,cap7),rfl,hw⟩
end
section
set_option maxRecDepth 10000
open Sl g5 lz
theorem rF : Tryz.prog.follows .mixedOrders=true:=by kernel_rfl
theorem qe : dJ Tryz.prog 95=some 1:=by kernel_rfl
theorem z5 : ie Tryz.prog 95=true:=by kernel_rfl
theorem Jq : dJ Tryz.prog 142=some 4:=by kernel_rfl
theorem MK : gm Tryz.prog 142=true:=by kernel_rfl
theorem K3 : zc Tryz.prog 142=some ((List.replicate 4 (0 : W)).map aF):=by kernel_rfl
theorem tP : aK Tryz.prog 116:=⟨_,Tryz.func116,rfl,by kernel_rfl⟩
theorem uV : aK Tryz.prog 108:=⟨_,Tryz.func108,rfl,by kernel_rfl⟩
theorem jn (l : List W) : (l.map aF).all Value.oneCell'=true:=by simp [Value.oneCell']
theorem Fp : ∀ k : Nat,k<32→(BitVec.ofNat 64 k &&& 31#64).toNat=k:=by decide
theorem wP (x : W) (k : Nat) (hk : k<32) (w : World) : Calls Tryz.prog 116 [aF x,N k].toArray w fun e w'=>e=.returned (aF (rotl x k))∧Ext w w':=by
  have hna:=Fp k hk
  refine enter (n:=17) Tryz.func116 rfl rfl rfl (ah.start w []) ?_
  refine JC.seq (JC.region ?_)
  repeat (refine JL.q (by (apply OQ.assign;rfl)) rfl ?_)
  refine JL.nil (JE.next (JC.seq (JC.region ?_)))
  refine JL.q (OQ.move rfl) rfl ?_
  refine JL.q (OQ.gM rfl rfl rfl) rfl ?_
  refine JL.q (OQ.mY (b:=31#64) rfl rfl) rfl ?_
  generalize (BitVec.ofNat 64 k &&& 31#64)=s at hna
  repeat (refine JL.q (by (apply OQ.assign;rfl)) rfl ?_)
  refine JL.nil (JE.next (JC.seq (JC.region ?_)))
  repeat (refine JL.q (by first|(apply OQ.move;rfl)|(apply OQ.tv;rfl;rfl)) rfl ?_)
  refine JL.q (OQ.GG (a:=32#64) rfl rfl (by rw [hna];simp only [BitVec.toNat_ofNat];omega)) rfl ?_
  repeat (refine JL.q (by first|(apply OQ.assign;rfl)|(apply OQ.A0;rfl;rfl)|(apply OQ.kK;rfl;rfl)) rfl ?_)
  refine JL.nil (JE.next (JC.ret (JE.aQ rfl (RV.tmp rfl) ?_)))
  refine fun w' hw=>⟨?_,hw.aL⟩
  have h2 : (32#64 - s).toNat=32 - k:=by rw [BitVec.toNat_sub_of_le (by simp only [BitVec.le_def,hna,BitVec.toNat_ofNat];omega),hna];rfl
  rw [h2,hna,rotl]
set_option maxHeartbeats 8000000 in
theorem wQ (a b c d : W) (w : World) : Calls Tryz.prog 108 [.agg ([a,b,c,d].map aF).toArray].toArray w fun e w'=>e=.returned (.agg ((qr a b c d).map aF).toArray)∧Ext w w':=by
  refine enter (n:=48) Tryz.func108 rfl rfl rfl (ah.start w []) ?_
  repeat (first | refine JC.seq ?_ | refine JC.region ?_)
  refine JL.box (r:=[a,b,c,d].map aF) rfl rfl rfl fun b1 _=>?_
  refine JL.alloc K3 rfl fun b2 _=>?_
  repeat (first | refine JC.seq ?_ | refine JL.nil ?_ | refine JE.next ?_)
  refine JC.quiet rF (by kernel_rfl) ?_
  repeat (first | refine JL.q (by first|(apply OQ.aD;exact Tryz.underlying142;exact qe;rfl;rfl;exact (by (try simp only []);omega))|(apply OQ.load;exact z5;rfl;exact (.there .here);exact (Row.cell rfl))|(apply OQ.au;exact tP;rfl;exact (fun w' _=>wP _ _ (by decide) w'))|(apply OQ.move;rfl)|(apply OQ.assign;rfl)|(apply OQ.fA;rfl;rfl)|(apply OQ.jw;rfl;rfl)) rfl ?_ | refine JQ.q (by first|(apply OQ.aD;exact Tryz.underlying142;exact qe;rfl;rfl;exact (by (try simp only []);omega))|(apply OQ.load;exact z5;rfl;exact (.there .here);exact (Row.cell rfl))|(apply OQ.au;exact tP;rfl;exact (fun w' _=>wP _ _ (by decide) w'))|(apply OQ.move;rfl)|(apply OQ.assign;rfl)|(apply OQ.fA;rfl;rfl)|(apply OQ.jw;rfl;rfl)) rfl ?_ | refine JC.seq ?_ | refine JC.region ?_ | refine JL.nil ?_ | refine JQ.nil ?_ | refine JE.next ?_)
  refine JL.q (OQ.pure (v:=.agg ((qr a b c d).map aF).toArray) rfl rfl (by kernel_rfl)) rfl ?_
  refine JL.ag Jq rfl rfl rfl (jn _) .here rfl ?_
  repeat (first | refine JL.nil ?_ | refine JE.next ?_)
  refine JC.ret (JE.aQ rfl (RV.av MK Jq rfl .here rfl Row.all) ?_)
  exact fun w' hw=>⟨rfl,hw.aL⟩
end
section
set_option maxRecDepth 10000
open Sl g5 lz
theorem tQ : aK Tryz.prog 109:=⟨_,Tryz.func109,rfl,by kernel_rfl⟩
theorem sS : aK Tryz.prog 93:=⟨_,Tryz.func93,rfl,by kernel_rfl⟩
theorem rG : aK Tryz.prog 107:=⟨_,Tryz.func107,rfl,by kernel_rfl⟩
theorem rH : aK Tryz.prog 91:=⟨_,Tryz.func91,rfl,by kernel_rfl⟩
theorem rI : aK Tryz.prog 87:=⟨_,Tryz.func87,rfl,by kernel_rfl⟩
theorem ML : dJ Tryz.prog 159=some 4:=by kernel_rfl
theorem MM : gm Tryz.prog 159=true:=by kernel_rfl
theorem yM : dJ Tryz.prog 131=some 16:=by kernel_rfl
theorem Fq : gm Tryz.prog 131=true:=by kernel_rfl
theorem Fs : zc Tryz.prog 131=some ((List.replicate 16 (0 : W)).map aF):=by kernel_rfl
theorem GW : dJ Tryz.prog 72=some 12:=by kernel_rfl
theorem GX : gm Tryz.prog 72=true:=by kernel_rfl
set_option maxHeartbeats 8000000 in
theorem wR (x : W) (k : Nat) (hk : k<32) (w : World) : Calls Tryz.prog 109 [aF x,N k].toArray w fun e w'=>e=.returned (aF (rotl x k))∧Ext w w':=by
  refine enter (n:=13) Tryz.func109 rfl rfl rfl (ah.start w []) ?_
  repeat (first | refine JL.q (by (apply OQ.assign;rfl)) rfl ?_ | refine JC.seq ?_ | refine JC.region ?_ | refine JL.nil ?_ | refine JE.next ?_)
  refine JC.quiet rF (by kernel_rfl) ?_
  repeat (first | refine JQ.q (by first|(apply OQ.move;rfl)|(apply OQ.assign;rfl)|(apply OQ.A0;rfl;rfl)|(apply OQ.kK;rfl;rfl)|(apply OQ.tv;rfl;rfl)|(apply OQ.jk;rfl;rfl;exact (by (try simp only []);omega);exact (by (try simp only []);omega))) rfl ?_ | refine JQ.nil ?_ | refine JE.next ?_)
  refine JC.ret (JE.aQ rfl (RV.tmp rfl) ?_)
  exact fun w' hw=>⟨rfl,hw.aL⟩
set_option maxHeartbeats 8000000 in
theorem uW (a b c d : W) (w : World) : Calls Tryz.prog 93 [.agg ([a,b,c,d].map aF).toArray].toArray w fun e w'=>e=.returned (.agg ((qr a b c d).map aF).toArray)∧Ext w w':=by
  refine enter (n:=48) Tryz.func93 rfl rfl rfl (ah.start w []) ?_
  repeat (first | refine JC.seq ?_ | refine JC.region ?_)
  refine JL.box (r:=[a,b,c,d].map aF) rfl rfl rfl fun b1 _=>?_
  refine JL.alloc K3 rfl fun b2 _=>?_
  repeat (first | refine JC.seq ?_ | refine JL.nil ?_ | refine JE.next ?_)
  refine JC.quiet rF (by kernel_rfl) ?_
  repeat (first | refine JL.q (by first|(apply OQ.aD;exact Tryz.underlying142;exact qe;rfl;rfl;exact (by (try simp only []);omega))|(apply OQ.load;exact z5;rfl;exact (.there .here);exact (Row.cell rfl))|(apply OQ.au;exact tQ;rfl;exact (fun w' _=>wR _ _ (by decide) w'))|(apply OQ.move;rfl)|(apply OQ.assign;rfl)|(apply OQ.fA;rfl;rfl)|(apply OQ.jw;rfl;rfl)) rfl ?_ | refine JQ.q (by first|(apply OQ.aD;exact Tryz.underlying142;exact qe;rfl;rfl;exact (by (try simp only []);omega))|(apply OQ.load;exact z5;rfl;exact (.there .here);exact (Row.cell rfl))|(apply OQ.au;exact tQ;rfl;exact (fun w' _=>wR _ _ (by decide) w'))|(apply OQ.move;rfl)|(apply OQ.assign;rfl)|(apply OQ.fA;rfl;rfl)|(apply OQ.jw;rfl;rfl)) rfl ?_ | refine JC.seq ?_ | refine JC.region ?_ | refine JL.nil ?_ | refine JQ.nil ?_ | refine JE.next ?_)
  refine JL.q (OQ.pure (v:=.agg ((qr a b c d).map aF).toArray) rfl rfl (by kernel_rfl)) rfl ?_
  refine JL.ag Jq rfl rfl rfl (jn _) .here rfl ?_
  repeat (first | refine JL.nil ?_ | refine JE.next ?_)
  refine JC.ret (JE.aQ rfl (RV.av MK Jq rfl .here rfl Row.all) ?_)
  exact fun w' hw=>⟨rfl,hw.aL⟩
def w4 (l : List B) (i : Nat) : List B:=[l.getD (4 * i) 0,l.getD (4 * i+1) 0,l.getD (4 * i+2) 0,l.getD (4 * i+3) 0]
theorem J1 (l : List B) (i : Nat) (h : 4 * i+4≤l.length) : (l.drop (4 * i)).take 4=w4 l i:=by
  apply List.ext_getElem
  · simp [w4];omega
  · intro j h1 h2
    have h2 : j<4:=h2
    rcases j with _ | _ | _ | _ | j <;> first | omega | simp [w4,List.getD,show 4 * i<l.length by omega,show 4 * i+1<l.length by omega,show 4 * i+2<l.length by omega,show 4 * i+3<l.length by omega]
theorem oz (l : List B) (i : Nat) (h : 4 * i+4≤l.length) : ((l.map U8).drop (0+4 * i)).take ((w4 l i).map U8).length=(w4 l i).map U8:=by
  rw [Nat.zero_add,show ((w4 l i).map U8).length=4 from rfl,← List.map_drop,← List.map_take,J1 l i h]
set_option maxHeartbeats 8000000 in
theorem tU (l : List B) (i : Nat) (w : World) : Calls Tryz.prog 107 [.agg ((w4 l i).map U8).toArray].toArray w fun e w'=>e=.returned (aF (wd l i))∧Ext w w':=by
  refine enter (n:=21) Tryz.func107 rfl rfl rfl (ah.start w []) ?_
  repeat (first | refine JC.seq ?_ | refine JC.region ?_)
  refine JL.box (r:=(w4 l i).map U8) rfl rfl rfl fun b1 _=>?_
  repeat (first | refine JL.q (by first|(apply OQ.aD;exact Tryz.underlying159;exact s5;rfl;rfl;exact (by (try simp only []);omega))|(apply OQ.load;exact c5;rfl;exact .here;exact (Row.cell rfl))|(apply OQ.assign;rfl)|(apply OQ.A0;rfl;rfl)|(apply OQ.tv;rfl;rfl)|(apply OQ.n9;rfl;rfl;rfl)) rfl ?_ | refine JC.seq ?_ | refine JC.region ?_ | refine JL.nil ?_ | refine JE.next ?_)
  refine JC.ret (JE.aQ rfl (RV.tmp rfl) ?_)
  exact fun w' hw=>⟨rfl,hw.aL⟩
set_option maxHeartbeats 8000000 in
theorem tV (l : List B) (i b j cap : Nat) (w : World) (h : ∀ k,k<4→w.cell? ⟨b,j+k,none⟩=some (U8 (l.getD (4 * i+k) 0))) : Calls Tryz.prog 91 [.slice (some ⟨b,j,none⟩) 4 cap].toArray w fun e w'=>e=.returned (aF (wd l i))∧Ext w w':=by
  refine enter (n:=25) Tryz.func91 rfl rfl rfl (ah.start w []) ?_
  have h0:=h 0 (by decide)
  have h1:=h 1 (by decide)
  have h2:=h 2 (by decide)
  have h3:=h 3 (by decide)
  have hb:=block_lt_of_cell h0
  repeat (first | refine JL.q (by (apply OQ.assign;rfl)) rfl ?_ | refine JC.seq ?_ | refine JC.region ?_ | refine JL.nil ?_ | refine JE.next ?_)
  refine JC.quiet rF (by kernel_rfl) ?_
  repeat (first | refine JQ.q (by first|(apply OQ.gN;exact Tryz.underlying27;exact s5;rfl;rfl;exact (by decide))|(apply OQ.bQ;exact c5;rfl;exact hb;exact (by simp);exact h0)|(apply OQ.bQ;exact c5;rfl;exact hb;exact (by simp);exact h1)|(apply OQ.bQ;exact c5;rfl;exact hb;exact (by simp);exact h2)|(apply OQ.bQ;exact c5;rfl;exact hb;exact (by simp);exact h3)|(apply OQ.zK (b:=256#32);rfl;rfl)|(apply OQ.zK (b:=65536#32);rfl;rfl)|(apply OQ.zK (b:=16777216#32);rfl;rfl)|(apply OQ.move;rfl)|(apply OQ.assign;rfl)|(apply OQ.fA;rfl;rfl)|(apply OQ.n9;rfl;rfl;rfl)) rfl ?_ | refine JQ.nil ?_ | refine JE.next ?_)
  refine JC.ret (JE.aQ rfl (RV.tmp rfl) ?_)
  exact fun w' hw=>⟨by rw [wd,HN];rfl,hw.aL⟩
def EW (key : List B) (i : Nat) : List W:=(c4++nW key i)++List.replicate (12 - i) 0
def Br (key : List B) (ctr : W) (nonce : List B) (i : Nat) : List W:=(c4++nW key 8++[ctr]++nW nonce i)++List.replicate (3 - i) 0
theorem uX {l : List W} {k i : Nat} (hl : l.length=i) (h0 : 0<k) (x : W) : (l++List.replicate k 0).set i x=(l++[x])++List.replicate (k - 1) 0:=by
  subst hl
  obtain ⟨k,rfl⟩ : ∃ j,k=j+1:=⟨k - 1,by omega⟩
  rw [List.set_append_right _ _ (Nat.le_refl _),Nat.sub_self,List.replicate_succ,List.set_cons_zero]
  simp
theorem rJ (key : List B) (i : Nat) (h : i≤8) : (EW key i).length=16:=by simp [EW,c4,fc];omega
theorem rK (key : List B) (ctr : W) (nonce : List B) (i : Nat) (h : i≤3) : (Br key ctr nonce i).length=16:=by simp [Br,c4,fc];omega
theorem Ft (key : List B) (i : Nat) (h : i<8) : ((EW key i).map aF).set (4+i) (aF (wd key i))=(EW key (i+1)).map aF:=by
  rw [← List.map_set,EW,uX (by simp [c4,fc];omega) (by omega),EW,show nW key (i+1)=nW key i++[wd key i] from rfl,show 12 - i - 1=12 - (i+1) by omega]
  simp
theorem Fu (key : List B) (ctr : W) (nonce : List B) : ((EW key 8).map aF).set 12 (aF ctr)=(Br key ctr nonce 0).map aF:=by
  rw [← List.map_set,EW,uX (by simp [c4,fc]) (by decide),Br,nW]
  simp
theorem Fv (key : List B) (ctr : W) (nonce : List B) (i : Nat) (h : i<3) : ((Br key ctr nonce i).map aF).set (13+i) (aF (wd nonce i))=(Br key ctr nonce (i+1)).map aF:=by
  rw [← List.map_set,Br,uX (by simp [c4,fc];omega) (by omega),Br,show nW nonce (i+1)=nW nonce i++[wd nonce i] from rfl,show 3 - i - 1=3 - (i+1) by omega]
  simp
theorem Fw (key : List B) (ctr : W) (nonce : List B) : Br key ctr nonce 3=dm key ctr nonce:=by simp [Br,dm]
set_option maxHeartbeats 8000000 in
theorem sU (key : List B) (ctr : W) (nonce : List B) (hk : key.length=32) (hn : nonce.length=12) (w : World) :
    Calls Tryz.prog 87 [.agg (key.map U8).toArray,aF ctr,.agg (nonce.map U8).toArray].toArray w fun e w'=>e=.returned (.agg ((dm key ctr nonce).map aF).toArray)∧Ext w w':=by
  refine enter (n:=40) Tryz.func87 rfl rfl rfl (ah.start w []) ?_
  repeat (first | refine JC.seq ?_ | refine JC.region ?_)
  refine JL.box (r:=key.map U8) rfl rfl rfl fun b3 _=>?_
  refine JL.box (r:=nonce.map U8) rfl rfl rfl fun b5 _=>?_
  refine JL.alloc Fs rfl fun b6 _=>?_
  repeat (first | refine JC.seq ?_ | refine JC.region ?_ | refine JL.nil ?_ | refine JE.next ?_)
  refine JL.q (OQ.pure (v:=.agg ((EW key 0).map aF).toArray) rfl rfl (by kernel_rfl)) rfl ?_
  refine JL.alloc Fs rfl fun b7 _=>?_
  refine JL.ag yM rfl rfl rfl (jn _) .here (by simp) ?_
  repeat (first | refine JL.q (by (apply OQ.move;rfl)) rfl ?_ | refine JC.seq ?_ | refine JC.region ?_ | refine JC.block ?_ | refine JL.nil ?_ | refine JE.next ?_)
  refine JC.loop (fun i : Nat=>[(1,aF ctr),(3,Pt b3 0),(5,Pt b5 0),(6,Pt b6 0),(7,Pt b7 0),(11,N i)])
    (fun i=>[⟨b7,Row 131 ((EW key i).map aF),true⟩,⟨b6,Row 131 ((List.replicate 16 (0 : W)).map aF),true⟩,⟨b5,Row 72 (nonce.map U8),true⟩,⟨b3,Row 23 (key.map U8),true⟩])
    (fun i=>8 - i) (fun i=>i≤8) 0 (by omega) (by repeat (first | exact ai.nil | refine ai.cons _ _ _ rfl ?_)) (aq.refl _) ?_
  intro i hi
  repeat (first | refine JL.q (by (apply OQ.bJ;rfl;rfl)) rfl ?_ | refine JC.seq ?_ | refine JC.region ?_ | refine JL.nil ?_ | refine JE.next ?_)
  refine JC.cond rfl (fun h=>?_) (fun h=>?_)
  · have hi' : i<8:=of_decide_eq_true h
    clear h hi
    repeat (first | refine JL.q (by first|(apply OQ.ya;exact Tryz.underlying23;exact s5;rfl;rfl;exact (show 4 * i<32 by omega))|(apply OQ.arr (k:=4);exact Tryz.underlying159;rfl;exact (show 4≤32 - 4 * i by omega))|(apply OQ.af (cs:=(w4 key i).map U8);exact MM;exact ML;rfl;exact (.there (.there (.there .here)));rfl;exact (Row.cells (oz key i (by omega))))|(apply OQ.au;exact rG;rfl;exact (fun w' _=>tU key i w'))|(apply OQ.aD;exact Tryz.underlying131;exact qe;rfl;rfl;exact (by (try simp only []);omega))|(apply OQ.move;rfl)|(apply OQ.assign;rfl)|(apply OQ.aY;rfl;rfl;exact (by (try simp only []);omega))|(apply OQ.iB;rfl;rfl;exact (by (try simp only []);omega))) rfl ?_ | refine JC.seq ?_ | refine JC.region ?_ | refine JC.block ?_ | refine JC.skip ?_ | refine JL.nil ?_ | refine JE.next ?_)
    refine JL.az qe rfl rfl rfl rfl .here (by rw [List.length_map,rJ _ _ (by omega)];(try simp only []);omega) (Ft key i hi') ?_
    repeat (first | refine JL.q (by first|(apply OQ.move;rfl)|(apply OQ.aY;rfl;rfl;exact (by (try simp only []);omega))) rfl ?_ | refine JC.region ?_ | refine JL.nil ?_ | refine JE.next ?_ | refine JE.an ?_)
    exact JE.again (i:=i) (i+1) (by omega) (by omega) (by repeat (first | exact ai.nil | refine ai.cons _ _ _ rfl ?_)) (aq.refl _)
  · have hi' : ¬ i<8:=of_decide_eq_false h
    obtain rfl : i=8:=by omega
    clear h hi hi'
    repeat (first | refine JL.q (by first|(apply OQ.aD;exact Tryz.underlying131;exact qe;rfl;rfl;exact (by decide))|(apply OQ.move;rfl)) rfl ?_ | refine JC.seq ?_ | refine JC.region ?_ | refine JC.exit ?_ | refine JE.next ?_ | refine JE.ax ?_ | refine JE.aA ?_)
    refine JL.az qe rfl rfl rfl rfl .here (by rw [List.length_map,rJ _ _ (by omega)];decide) (Fu key ctr nonce) ?_
    repeat (first | refine JL.q (by (apply OQ.move;rfl)) rfl ?_ | refine JC.seq ?_ | refine JC.region ?_ | refine JC.block ?_ | refine JL.nil ?_ | refine JE.next ?_)
    refine JC.loop (fun i : Nat=>[(3,Pt b3 0),(5,Pt b5 0),(6,Pt b6 0),(7,Pt b7 0),(26,N i)])
      (fun i=>[⟨b7,Row 131 ((Br key ctr nonce i).map aF),true⟩,⟨b6,Row 131 ((List.replicate 16 (0 : W)).map aF),true⟩,⟨b5,Row 72 (nonce.map U8),true⟩,⟨b3,Row 23 (key.map U8),true⟩])
      (fun i=>3 - i) (fun i=>i≤3) 0 (by omega) (by repeat (first | exact ai.nil | refine ai.cons _ _ _ rfl ?_)) (aq.refl _) ?_
    intro i hi
    repeat (first | refine JL.q (by (apply OQ.bJ;rfl;rfl)) rfl ?_ | refine JC.seq ?_ | refine JC.region ?_ | refine JL.nil ?_ | refine JE.next ?_)
    refine JC.cond rfl (fun h=>?_) (fun h=>?_)
    · have hi' : i<3:=of_decide_eq_true h
      clear h hi
      repeat (first | refine JL.q (by first|(apply OQ.ya;exact Tryz.underlying72;exact s5;rfl;rfl;exact (show 4 * i<12 by omega))|(apply OQ.arr (k:=4);exact Tryz.underlying159;rfl;exact (show 4≤12 - 4 * i by omega))|(apply OQ.af (cs:=(w4 nonce i).map U8);exact MM;exact ML;rfl;exact (.there (.there .here));rfl;exact (Row.cells (oz nonce i (by omega))))|(apply OQ.au;exact rG;rfl;exact (fun w' _=>tU nonce i w'))|(apply OQ.aD;exact Tryz.underlying131;exact qe;rfl;rfl;exact (by (try simp only []);omega))|(apply OQ.move;rfl)|(apply OQ.assign;rfl)|(apply OQ.aY;rfl;rfl;exact (by (try simp only []);omega))|(apply OQ.iB;rfl;rfl;exact (by (try simp only []);omega))) rfl ?_ | refine JC.seq ?_ | refine JC.region ?_ | refine JC.block ?_ | refine JC.skip ?_ | refine JL.nil ?_ | refine JE.next ?_)
      refine JL.az qe rfl rfl rfl rfl .here (by rw [List.length_map,rK _ _ _ _ (by omega)];(try simp only []);omega) (Fv key ctr nonce i hi') ?_
      repeat (first | refine JL.q (by first|(apply OQ.move;rfl)|(apply OQ.aY;rfl;rfl;exact (by (try simp only []);omega))) rfl ?_ | refine JC.region ?_ | refine JL.nil ?_ | refine JE.next ?_ | refine JE.an ?_)
      exact JE.again (i:=i) (i+1) (by omega) (by omega) (by repeat (first | exact ai.nil | refine ai.cons _ _ _ rfl ?_)) (aq.refl _)
    · have hi' : ¬ i<3:=of_decide_eq_false h
      obtain rfl : i=3:=by omega
      clear h hi hi'
      have hl : ((Br key ctr nonce 3).map aF).length=16:=by rw [List.length_map,rK _ _ _ _ (by omega)]
      repeat (first | refine JL.q (by (apply OQ.af (cs:=(Br key ctr nonce 3).map aF);exact Fq;exact yM;rfl;exact .here;exact hl;exact Row.all)) rfl ?_ | refine JC.seq ?_ | refine JC.region ?_ | refine JC.exit ?_ | refine JE.next ?_ | refine JE.ax ?_ | refine JE.aA ?_)
      refine JL.ag yM rfl rfl hl (jn _) (.there .here) (by simp) ?_
      repeat (first | refine JL.nil ?_ | refine JE.next ?_)
      refine JC.ret (JE.aQ rfl (RV.av Fq yM rfl (.there .here) hl Row.all) ?_)
      exact fun w' hw=>⟨by rw [Fw],hw.aL⟩
end
section
set_option maxRecDepth 10000
open Sl g5 lz
def GQ (w : World) : Prop:=∃ e fr,w.heap[0]?=some (.cells (qp.map N).toArray e fr)
theorem GQ.lt {w : World} (h : GQ w) : 0<w.heap.size:=by
  obtain ⟨e,fr,h⟩:=h
  exact (Array.getElem?_eq_some_iff.1 h).1
theorem GQ.cells {w : World} (h : GQ w) : ∀ i u,(qp.map N)[i]?=some u→w.cell? ⟨0,0+i,none⟩=some u:=by
  obtain ⟨e,fr,h⟩:=h
  intro i u hu
  simpa [World.cell?,h] using hu
theorem GQ.aL {S : List Nat} {w w' : World} (h : GQ w) (hc : oT S w w') (h0 : 0 ∉ S) : GQ w':=by
  have hl:=h.lt
  obtain ⟨e,fr,h⟩:=h
  exact ⟨e,fr,(hc.block _ hl h0).trans h⟩
theorem yN : aK Tryz.prog 88:=⟨_,Tryz.func88,rfl,by kernel_rfl⟩
theorem Fx : dJ Tryz.prog 3=some 1:=by kernel_rfl
theorem Fy : ie Tryz.prog 3=true:=by kernel_rfl
theorem MN : dJ Tryz.prog 160=some 4:=by kernel_rfl
theorem M3 : gm Tryz.prog 160=true:=by kernel_rfl
theorem M4 : zc Tryz.prog 160=some ((List.replicate 4 0).map N):=by kernel_rfl
theorem M5 : dJ Tryz.prog 161=some 32:=by kernel_rfl
theorem M6 : gm Tryz.prog 161=true:=by kernel_rfl
theorem Ia : zc Tryz.prog 128=some ((List.replicate 64 (0 : B)).map U8):=by kernel_rfl
theorem uY (l : List Nat) : (l.map N).all Value.oneCell'=true:=by simp [Value.oneCell']
def o4 (q : Nat) : List Nat:=[oi q 0,oi q 1,oi q 2,oi q 3]
theorem Ib : ∀ q<8,(qp.drop (q * 4)).take 4=o4 q:=by decide
theorem GY (q : Nat) (h : q<8) : ((qp.map N).drop (q * 4)).take 4=(o4 q).map N:=by rw [← List.map_drop,← List.map_take,Ib q h]
theorem Dp (q k : Nat) (hk : k<4) : ((o4 q).map N)[k]?=some (N (oi q k)):=by
  have : k=0∨k=1∨k=2∨k=3:=by omega
  rcases this with rfl | rfl | rfl | rfl <;> rfl
theorem m9 {s : List W} {j : Nat} (h : j<s.length) : (s.map aF)[j]?=some (aF (s.getD j 0)):=dj aF 0 h
def EX (s : List W) (i : Nat) : List B:=bl s i++List.replicate (64 - 4 * i) 0
theorem LG {l : List B} {k m : Nat} (hl : l.length=m) (h : 4≤k) (a b c d : B) : ((((((l++List.replicate k 0).map U8).set m (U8 a)).set (m+1) (U8 b)).set (m+2) (U8 c)).set (m+3) (U8 d))=(l++[a,b,c,d]++List.replicate (k - 4) 0).map U8:=by
  subst hl
  obtain ⟨k,rfl⟩ : ∃ j,k=j+4:=⟨k - 4,by omega⟩
  simp only [← List.map_set,Nat.add_sub_cancel,List.replicate_succ]
  congr 1
  rw [List.set_append_right _ _ (Nat.le_refl _),List.set_append_right _ _ (by omega),List.set_append_right _ _ (by omega),List.set_append_right _ _ (by omega)]
  simp [List.append_assoc,List.set_cons_succ,List.set_cons_zero]
theorem rL (s : List W) (i : Nat) (h : i≤16) : ((EX s i).map U8).length=64:=by simp [EX,mw];omega
theorem Fz (s : List W) (i : Nat) (h : i<16) (x : W) (hx : x=(st s 80).getD i 0+s.getD i 0) : (((((EX s i).map U8).set (4 * i) (U8 (x.setWidth 8))).set (4 * i+1) (U8 ((x >>> 8).setWidth 8))).set (4 * i+2) (U8 ((x >>> 16).setWidth 8))).set (4 * i+3) (U8 ((x >>> 24).setWidth 8))=(EX s (i+1)).map U8:=by
  subst hx
  rw [EX,LG (mw s i) (by omega),EX,bl,show 64 - 4 * i - 4=64 - 4 * (i+1) by omega]
  rfl
def J2 : Nat→List (Nat × Nat)
  | 1=>[(0,19)]
  | 2=>[(1,20)]
  | 3=>[(2,21)]
  | 5=>[(4,23)]
  | 6=>[(5,24)]
  | 7=>[(6,25)]
  | 9=>[(8,27)]
  | 10=>[(9,28)]
  | 11=>[(10,29)]
  | 13=>[(12,31)]
  | 14=>[(13,32)]
  | 15=>[(14,33)]
  | 16=>[(3,22),(7,26),(11,30),(15,34)]
  | 17=>[(16,35)]
  | 19=>[(18,6),(17,36)]
  | _=>[]
def LH : Nat→List Nat
  | 1=>[20]
  | 3=>[21]
  | 5=>[20]
  | 7=>[21]
  | 9=>[20]
  | 11=>[21]
  | 13=>[20]
  | 15=>[21]
  | 19=>[18]
  | _=>[]
def LI : Nat→List Nat
  | 19=>[18]
  | _=>[]
def LJ : Nat→Option Nat
  | 19=>some 18
  | _=>none
def J3 : Nat→List (Nat × Nat)
  | 1=>[(0,37)]
  | 3=>[(2,39)]
  | 5=>[(4,41)]
  | 7=>[(6,43)]
  | 9=>[(8,45)]
  | 11=>[(10,47)]
  | 13=>[(12,49)]
  | 15=>[(14,51)]
  | 16=>[(1,38)]
  | 17=>[(16,53),(9,46)]
  | 18=>[(3,40)]
  | 19=>[(18,54),(11,48)]
  | 20=>[(5,42)]
  | 21=>[(20,55),(13,50)]
  | 22=>[(7,44)]
  | 23=>[(22,56),(15,52)]
  | _=>[]
def LK : Nat→List Nat
  | 1=>[25]
  | 3=>[25]
  | 5=>[25]
  | 7=>[25]
  | 9=>[24]
  | 11=>[24]
  | 13=>[24]
  | 15=>[24]
  | 17=>[26]
  | 19=>[17]
  | 21=>[19]
  | 23=>[21]
  | _=>[]
def LL : Nat→List Nat
  | 17=>[26]
  | 19=>[17]
  | 21=>[19]
  | 23=>[21]
  | _=>[]
set_option maxHeartbeats 16000000 in
set_option maxRecDepth 8000 in
theorem Bu (s : List W) (hs : s.length=16) (w : World) (hQ : GQ w) : Calls Tryz.prog 88 [.agg (s.map aF).toArray].toArray w fun e w'=>e=.returned (.agg ((block s).map U8).toArray)∧Ext w w':=by
  have hsl : (s.map aF).length=16:=by simpa using hs
  refine enter (n:=97) Tryz.func88 rfl rfl rfl (ah.start w []) ?_
  repeat (first | refine JC.seq ?_ | refine JC.region ?_)
  refine JL.box (r:=s.map aF) rfl rfl rfl fun b1 _=>?_
  refine JL.alloc Ia rfl fun b2 _=>?_
  repeat (first | refine JC.seq ?_ | refine JC.region ?_ | refine JL.nil ?_ | refine JE.next ?_)
  refine JL.alloc Fs rfl fun b3 _=>?_
  repeat (first | refine JC.seq ?_ | refine JL.nil ?_ | refine JE.next ?_)
  refine JC.tail 2 rF (by kernel_rfl) ?_
  simp only [List.take_succ_cons,List.take_zero,List.drop_succ_cons,List.drop_zero]
  repeat (first | refine JQ.q (by (apply OQ.jT;exact Tryz.underlying131;exact qe;rfl)) rfl ?_ | refine JQ.bC ?_)
  refine JL.copy (cs:=s.map aF) (r':=(st s 0).map aF) Tryz.underlying138 qe rfl rfl .here hsl (fun w' hw'=>?_) (fun v hv=>List.all_eq_true.1 (jn s) v hv) (by simp) (by rw [List.take_of_length_le (l:=s.map aF) (by omega)];simp [st]) rfl ?_
  · obtain ⟨o,ho,hA⟩:=hw'.get (.there (.there .here))
    exact Reads.block ho (Row.all _ hA)
  repeat (first | refine JL.q (by (apply OQ.move;rfl)) rfl ?_ | refine JC.seq ?_ | refine JC.region ?_ | refine JC.block ?_ | refine JL.nil ?_ | refine JE.next ?_)
  refine JC.loop (fun r : Nat=>[(1,Pt b1 0),(2,Pt b2 0),(3,Pt b3 0),(13,N r)])
    (fun r=>[⟨b3,Row 131 ((st s (8 * r)).map aF),true⟩,⟨b2,Row 128 ((List.replicate 64 (0 : B)).map U8),true⟩,⟨b1,Row 131 (s.map aF),true⟩])
    (fun r=>10 - r) (fun r=>r≤10) 0 (by omega) (by repeat (first | exact ai.nil | refine ai.cons _ _ _ rfl ?_)) (aq.refl _) ?_
  intro r hr
  repeat (first | refine JL.q (by (apply OQ.bJ;rfl;rfl)) rfl ?_ | refine JC.seq ?_ | refine JC.region ?_ | refine JL.nil ?_ | refine JE.next ?_)
  refine JC.cond rfl (fun h=>?_) (fun h=>?_)
  · have hr' : r<10:=of_decide_eq_true h
    clear h hr
    repeat (first | refine JL.q (by first|(apply OQ.cO (cs:=qp.map N);exact M6;rfl;exact M5;exact hQ.lt;exact (by simp);exact hQ.cells)|(apply OQ.move;rfl)) rfl ?_ | refine JC.seq ?_ | refine JC.region ?_ | refine JC.block ?_ | refine JC.skip ?_ | refine JL.nil ?_ | refine JE.next ?_)
    refine JC.loop (fun q : Nat=>[(1,Pt b1 0),(2,Pt b2 0),(3,Pt b3 0),(13,N r),(15,.agg (qp.map N).toArray),(16,N q)])
      (fun q=>[⟨b3,Row 131 ((st s (8 * r+q)).map aF),true⟩,⟨b2,Row 128 ((List.replicate 64 (0 : B)).map U8),true⟩,⟨b1,Row 131 (s.map aF),true⟩])
      (fun q=>8 - q) (fun q=>q≤8) 0 (by omega) (by repeat (first | exact ai.nil | refine ai.cons _ _ _ rfl ?_)) (aq.refl _) ?_
    intro q hq
    repeat (first | refine JL.q (by (apply OQ.bJ;rfl;rfl)) rfl ?_ | refine JC.seq ?_ | refine JC.region ?_ | refine JL.nil ?_ | refine JE.next ?_)
    refine JC.cond rfl (fun h=>?_) (fun h=>?_)
    · have hq' : q<8:=of_decide_eq_true h
      clear h hq
      have hv16 : (st s (8 * r+q)).length=16:=by rw [jE,hs]
      have hnext : st s (8 * r+(q+1))=jD (st s (8 * r+q)) q (q4 (st s (8 * r+q)) q) 4:=by
        rw [← Nat.add_assoc,st,qs,show (8 * r+q) % 8=q by omega]
      generalize st s (8 * r+q)=v at hv16 hnext
      have hlt:=fun k hk=>GR q hq' k hk
      have hget : ∀ k,k<4→(v.map aF)[oi q k]?=some (aF (v.getD (oi q k) 0)):=fun k hk=>m9 (by rw [hv16];exact hlt k hk)
      repeat (first | refine JL.q (by (apply OQ.HI;exact Tryz.underlying161;exact MN;exact M3;rfl;rfl;exact hq';exact (GY q hq'))) rfl ?_ | refine JC.seq ?_ | refine JC.region ?_ | refine JC.block ?_ | refine JC.skip ?_ | refine JE.next ?_)
      refine JL.alloc M4 rfl fun b5 _=>?_
      refine JL.ag MN rfl rfl rfl (uY _) .here (by simp) ?_
      repeat (first | refine JC.seq ?_ | refine JL.nil ?_ | refine JE.next ?_)
      let vs : Nat→X→Value:=fun i x=>if i<16 then (match i % 4 with | 0=>Pt b5 (i / 4) | 1=>N (oi q (i / 4)) | 2=>Pt b3 (oi q (i / 4)) | _=>aF (v.getD (oi q (i / 4)) 0)) else match i with
        | 18=>Pt x.1 0
        | 16=>.agg (([v.getD (oi q 0) 0,v.getD (oi q 1) 0,v.getD (oi q 2) 0,v.getD (oi q 3) 0] : List W).map aF).toArray
        | _=>.agg ((q4 v q).map aF).toArray
      let Ms : Nat→X→List aG:=fun i x=>match i with
        | 18=>[⟨x.1,Row 142 ((List.replicate 4 (0 : W)).map aF),true⟩]
        | 19=>[⟨x.1,Row 142 ((q4 v q).map aF),true⟩]
        | 20=>[⟨b5,Row 160 ((o4 q).map N),true⟩]
        | 21=>[⟨b3,Row 131 (v.map aF),true⟩]
        | 22=>[⟨b2,Row 128 ((List.replicate 64 (0 : B)).map U8),true⟩,⟨b1,Row 131 (s.map aF),true⟩]
        | _=>[]
      refine JC.grow (g:=⟨[(1,Pt b1 0),(2,Pt b2 0),(3,Pt b3 0),(5,Pt b5 0),(13,N r),(15,.agg (qp.map N).toArray),(16,N q)],23,vs,Ms,J2,LH,LI,LJ⟩) [(18,6)] [19,20,21,22] rF (by repeat (first | exact ai.nil | refine ai.cons _ _ _ rfl ?_)) (aq.refl _) (by kernel_rfl) (by kernel_rfl) (by kernel_rfl) ?_ ?_
      · refine ⟨?_,?_,?_,?_,?_,?_,?_,?_,?_,?_,?_,?_,?_,?_,?_,?_,?_,?_,?_,?_,trivial⟩
        iterate 16 (focus (intro x EF MF Q kk;(try refine JL.aU rfl rfl ?_);exact JL.q (by first|(apply OQ.aD;exact Tryz.underlying160;exact Fx;rfl;rfl;exact (by decide))|(apply OQ.load;exact Fy;rfl;exact .here;exact (Row.cell rfl))|(apply OQ.aD;exact Tryz.underlying131;exact qe;rfl;rfl;exact (hlt _ (by decide)))|(apply OQ.load;exact z5;rfl;exact .here;exact (Row.cell (hget _ (by decide))))) rfl (JL.nil (kk default nofun))))
        · intro x EF MF Q kk
          exact JL.q (OQ.pure (v:=.agg (([v.getD (oi q 0) 0,v.getD (oi q 1) 0,v.getD (oi q 2) 0,v.getD (oi q 3) 0] : List W).map aF).toArray) rfl rfl (by kernel_rfl)) rfl (JL.nil (kk (0,0) nofun))
        · intro x EF MF Q kk
          exact JL.q (OQ.au uV rfl fun w' _=>wQ _ _ _ _ w') rfl (JL.nil (kk (0,0) nofun))
        · intro x EF MF Q kk
          exact JL.alloc K3 rfl fun b _=>JL.nil (kk (b,0) nofun)
        · intro x EF MF Q kk
          exact JL.ag Jq rfl rfl rfl (jn _) .here rfl (JL.nil (kk (x 18) (fun k h=>by cases h;rfl)))
      · intro x hx
        have h19:=hx 19 18 (by decide) rfl
        show JE _ _ _ _ _ [(6,Pt (x 18).1 0),(1,Pt b1 0),(2,Pt b2 0),(3,Pt b3 0),(5,Pt b5 0),(13,N r),(15,.agg (qp.map N).toArray),(16,N q)] [⟨(x 19).1,Row 142 ((q4 v q).map aF),true⟩,⟨b5,Row 160 ((o4 q).map N),true⟩,⟨b3,Row 131 (v.map aF),true⟩,⟨b2,Row 128 ((List.replicate 64 (0 : B)).map U8),true⟩,⟨b1,Row 131 (s.map aF),true⟩]
        rw [h19]
        generalize (x 18).1=b6
        clear hx h19 x vs Ms
        repeat (refine JE.next ?_)
        let vs : Nat→X→Value:=fun i _=>if i<8 then (match i % 2 with | 0=>Pt b5 (i / 2) | _=>N (oi q (i / 2))) else if i<16 then (match i % 2 with | 0=>Pt b6 ((i - 8) / 2) | _=>aF ((q4 v q).getD ((i - 8) / 2) 0)) else Pt b3 (oi q ((i - 16) / 2))
        let Ms : Nat→X→List aG:=fun i _=>match i with
          | 17=>[⟨b3,Row 131 ((jD v q (q4 v q) 1).map aF),true⟩]
          | 19=>[⟨b3,Row 131 ((jD v q (q4 v q) 2).map aF),true⟩]
          | 21=>[⟨b3,Row 131 ((jD v q (q4 v q) 3).map aF),true⟩]
          | 23=>[⟨b3,Row 131 ((jD v q (q4 v q) 4).map aF),true⟩]
          | 24=>[⟨b6,Row 142 ((q4 v q).map aF),true⟩]
          | 25=>[⟨b5,Row 160 ((o4 q).map N),true⟩]
          | 26=>[⟨b3,Row 131 ((jD v q (q4 v q) 0).map aF),true⟩]
          | 27=>[⟨b2,Row 128 ((List.replicate 64 (0 : B)).map U8),true⟩,⟨b1,Row 131 (s.map aF),true⟩]
          | _=>[]
        have hput : ∀ k,((jD v q (q4 v q) k).map aF).length=16:=fun k=>by rw [List.length_map,jc,hv16]
        have hset : ∀ k,((jD v q (q4 v q) k).map aF).set (oi q k) (aF ((q4 v q).getD k 0))=(jD v q (q4 v q) (k+1)).map aF:=fun k=>by rw [jD,List.map_set]
        refine JC.grow (g:=⟨[(1,Pt b1 0),(2,Pt b2 0),(3,Pt b3 0),(5,Pt b5 0),(6,Pt b6 0),(13,N r),(15,.agg (qp.map N).toArray),(16,N q)],28,vs,Ms,J3,LK,LL,fun _=>none⟩) [] [23,27] rF (by repeat (first | exact ai.nil | refine ai.cons _ _ _ rfl ?_)) (aq.refl _) (by kernel_rfl) (by kernel_rfl) (by kernel_rfl) ?_ ?_
        · refine ⟨?_,?_,?_,?_,?_,?_,?_,?_,?_,?_,?_,?_,?_,?_,?_,?_,?_,?_,?_,?_,?_,?_,?_,?_,trivial⟩
          iterate 16 (focus (intro x EF MF Q kk;(try refine JL.aU rfl rfl ?_);exact JL.q (by first|(apply OQ.aD;exact Tryz.underlying160;exact Fx;rfl;rfl;exact (by decide))|(apply OQ.load;exact Fy;rfl;exact .here;exact (Row.cell rfl))|(apply OQ.aD;exact Tryz.underlying142;exact qe;rfl;rfl;exact (by decide))) rfl (JL.nil (kk default nofun))))
          iterate 4 ((focus (intro x EF MF Q kk;(try refine JL.aU rfl rfl ?_);exact JL.q (by (apply OQ.aD;exact Tryz.underlying131;exact qe;rfl;rfl;exact (hlt _ (by decide)))) rfl (JL.nil (kk default nofun))));(focus (intro x EF MF Q kk;exact JL.az qe rfl rfl rfl rfl .here (by rw [hput];exact hlt _ (by decide)) (hset _) (JL.nil (kk (0,0) nofun)))))
        · intro x hx
          clear hx
          show JE _ _ _ _ _ [(1,Pt b1 0),(2,Pt b2 0),(3,Pt b3 0),(5,Pt b5 0),(6,Pt b6 0),(13,N r),(15,.agg (qp.map N).toArray),(16,N q)] [⟨b3,Row 131 ((jD v q (q4 v q) 4).map aF),true⟩,⟨b2,Row 128 ((List.replicate 64 (0 : B)).map U8),true⟩,⟨b1,Row 131 (s.map aF),true⟩]
          rw [← hnext]
          clear x vs Ms hput hset
          repeat (first | refine JL.q (by first|(apply OQ.move;rfl)|(apply OQ.aY;rfl;rfl;exact (by (try simp only []);omega))) rfl ?_ | refine JC.region ?_ | refine JL.nil ?_ | refine JE.next ?_ | refine JE.an ?_)
          exact JE.again (i:=q) (q+1) (by omega) (by omega) (by repeat (first | exact ai.nil | refine ai.cons _ _ _ rfl ?_)) (aq.refl _)
    · have hq' : ¬ q<8:=of_decide_eq_false h
      obtain rfl : q=8:=by omega
      clear h hq hq'
      repeat (first | refine JL.q (by first|(apply OQ.move;rfl)|(apply OQ.aY;rfl;rfl;exact (by (try simp only []);omega))) rfl ?_ | refine JC.region ?_ | refine JC.exit ?_ | refine JL.nil ?_ | refine JE.next ?_ | refine JE.an ?_ | refine JE.ax ?_ | refine JE.aA ?_)
      exact JE.again (i:=r) (r+1) (by omega) (by omega) (by repeat (first | exact ai.nil | refine ai.cons _ _ _ rfl ?_)) (aq.refl _)
  · have hr' : ¬ r<10:=of_decide_eq_false h
    obtain rfl : r=10:=by omega
    clear h hr hr'
    have hv16 : (st s (8 * 10)).length=16:=by rw [jE,hs]
    have hblA:=Fz s
    rw [show st s (8 * 10)=st s 80 from rfl] at hv16 ⊢
    generalize hv : st s 80=v at hv16 hblA ⊢
    have hvl : (v.map aF).length=16:=by simpa using hv16
    repeat (first | refine JC.seq ?_ | refine JC.region ?_ | refine JC.exit ?_ | refine JE.next ?_ | refine JE.ax ?_ | refine JE.aA ?_)
    refine JL.alloc Ia rfl fun b7 _=>?_
    repeat (first | refine JL.q (by first|(apply OQ.af (cs:=v.map aF);exact Fq;exact yM;rfl;exact (.there .here);exact hvl;exact Row.all)|(apply OQ.move;rfl)) rfl ?_ | refine JC.seq ?_ | refine JC.region ?_ | refine JC.block ?_ | refine JL.nil ?_ | refine JE.next ?_)
    refine JC.loop (fun i : Nat=>[(1,Pt b1 0),(2,Pt b2 0),(7,Pt b7 0),(59,.agg (v.map aF).toArray),(60,N i)])
      (fun i=>[⟨b7,Row 128 ((EX s i).map U8),true⟩,⟨b2,Row 128 ((List.replicate 64 (0 : B)).map U8),true⟩,⟨b1,Row 131 (s.map aF),true⟩])
      (fun i=>16 - i) (fun i=>i≤16) 0 (by omega) (by repeat (first | exact ai.nil | refine ai.cons _ _ _ rfl ?_)) (.keep _ _ _ _ _ _ (fun _ h=>h) (.drop _ _ _ (aq.refl _))) ?_
    intro i hi
    repeat (first | refine JL.q (by (apply OQ.bJ;rfl;rfl)) rfl ?_ | refine JC.seq ?_ | refine JC.region ?_ | refine JL.nil ?_ | refine JE.next ?_)
    refine JC.cond rfl (fun h=>?_) (fun h=>?_)
    · have hi' : i<16:=of_decide_eq_true h
      clear h hi
      have hbl:=rL s i (by omega)
      have hset:=hblA i hi' _ rfl
      repeat (first | refine JL.q (by first|(apply OQ.index;exact Tryz.underlying131;exact qe;exact z5;rfl;rfl;exact hi';exact (m9 (by omega)))|(apply OQ.aD;exact Tryz.underlying131;exact qe;rfl;rfl;exact hi')|(apply OQ.load;exact z5;rfl;exact (.there (.there .here));exact (Row.cell (m9 (by omega))))|(apply OQ.move;rfl)|(apply OQ.assign;rfl)|(apply OQ.fA;rfl;rfl)|(apply OQ.kK;rfl;rfl)|(apply OQ.aY;rfl;rfl;exact (by (try simp only []);omega))|(apply OQ.iB;rfl;rfl;exact (by (try simp only []);omega))|(apply OQ.kZ;rfl;rfl;rfl)|(apply OQ.aD;rfl;rfl;rfl;rfl;exact (by (try simp only []);omega))) rfl ?_ | refine JC.seq ?_ | refine JC.region ?_ | refine JC.block ?_ | refine JC.skip ?_ | refine JL.nil ?_ | refine JE.next ?_)
      generalize (EX s i).map U8=r0 at hbl hset
      generalize v.getD i 0+s.getD i 0=z at hset
      skip
      refine JL.fk rfl rfl s5 rfl rfl .here (by (try simp only []);omega) ?_
      repeat (refine JL.q (by (apply OQ.aD;exact Tryz.underlying128;exact s5;rfl;rfl;exact (by (try simp only []);omega))) rfl ?_)
      refine JL.fk rfl rfl s5 rfl rfl .here (by rw [List.length_set];(try simp only []);omega) ?_
      repeat (refine JL.q (by (apply OQ.aD;exact Tryz.underlying128;exact s5;rfl;rfl;exact (by (try simp only []);omega))) rfl ?_)
      refine JL.fk rfl rfl s5 rfl rfl .here (by rw [List.length_set,List.length_set];(try simp only []);omega) ?_
      repeat (refine JL.q (by (apply OQ.aD;exact Tryz.underlying128;exact s5;rfl;rfl;exact (by (try simp only []);omega))) rfl ?_)
      refine JL.az s5 rfl rfl rfl rfl .here (by rw [List.length_set,List.length_set,List.length_set];(try simp only []);omega) hset ?_
      repeat (first | refine JL.q (by first|(apply OQ.move;rfl)|(apply OQ.aY;rfl;rfl;exact (by (try simp only []);omega))) rfl ?_ | refine JC.region ?_ | refine JL.nil ?_ | refine JE.next ?_ | refine JE.an ?_)
      exact JE.again (i:=i) (i+1) (by omega) (by omega) (by repeat (first | exact ai.nil | refine ai.cons _ _ _ rfl ?_)) (aq.refl _)
    · have hi' : ¬ i<16:=of_decide_eq_false h
      obtain rfl : i=16:=by omega
      clear h hi hi'
      have hbl : EX s 16=block s:=by simp [EX,block]
      have hl:=rL s 16 (by omega)
      rw [hbl] at hl ⊢
      repeat (first | refine JL.q (by (apply OQ.af (cs:=(block s).map U8);exact C3;exact x5;rfl;exact .here;exact hl;exact Row.all)) rfl ?_ | refine JC.seq ?_ | refine JC.region ?_ | refine JC.exit ?_ | refine JE.next ?_ | refine JE.ax ?_ | refine JE.aA ?_)
      refine JL.ag x5 rfl rfl hl (dL _) (.there .here) (by simp) ?_
      repeat (first | refine JL.nil ?_ | refine JE.next ?_)
      refine JC.ret (JE.aQ rfl (RV.av C3 x5 rfl (.there .here) hl Row.all) ?_)
      exact fun w' hw=>⟨rfl,hw.aL⟩
end
section
set_option maxRecDepth 10000
open Sl g5 lz
theorem Sl.Has.Dq {M : List aG} {b : Nat} {A : Obj→Prop} {wr : Bool} (h : ⟨b,A,wr⟩ ∈ M) : Has M b A wr:=by
  induction M with
  | nil=>cases h
  | cons e M ih=>
    simp only [List.mem_cons] at h
    rcases h with h | h
    · subst h;exact .here
    · exact .there (ih h)
theorem Sl.ah.perm {w0 w : World} {S : List Nat} {M M' : List aG} (h : ah w0 S M w) (hp : M.Perm M') : ah w0 S M' w:=
  ⟨h.aL,(hp.map aG.b).nodup_iff.1 h.nodup,fun e he=>h.all e (hp.mem_iff.2 he)⟩
theorem JL.dz {P : Program} {n : Nat} {w0 : World} {S : List Nat} {ops : Array Oper} {Q : Exit→Act→World→Prop} {l : List Oper} {E : Env} {M M' : List aG} (hp : M.Perm M') (h : JL P n w0 S ops Q l E M') : JL P n w0 S ops Q l E M:=⟨fun a w ha hw=>h.go a w ha (hw.perm hp)⟩
theorem JL.Bv {P : Program} {n : Nat} {w0 : World} {S : List Nat} {ops : Array Oper} {Q : Exit→Act→World→Prop} {l : List Oper} {E : Env} {M M' : List aG} {b j k cap : Nat} {t e ty : TypeId} {pos : String} {aft : Array Edge} {v : Value} {x y : Operand} {xs xs' : List Value}
    (hz : dJ P t=some 1) (hx : ev E x=some (.pointer (some ⟨b,j,none⟩))) (hy : ev E y=some v) (hv : v.oneCell'=true) (hcl : v.cells=#[v]) (hu : eJ M b (Sl.aE e 1 k cap xs) (Sl.aE e 1 k cap xs') M') (hj : j<xs.length) (he : xs.set j v=xs')
    (kk : JL P n w0 S ops Q l E M') : JL P n w0 S ops Q (⟨none,.store t x y,ty,pos,aft,none⟩::l) E M:=
  JL.store hx hy hz hv hcl hu (by
    rintro o ⟨sp,rfl,h2,h3,h4⟩
    subst he
    refine ⟨_,_,rfl,by simp only [List.size_toArray,List.length_append];omega,sp,?_,by simpa using h2,by simpa using h3,h4⟩
    simp only [List.setIfInBounds_toArray]
    rw [List.set_append_left _ _ hj]) kk
theorem yO : aK Tryz.prog 92:=⟨_,Tryz.func92,rfl,by kernel_rfl⟩
theorem wS : aK Tryz.prog 72:=⟨_,Tryz.func72,rfl,by kernel_rfl⟩
theorem uZ : EI Tryz.prog 95 (.int .u32 0) 1 4:=by unfold EI;kernel_rfl
theorem GZ : EI Tryz.prog 3 (.int .i64 0) 1 8:=by unfold EI;kernel_rfl
theorem LM : EI Tryz.prog 144 (.slice none 0 0) 1 24:=by unfold EI;kernel_rfl
theorem J4 : dJ Tryz.prog 144=some 1:=by kernel_rfl
theorem J5 : ie Tryz.prog 144=true:=by kernel_rfl
def d8 : List Nat:=[7,6,5,4,3,2,1,0]
def pq (f : Nat→Nat) (i : Nat) : Value:=.slice (some ⟨f i,0,none⟩) 4 4
def pA (bo : Nat) (f : Nat→Nat) : List aG:=⟨bo,Row 144 [pq f 0,pq f 1,pq f 2,pq f 3,pq f 4,pq f 5,pq f 6,pq f 7],true⟩::d8.map fun i=>⟨f i,Row 3 ((o4 i).map N),true⟩
theorem FA (bo : Nat) (f : Nat→Nat) : ∀ e ∈ pA bo f,e.wr=true:=by
  intro e he
  simp only [pA,d8,List.map_cons,List.map_nil,List.mem_cons,List.not_mem_nil,or_false] at he
  rcases he with rfl | rfl | rfl | rfl | rfl | rfl | rfl | rfl | rfl <;> rfl
theorem wT (bo : Nat) (f : Nat→Nat) (i : Nat) (h : i<8) : (⟨f i,Row 3 ((o4 i).map N),true⟩ : aG) ∈ pA bo f:=by
  have : i=0∨i=1∨i=2∨i=3∨i=4∨i=5∨i=6∨i=7:=by omega
  rcases this with rfl | rfl | rfl | rfl | rfl | rfl | rfl | rfl <;> simp [pA,d8]
theorem Dr (bo : Nat) (f : Nat→Nat) (i : Nat) (h : i<8) (M : List aG) : Has (pA bo f++M) (f i) (Row 3 ((o4 i).map N)) true:=Has.Dq (List.mem_append_left _ (wT bo f i h))
theorem Bw (bo : Nat) (f : Nat→Nat) (i : Nat) (h : i<8) : Has (pA bo f) (f i) (Row 3 ((o4 i).map N)) true:=Has.Dq (wT bo f i h)
theorem z6 (f : Nat→Nat) (i : Nat) (h : i<8) : [pq f 0,pq f 1,pq f 2,pq f 3,pq f 4,pq f 5,pq f 6,pq f 7][i]?=some (pq f i):=by
  have : i=0∨i=1∨i=2∨i=3∨i=4∨i=5∨i=6∨i=7:=by omega
  rcases this with rfl | rfl | rfl | rfl | rfl | rfl | rfl | rfl <;> rfl
theorem jf (l : List Nat) : ∀ v ∈ l.map N,v.cells=#[v]:=by
  intro v hv
  obtain ⟨x,_,rfl⟩:=List.mem_map.1 hv
  rfl
set_option maxHeartbeats 8000000 in
theorem Bx (w : World) : Calls Tryz.prog 92 ([] : List Value).toArray w fun e w'=>∃ i : Nat × (Nat→Nat),e=.returned (.slice (some ⟨i.1,0,none⟩) 8 8)∧ah w [] (pA i.1 i.2) w':=by
  refine enter (n:=10) Tryz.func92 rfl rfl rfl (ah.start w []) ?_
  repeat (first | refine JL.q (by (apply OQ.assign;rfl)) rfl ?_ | refine JC.seq ?_ | refine JC.region ?_ | refine JL.nil ?_ | refine JE.next ?_)
  refine JL.nC (xs:=[.const (N 0),.const (N 4),.const (N 8),.const (N 12)]) (vs:=(o4 0).map N) Tryz.underlying144 GZ rfl rfl rfl (uY _) (jf _) rfl (by decide) (by decide) rfl fun b0 _=>?_
  refine JL.nC (xs:=[.const (N 1),.const (N 5),.const (N 9),.const (N 13)]) (vs:=(o4 1).map N) Tryz.underlying144 GZ rfl rfl rfl (uY _) (jf _) rfl (by decide) (by decide) rfl fun b1 _=>?_
  refine JL.nC (xs:=[.const (N 2),.const (N 6),.const (N 10),.const (N 14)]) (vs:=(o4 2).map N) Tryz.underlying144 GZ rfl rfl rfl (uY _) (jf _) rfl (by decide) (by decide) rfl fun b2 _=>?_
  refine JL.nC (xs:=[.const (N 3),.const (N 7),.const (N 11),.const (N 15)]) (vs:=(o4 3).map N) Tryz.underlying144 GZ rfl rfl rfl (uY _) (jf _) rfl (by decide) (by decide) rfl fun b3 _=>?_
  refine JL.nC (xs:=[.const (N 0),.const (N 5),.const (N 10),.const (N 15)]) (vs:=(o4 4).map N) Tryz.underlying144 GZ rfl rfl rfl (uY _) (jf _) rfl (by decide) (by decide) rfl fun b4 _=>?_
  refine JL.nC (xs:=[.const (N 1),.const (N 6),.const (N 11),.const (N 12)]) (vs:=(o4 5).map N) Tryz.underlying144 GZ rfl rfl rfl (uY _) (jf _) rfl (by decide) (by decide) rfl fun b5 _=>?_
  refine JL.nC (xs:=[.const (N 2),.const (N 7),.const (N 8),.const (N 13)]) (vs:=(o4 6).map N) Tryz.underlying144 GZ rfl rfl rfl (uY _) (jf _) rfl (by decide) (by decide) rfl fun b6 _=>?_
  refine JL.nC (xs:=[.const (N 3),.const (N 4),.const (N 9),.const (N 14)]) (vs:=(o4 7).map N) Tryz.underlying144 GZ rfl rfl rfl (uY _) (jf _) rfl (by decide) (by decide) rfl fun b7 _=>?_
  let f : Nat→Nat:=fun i=>match i with | 0=>b0 | 1=>b1 | 2=>b2 | 3=>b3 | 4=>b4 | 5=>b5 | 6=>b6 | _=>b7
  refine JL.nC (xs:=[.tmp 1,.tmp 2,.tmp 3,.tmp 4,.tmp 5,.tmp 6,.tmp 7,.tmp 8]) (vs:=[pq f 0,pq f 1,pq f 2,pq f 3,pq f 4,pq f 5,pq f 6,pq f 7]) Tryz.underlying140 LM rfl rfl rfl rfl (by simp [pq,Value.cells]) rfl (by decide) (by decide) rfl fun b9 _=>?_
  repeat (first | refine JL.q (by (apply OQ.assign;rfl)) rfl ?_ | refine JL.nil ?_ | refine JE.next ?_)
  refine JC.ret ?_
  skip
  exact JE.aQ rfl (RV.tmp rfl) fun w' hw=>⟨(b9,f),rfl,hw⟩
def J6 : Nat→List (Nat × Nat)
  | 3=>[(1,61),(2,62)]
  | 4=>[(3,63)]
  | 5=>[(4,64)]
  | 6=>[(5,65)]
  | 7=>[(0,60),(6,66)]
  | 8=>[(7,67)]
  | 12=>[(10,70),(11,71)]
  | 13=>[(12,72)]
  | 14=>[(13,73)]
  | 15=>[(14,74)]
  | 16=>[(9,69),(15,75)]
  | 17=>[(16,76)]
  | 21=>[(19,79),(20,80)]
  | 22=>[(21,81)]
  | 23=>[(22,82)]
  | 24=>[(23,83)]
  | 25=>[(18,78),(24,84)]
  | 26=>[(25,85)]
  | 30=>[(28,88),(29,89)]
  | 31=>[(30,90)]
  | 32=>[(31,91)]
  | 33=>[(32,92)]
  | 34=>[(27,87),(33,93)]
  | 35=>[(34,94)]
  | 36=>[(8,68),(17,77),(26,86),(35,95)]
  | 37=>[(36,96)]
  | 39=>[(38,14),(37,97)]
  | _=>[]
def LN : Nat→List Nat
  | 4=>[42]
  | 6=>[42]
  | 8=>[40]
  | 13=>[42]
  | 15=>[42]
  | 17=>[40]
  | 22=>[42]
  | 24=>[42]
  | 26=>[40]
  | 31=>[42]
  | 33=>[42]
  | 35=>[40]
  | 39=>[38]
  | _=>[]
def LO : Nat→List Nat
  | 39=>[38]
  | _=>[]
def LP : Nat→Option Nat
  | 39=>some 38
  | _=>none
set_option maxHeartbeats 16000000 in
set_option maxRecDepth 8000 in
theorem yP (key : List B) (ctr : W) (nonce : List B) (hk : key.length=32) (hn : nonce.length=12) (w : World) :
    Calls Tryz.prog 72 [.agg (key.map U8).toArray,aF ctr,.agg (nonce.map U8).toArray].toArray w fun e w'=>∃ x : Nat × Nat,e=.returned (.slice (some ⟨x.1,0,none⟩) 64 x.2)∧ah w [] [⟨x.1,Sl.aE 5 1 64 x.2 ((ks key ctr nonce).map U8),true⟩] w':=by
  refine enter (n:=143) Tryz.func72 rfl rfl rfl (ah.start w []) ?_
  repeat (first | refine JC.seq ?_ | refine JC.region ?_)
  refine JL.box (r:=key.map U8) rfl rfl rfl fun b3 _=>?_
  refine JL.box (r:=nonce.map U8) rfl rfl rfl fun b5 _=>?_
  repeat (first | refine JL.q (by (apply OQ.assign;rfl)) rfl ?_ | refine JC.seq ?_ | refine JC.region ?_ | refine JL.nil ?_ | refine JE.next ?_)
  refine JL.nC (xs:=[.const (aF 0x61707865),.const (aF 0x3320646e),.const (aF 0x79622d32),.const (aF 0x6b206574)]) (vs:=c4.map aF) Tryz.underlying138 uZ rfl rfl rfl (jn _) (by simp [Value.cells]) rfl (by decide) (by decide) rfl fun b7 _=>?_
  repeat (first | refine JL.q (by (apply OQ.assign;rfl)) rfl ?_ | refine JC.seq ?_ | refine JC.region ?_ | refine JC.block ?_ | refine JL.nil ?_ | refine JE.next ?_)
  refine JC.loop (ι:=Nat × Nat × Nat) (fun i=>[(1,aF ctr),(3,Pt b3 0),(5,Pt b5 0),(7,.slice (some ⟨i.2.1,0,none⟩) (4+i.1) i.2.2),(8,N (4 * i.1))])
    (fun i=>[⟨i.2.1,Sl.aE 95 1 (4+i.1) i.2.2 ((c4++nW key i.1).map aF),true⟩,⟨b5,Row 72 (nonce.map U8),true⟩,⟨b3,Row 23 (key.map U8),true⟩])
    (fun i=>8 - i.1) (fun i=>i.1≤8) (0,b7,4) (by dsimp only;omega) (by repeat (first | exact ai.nil | refine ai.cons _ _ _ rfl ?_)) (.keep _ _ _ _ _ _ (wg rfl) (aq.refl _)) ?_
  rintro ⟨j,b7,cap7⟩ hj
  dsimp only at hj ⊢
  repeat (first | refine JL.q (by first|(apply OQ.move;rfl)|(apply OQ.bJ;rfl;rfl)) rfl ?_ | refine JC.seq ?_ | refine JC.region ?_ | refine JL.nil ?_ | refine JE.next ?_)
  refine JC.cond rfl (fun h=>?_) (fun h=>?_)
  · have hj' : j<8:=by
      have : 4 * j<32:=of_decide_eq_true h
      omega
    clear h hj
    have hw4:=oz key j (by omega)
    have hgt : ∀ k,k<4→(w4 key j)[k]?=some (key.getD (4 * j+k) 0):=fun k hk=>by
      have : k=0∨k=1∨k=2∨k=3:=by omega
      rcases this with rfl | rfl | rfl | rfl <;> rfl
    repeat (first | refine JL.q (by first|(apply OQ.wh;exact Tryz.underlying23;exact s5;rfl;rfl;rfl;exact (show 4 * j<32 by omega);exact (show 4 * j≤4 * j+4 by omega);exact (show 4 * j+4≤32 by omega))|(apply OQ.move;rfl)|(apply OQ.aY;rfl;rfl;exact (by (try simp only []);omega))) rfl ?_ | refine JC.seq ?_ | refine JC.region ?_ | refine JC.block ?_ | refine JC.skip ?_ | refine JE.next ?_)
    rw [Nat.add_sub_cancel_left]
    repeat (refine JL.q (by (apply OQ.au;exact rH;rfl;exact (fun w' hw'=>tV key j b3 (0+4 * j) (32 - 4 * j) w' (fun k hk=>by obtain ⟨o,ho,hA⟩:=hw'.get (.there (.there .here));exact kW ho (Row.cells hw4 _ hA) k _ (by rw [List.getElem?_map,hgt k hk];rfl))))) rfl ?_)
    refine JL.fC Tryz.underlying138 uZ rfl rfl rfl rfl fun b30 _=>?_
    refine JL.append (cs:=[aF (wd key j)]) (fun b' cap'=>[⟨b30,Row 95 [aF (wd key j)],true⟩,⟨b',Sl.aE 95 1 (4+j+1) cap' ((c4++nW key j).map aF++[aF (wd key j)]),true⟩,⟨b5,Row 72 (nonce.map U8),true⟩,⟨b3,Row 23 (key.map U8),true⟩]) Tryz.underlying138 uZ rfl rfl (by intro _ _;repeat (first | exact aZ.here | apply aZ.there)) rfl (fun w' hw'=>?_) (by simp [Value.oneCell']) rfl (by decide) (by omega) (by omega) rfl fun b7' cap7'=>?_
    · obtain ⟨o,ho,hA⟩:=hw'.get .here
      exact Reads.block ho (Row.all _ hA)
    repeat (first | refine JL.q (by first|(apply OQ.move;rfl)|(apply OQ.assign;rfl)|(apply OQ.aY;rfl;rfl;exact (by (try simp only []);omega))) rfl ?_ | refine JC.region ?_ | refine JL.nil ?_ | refine JE.next ?_ | refine JE.an ?_)
    rw [show 4 * j+4=4 * (j+1) by omega]
    exact JE.again (ι:=Nat × Nat × Nat) (i:=(j,b7,cap7)) (j+1,b7',cap7') (by dsimp only;omega) (by dsimp only;omega) (by repeat (first | exact ai.nil | refine ai.cons _ _ _ rfl ?_)) (.drop _ _ _ (.keep _ _ _ _ _ _ (fun o ho=>by simpa [nW,List.append_assoc,Nat.add_assoc] using ho) (aq.refl _)))
  · have hj' : ¬ j<8:=by
      have : ¬ 4 * j<32:=of_decide_eq_false h
      omega
    obtain rfl : j=8:=by omega
    clear h hj hj'
    repeat (first | refine JL.q (by (apply OQ.move;rfl)) rfl ?_ | refine JC.seq ?_ | refine JC.region ?_ | refine JC.exit ?_ | refine JE.next ?_ | refine JE.ax ?_ | refine JE.aA ?_)
    refine JL.fC Tryz.underlying138 uZ rfl rfl rfl rfl fun b34 _=>?_
    refine JL.append (cs:=[aF ctr]) (fun b' cap'=>[⟨b34,Row 95 [aF ctr],true⟩,⟨b',Sl.aE 95 1 (4+8+1) cap' ((c4++nW key 8).map aF++[aF ctr]),true⟩,⟨b5,Row 72 (nonce.map U8),true⟩,⟨b3,Row 23 (key.map U8),true⟩]) Tryz.underlying138 uZ rfl rfl (by intro _ _;repeat (first | exact aZ.here | apply aZ.there)) rfl (fun w' hw'=>?_) (by simp [Value.oneCell']) rfl (by decide) (by decide) (by decide) rfl fun b7' cap7'=>?_
    · obtain ⟨o,ho,hA⟩:=hw'.get .here
      exact Reads.block ho (Row.all _ hA)
    repeat (first | refine JL.q (by (apply OQ.assign;rfl)) rfl ?_ | refine JC.seq ?_ | refine JC.region ?_ | refine JC.block ?_ | refine JL.nil ?_ | refine JE.next ?_)
    refine JC.loop (ι:=Nat × Nat × Nat) (fun i=>[(5,Pt b5 0),(7,.slice (some ⟨i.2.1,0,none⟩) (13+i.1) i.2.2),(9,N (4 * i.1))])
      (fun i=>[⟨i.2.1,Sl.aE 95 1 (13+i.1) i.2.2 ((c4++nW key 8++[ctr]++nW nonce i.1).map aF),true⟩,⟨b5,Row 72 (nonce.map U8),true⟩])
      (fun i=>3 - i.1) (fun i=>i.1≤3) (0,b7',cap7') (by dsimp only;omega) (by repeat (first | exact ai.nil | refine ai.cons _ _ _ rfl ?_)) (.drop _ _ _ (.keep _ _ _ _ _ _ (fun o ho=>by simpa [nW] using ho) (.keep _ _ _ _ _ _ (fun _ h=>h) (aq.nil _)))) ?_
    rintro ⟨j,b7,cap7⟩ hj
    dsimp only at hj ⊢
    repeat (first | refine JL.q (by first|(apply OQ.move;rfl)|(apply OQ.bJ;rfl;rfl)) rfl ?_ | refine JC.seq ?_ | refine JC.region ?_ | refine JL.nil ?_ | refine JE.next ?_)
    refine JC.cond rfl (fun h=>?_) (fun h=>?_)
    · have hj' : j<3:=by
        have : 4 * j<12:=of_decide_eq_true h
        omega
      clear h hj
      have hw4:=oz nonce j (by omega)
      have hgt : ∀ k,k<4→(w4 nonce j)[k]?=some (nonce.getD (4 * j+k) 0):=fun k hk=>by
        have : k=0∨k=1∨k=2∨k=3:=by omega
        rcases this with rfl | rfl | rfl | rfl <;> rfl
      repeat (first | refine JL.q (by first|(apply OQ.wh;exact Tryz.underlying72;exact s5;rfl;rfl;rfl;exact (show 4 * j<12 by omega);exact (show 4 * j≤4 * j+4 by omega);exact (show 4 * j+4≤12 by omega))|(apply OQ.move;rfl)|(apply OQ.aY;rfl;rfl;exact (by (try simp only []);omega))) rfl ?_ | refine JC.seq ?_ | refine JC.region ?_ | refine JC.block ?_ | refine JC.skip ?_ | refine JE.next ?_)
      rw [Nat.add_sub_cancel_left]
      repeat (refine JL.q (by (apply OQ.au;exact rH;rfl;exact (fun w' hw'=>tV nonce j b5 (0+4 * j) (12 - 4 * j) w' (fun k hk=>by obtain ⟨o,ho,hA⟩:=hw'.get (.there .here);exact kW ho (Row.cells hw4 _ hA) k _ (by rw [List.getElem?_map,hgt k hk];rfl))))) rfl ?_)
      refine JL.fC Tryz.underlying138 uZ rfl rfl rfl rfl fun b46 _=>?_
      refine JL.append (cs:=[aF (wd nonce j)]) (fun b' cap'=>[⟨b46,Row 95 [aF (wd nonce j)],true⟩,⟨b',Sl.aE 95 1 (13+j+1) cap' ((c4++nW key 8++[ctr]++nW nonce j).map aF++[aF (wd nonce j)]),true⟩,⟨b5,Row 72 (nonce.map U8),true⟩]) Tryz.underlying138 uZ rfl rfl (by intro _ _;repeat (first | exact aZ.here | apply aZ.there)) rfl (fun w' hw'=>?_) (by simp [Value.oneCell']) rfl (by decide) (by omega) (by omega) rfl fun b7' cap7'=>?_
      · obtain ⟨o,ho,hA⟩:=hw'.get .here
        exact Reads.block ho (Row.all _ hA)
      repeat (first | refine JL.q (by first|(apply OQ.move;rfl)|(apply OQ.assign;rfl)|(apply OQ.aY;rfl;rfl;exact (by (try simp only []);omega))) rfl ?_ | refine JC.region ?_ | refine JL.nil ?_ | refine JE.next ?_ | refine JE.an ?_)
      rw [show 4 * j+4=4 * (j+1) by omega]
      exact JE.again (ι:=Nat × Nat × Nat) (i:=(j,b7,cap7)) (j+1,b7',cap7') (by dsimp only;omega) (by dsimp only;omega) (by repeat (first | exact ai.nil | refine ai.cons _ _ _ rfl ?_)) (.drop _ _ _ (.keep _ _ _ _ _ _ (fun o ho=>by rw [show nW nonce (j+1)=nW nonce j++[wd nonce j] from rfl];simpa [List.append_assoc,Nat.add_assoc] using ho) (aq.refl _)))
    · have hj' : ¬ j<3:=by
        have : ¬ 4 * j<12:=of_decide_eq_false h
        omega
      obtain rfl : j=3:=by omega
      clear h hj hj'
      rw [show c4++nW key 8++[ctr]++nW nonce 3=dm key ctr nonce from rfl]
      have hks : ks key ctr nonce=block (dm key ctr nonce):=rfl
      have hs:=gL key ctr nonce
      generalize dm key ctr nonce=s at hks hs ⊢
      have hsl : (s.map aF).length=16:=by simpa using hs
      repeat (first | refine JC.seq ?_ | refine JC.region ?_ | refine JC.exit ?_ | refine JE.next ?_ | refine JE.ax ?_ | refine JE.aA ?_)
      refine JL.uF Tryz.underlying138 uZ rfl fun b48 _=>?_
      repeat (refine JL.q (by (apply OQ.move;rfl)) rfl ?_)
      refine JL.append (cs:=s.map aF) (fun b' cap'=>[⟨b',Sl.aE 95 1 (0+16) cap' ([]++s.map aF),true⟩,⟨b7,Sl.aE 95 1 16 cap7 (s.map aF),true⟩,⟨b5,Row 72 (nonce.map U8),true⟩]) Tryz.underlying138 uZ rfl rfl (by intro _ _;repeat (first | exact aZ.here | apply aZ.there)) hsl (fun w' hw'=>?_) (fun v hv=>List.all_eq_true.1 (jn s) v hv) rfl (by decide) (by decide) (by decide) rfl fun b10 cap10=>?_
      · obtain ⟨o,ho,hA⟩:=hw'.get (.there .here)
        exact Reads.block ho (Sl.aE.cells _ hA)
      rw [List.nil_append,Nat.zero_add]
      repeat (first | refine JL.q (by (apply OQ.assign;rfl)) rfl ?_ | refine JC.seq ?_ | refine JC.region ?_ | refine JL.nil ?_ | refine JE.next ?_)
      refine JL.bX (ι:=Nat × (Nat→Nat)) (fun i=>.slice (some ⟨i.1,0,none⟩) 8 8) (fun i=>pA i.1 i.2) yO rfl rfl (fun i=>FA _ _) (fun w' _=>Bx w') ?_
      rintro ⟨bo,f⟩
      dsimp only
      refine JL.dz List.perm_append_comm ?_
      repeat (first | refine JL.q (by (apply OQ.assign;rfl)) rfl ?_ | refine JC.seq ?_ | refine JC.region ?_ | refine JC.block ?_ | refine JL.nil ?_ | refine JE.next ?_)
      refine JC.loop (fun r : Nat=>[(7,.slice (some ⟨b7,0,none⟩) 16 cap7),(10,.slice (some ⟨b10,0,none⟩) 16 cap10),(11,.slice (some ⟨bo,0,none⟩) 8 8),(12,N r)])
        (fun r=>⟨b10,Sl.aE 95 1 16 cap10 ((st s (8 * r)).map aF),true⟩::⟨b7,Sl.aE 95 1 16 cap7 (s.map aF),true⟩::pA bo f)
        (fun r=>10 - r) (fun r=>r≤10) 0 (by omega) (by repeat (first | exact ai.nil | refine ai.cons _ _ _ rfl ?_)) (.keep _ _ _ _ _ _ (fun _ h=>h) (.keep _ _ _ _ _ _ (fun _ h=>h) (.drop _ _ _ (aq.refl _)))) ?_
      intro r hr
      repeat (first | refine JL.q (by first|(apply OQ.move;rfl)|(apply OQ.bJ;rfl;rfl)) rfl ?_ | refine JC.seq ?_ | refine JC.region ?_ | refine JL.nil ?_ | refine JE.next ?_)
      refine JC.cond rfl (fun h=>?_) (fun h=>?_)
      · have hr' : r<10:=of_decide_eq_true h
        clear h hr
        repeat (first | refine JL.q (by (apply OQ.assign;rfl)) rfl ?_ | refine JC.seq ?_ | refine JC.region ?_ | refine JC.block ?_ | refine JC.skip ?_ | refine JL.nil ?_ | refine JE.next ?_)
        refine JC.loop (fun q : Nat=>[(7,.slice (some ⟨b7,0,none⟩) 16 cap7),(10,.slice (some ⟨b10,0,none⟩) 16 cap10),(11,.slice (some ⟨bo,0,none⟩) 8 8),(12,N r),(13,N q)])
          (fun q=>⟨b10,Sl.aE 95 1 16 cap10 ((st s (8 * r+q)).map aF),true⟩::⟨b7,Sl.aE 95 1 16 cap7 (s.map aF),true⟩::pA bo f)
          (fun q=>8 - q) (fun q=>q≤8) 0 (by omega) (by repeat (first | exact ai.nil | refine ai.cons _ _ _ rfl ?_)) (aq.refl _) ?_
        intro q hq
        repeat (first | refine JL.q (by first|(apply OQ.move;rfl)|(apply OQ.bJ;rfl;rfl)) rfl ?_ | refine JC.seq ?_ | refine JC.region ?_ | refine JL.nil ?_ | refine JE.next ?_)
        refine JC.cond rfl (fun h=>?_) (fun h=>?_)
        · have hq' : q<8:=of_decide_eq_true h
          clear h hq
          have hv16 : (st s (8 * r+q)).length=16:=by rw [jE,hs]
          have hnext : st s (8 * r+(q+1))=jD (st s (8 * r+q)) q (q4 (st s (8 * r+q)) q) 4:=by
            rw [← Nat.add_assoc,st,qs,show (8 * r+q) % 8=q by omega]
          generalize st s (8 * r+q)=v at hv16 hnext
          have hlt:=fun k hk=>GR q hq' k hk
          have hget : ∀ k,k<4→(v.map aF)[oi q k]?=some (aF (v.getD (oi q k) 0)):=fun k hk=>m9 (by rw [hv16];exact hlt k hk)
          repeat (first | refine JC.seq ?_ | refine JC.block ?_ | refine JC.skip ?_ | refine JE.next ?_)
          let vs : Nat→X→Value:=fun i x=>if i<36 then (match i % 9 with
            | 0=>.slice (some ⟨b10,0,none⟩) 16 cap10
            | 1=>.slice (some ⟨bo,0,none⟩) 8 8
            | 2=>N q
            | 3=>Pt bo q
            | 4=>pq f q
            | 5=>Pt (f q) (i / 9)
            | 6=>N (oi q (i / 9))
            | 7=>Pt b10 (oi q (i / 9))
            | _=>aF (v.getD (oi q (i / 9)) 0)) else match i with
            | 38=>Pt x.1 0
            | 36=>.agg (([v.getD (oi q 0) 0,v.getD (oi q 1) 0,v.getD (oi q 2) 0,v.getD (oi q 3) 0] : List W).map aF).toArray
            | _=>.agg ((q4 v q).map aF).toArray
          let Ms : Nat→X→List aG:=fun i x=>match i with
            | 38=>[⟨x.1,Row 142 ((List.replicate 4 (0 : W)).map aF),true⟩]
            | 39=>[⟨x.1,Row 142 ((q4 v q).map aF),true⟩]
            | 40=>[⟨b10,Sl.aE 95 1 16 cap10 (v.map aF),true⟩]
            | 41=>[⟨b7,Sl.aE 95 1 16 cap7 (s.map aF),true⟩]
            | 42=>pA bo f
            | _=>[]
          refine JC.grow (g:=⟨[(7,.slice (some ⟨b7,0,none⟩) 16 cap7),(10,.slice (some ⟨b10,0,none⟩) 16 cap10),(11,.slice (some ⟨bo,0,none⟩) 8 8),(12,N r),(13,N q)],43,vs,Ms,J6,LN,LO,LP⟩) [(38,14)] [39,40,41,42] rF (by repeat (first | exact ai.nil | refine ai.cons _ _ _ rfl ?_)) (aq.refl _) (by kernel_rfl) (by kernel_rfl) (by kernel_rfl) ?_ ?_
          · refine ⟨?_,?_,?_,?_,?_,?_,?_,?_,?_,?_,?_,?_,?_,?_,?_,?_,?_,?_,?_,?_,?_,?_,?_,?_,?_,?_,?_,?_,?_,?_,?_,?_,?_,?_,?_,?_,?_,?_,?_,?_,trivial⟩
            iterate 36 (focus (intro x EF MF Q kk;(try refine JL.aU rfl rfl ?_);exact JL.q (by first|(apply OQ.iY;exact Tryz.underlying140;exact J4;rfl;rfl;exact hq')|(apply OQ.load;exact J5;rfl;exact .here;exact (Row.cell (z6 f q hq')))|(apply OQ.iY;exact Tryz.underlying144;exact Fx;rfl;rfl;exact (by decide))|(apply OQ.load;exact Fy;rfl;exact (Dr bo f q hq' _);exact (Row.cell (Dp q _ (by decide))))|(apply OQ.iY;exact Tryz.underlying138;exact qe;rfl;rfl;exact (hlt _ (by decide)))|(apply OQ.load;exact z5;rfl;exact .here;exact (Sl.aE.cell (hget _ (by decide))))|(apply OQ.move;rfl)) rfl (JL.nil (kk default nofun))))
            · intro x EF MF Q kk
              exact JL.q (OQ.pure (v:=.agg (([v.getD (oi q 0) 0,v.getD (oi q 1) 0,v.getD (oi q 2) 0,v.getD (oi q 3) 0] : List W).map aF).toArray) rfl rfl (by kernel_rfl)) rfl (JL.nil (kk (0,0) nofun))
            · intro x EF MF Q kk
              exact JL.q (OQ.au sS rfl fun w' _=>uW _ _ _ _ w') rfl (JL.nil (kk (0,0) nofun))
            · intro x EF MF Q kk
              exact JL.alloc K3 rfl fun b _=>JL.nil (kk (b,0) nofun)
            · intro x EF MF Q kk
              exact JL.ag Jq rfl rfl rfl (jn _) .here rfl (JL.nil (kk (x 38) (fun k h=>by cases h;rfl)))
          · intro x hx
            have h39:=hx 39 38 (by decide) rfl
            show JE _ _ _ _ _ [(14,Pt (x 38).1 0),(7,.slice (some ⟨b7,0,none⟩) 16 cap7),(10,.slice (some ⟨b10,0,none⟩) 16 cap10),(11,.slice (some ⟨bo,0,none⟩) 8 8),(12,N r),(13,N q)] (⟨(x 39).1,Row 142 ((q4 v q).map aF),true⟩::⟨b10,Sl.aE 95 1 16 cap10 (v.map aF),true⟩::⟨b7,Sl.aE 95 1 16 cap7 (s.map aF),true⟩::pA bo f)
            rw [h39]
            generalize (x 38).1=b14
            clear hx h39 x vs Ms
            repeat (first | refine JL.q (by (apply OQ.assign;rfl)) rfl ?_ | refine JC.seq ?_ | refine JC.region ?_ | refine JC.block ?_ | refine JL.nil ?_ | refine JE.next ?_)
            refine JC.loop (fun k : Nat=>[(7,.slice (some ⟨b7,0,none⟩) 16 cap7),(10,.slice (some ⟨b10,0,none⟩) 16 cap10),(11,.slice (some ⟨bo,0,none⟩) 8 8),(12,N r),(13,N q),(14,Pt b14 0),(15,N k)])
              (fun k=>⟨b14,Row 142 ((q4 v q).map aF),true⟩::⟨b10,Sl.aE 95 1 16 cap10 ((jD v q (q4 v q) k).map aF),true⟩::⟨b7,Sl.aE 95 1 16 cap7 (s.map aF),true⟩::pA bo f)
              (fun k=>4 - k) (fun k=>k≤4) 0 (by omega) (by repeat (first | exact ai.nil | refine ai.cons _ _ _ rfl ?_)) (aq.refl _) ?_
            intro k hk
            repeat (first | refine JL.q (by first|(apply OQ.move;rfl)|(apply OQ.bJ;rfl;rfl)) rfl ?_ | refine JC.seq ?_ | refine JC.region ?_ | refine JL.nil ?_ | refine JE.next ?_)
            refine JC.cond rfl (fun h=>?_) (fun h=>?_)
            · have hk' : k<4:=of_decide_eq_true h
              clear h hk
              repeat (first | refine JC.seq ?_ | refine JC.block ?_ | refine JC.skip ?_ | refine JE.next ?_)
              refine JC.tail 12 rF (by kernel_rfl) ?_
              simp only [List.take_succ_cons,List.take_zero,List.drop_succ_cons,List.drop_zero]
              have hput : ((jD v q (q4 v q) k).map aF).length=16:=by rw [List.length_map,jc,hv16]
              have hq4 : ((q4 v q).map aF)[k]?=some (aF ((q4 v q).getD k 0)):=m9 (by rw [A8];exact hk')
              repeat (first | refine JQ.q (by first|(apply OQ.iY;exact Tryz.underlying140;exact J4;rfl;rfl;exact hq')|(apply OQ.load;exact J5;rfl;exact (.there (.there (.there .here)));exact (Row.cell (z6 f q hq')))|(apply OQ.iY (len:=4);exact Tryz.underlying144;exact Fx;rfl;rfl;exact hk')|(apply OQ.load;exact Fy;rfl;exact (.there (.there (.there (Bw bo f q hq'))));exact (Row.cell (Dp q k hk')))|(apply OQ.aD;exact Tryz.underlying142;exact qe;rfl;rfl;exact hk')|(apply OQ.load;exact z5;rfl;exact .here;exact (Row.cell hq4))|(apply OQ.iY;exact Tryz.underlying138;exact qe;rfl;rfl;exact (hlt k hk'))|(apply OQ.move;rfl)) rfl ?_ | refine JQ.bC ?_)
              refine JL.Bv (xs':=(jD v q (q4 v q) (k+1)).map aF) qe rfl rfl rfl rfl (.there .here) (by rw [hput];exact hlt k hk') (by rw [jD,List.map_set]) ?_
              repeat (first | refine JL.q (by first|(apply OQ.move;rfl)|(apply OQ.assign;rfl)|(apply OQ.aY;rfl;rfl;exact (by (try simp only []);omega))) rfl ?_ | refine JC.region ?_ | refine JL.nil ?_ | refine JE.next ?_ | refine JE.an ?_)
              exact JE.again (i:=k) (k+1) (by omega) (by omega) (by repeat (first | exact ai.nil | refine ai.cons _ _ _ rfl ?_)) (aq.refl _)
            · have hk' : ¬ k<4:=of_decide_eq_false h
              obtain rfl : k=4:=by omega
              clear h hk hk'
              rw [← hnext]
              repeat (first | refine JL.q (by first|(apply OQ.move;rfl)|(apply OQ.assign;rfl)|(apply OQ.aY;rfl;rfl;exact (by (try simp only []);omega))) rfl ?_ | refine JC.region ?_ | refine JC.exit ?_ | refine JL.nil ?_ | refine JE.next ?_ | refine JE.an ?_ | refine JE.ax ?_ | refine JE.aA ?_)
              exact JE.again (i:=q) (q+1) (by omega) (by omega) (by repeat (first | exact ai.nil | refine ai.cons _ _ _ rfl ?_)) (.drop _ _ _ (aq.refl _))
        · have hq' : ¬ q<8:=of_decide_eq_false h
          obtain rfl : q=8:=by omega
          clear h hq hq'
          repeat (first | refine JL.q (by first|(apply OQ.move;rfl)|(apply OQ.assign;rfl)|(apply OQ.aY;rfl;rfl;exact (by (try simp only []);omega))) rfl ?_ | refine JC.region ?_ | refine JC.exit ?_ | refine JL.nil ?_ | refine JE.next ?_ | refine JE.an ?_ | refine JE.ax ?_ | refine JE.aA ?_)
          exact JE.again (i:=r) (r+1) (by omega) (by omega) (by repeat (first | exact ai.nil | refine ai.cons _ _ _ rfl ?_)) (aq.refl _)
      · have hr' : ¬ r<10:=of_decide_eq_false h
        obtain rfl : r=10:=by omega
        clear h hr hr'
        have hv16 : (st s (8 * 10)).length=16:=by rw [jE,hs]
        have hbls : ∀ i,bl s (i+1)=bl s i++HM ((st s 80).getD i 0+s.getD i 0):=fun _=>rfl
        rw [show st s (8 * 10)=st s 80 from rfl] at hv16 ⊢
        generalize hv : st s 80=v at hv16 hbls ⊢
        repeat (first | refine JC.seq ?_ | refine JC.region ?_ | refine JC.exit ?_ | refine JE.next ?_ | refine JE.ax ?_ | refine JE.aA ?_)
        refine JL.uF Tryz.underlying27 e5 rfl fun b16 _=>?_
        repeat (first | refine JL.q (by (apply OQ.assign;rfl)) rfl ?_ | refine JC.seq ?_ | refine JC.region ?_ | refine JC.block ?_ | refine JL.nil ?_ | refine JE.next ?_)
        refine JC.loop (ι:=Nat × Nat × Nat) (fun i=>[(7,.slice (some ⟨b7,0,none⟩) 16 cap7),(10,.slice (some ⟨b10,0,none⟩) 16 cap10),(16,.slice (some ⟨i.2.1,0,none⟩) (4 * i.1) i.2.2),(17,N i.1)])
          (fun i=>[⟨i.2.1,Sl.aE 5 1 (4 * i.1) i.2.2 ((bl s i.1).map U8),true⟩,⟨b10,Sl.aE 95 1 16 cap10 (v.map aF),true⟩,⟨b7,Sl.aE 95 1 16 cap7 (s.map aF),true⟩])
          (fun i=>16 - i.1) (fun i=>i.1≤16) (0,b16,0) (by dsimp only;omega) (by repeat (first | exact ai.nil | refine ai.cons _ _ _ rfl ?_)) (.keep _ _ _ _ _ _ (fun _ h=>h) (.keep _ _ _ _ _ _ (fun _ h=>h) (.keep _ _ _ _ _ _ (fun _ h=>h) (aq.nil _)))) ?_
        rintro ⟨i,b16,cap16⟩ hi
        dsimp only at hi ⊢
        repeat (first | refine JL.q (by first|(apply OQ.move;rfl)|(apply OQ.bJ;rfl;rfl)) rfl ?_ | refine JC.seq ?_ | refine JC.region ?_ | refine JL.nil ?_ | refine JE.next ?_)
        refine JC.cond rfl (fun h=>?_) (fun h=>?_)
        · have hi' : i<16:=of_decide_eq_true h
          clear h hi
          repeat (first | refine JC.seq ?_ | refine JC.block ?_ | refine JC.skip ?_ | refine JE.next ?_)
          refine JC.quiet rF (by kernel_rfl) ?_
          repeat (first | refine JL.q (by first|(apply OQ.iY;exact Tryz.underlying138;exact qe;rfl;rfl;exact hi')|(apply OQ.load (b:=b10);exact z5;rfl;exact (.there .here);exact (Sl.aE.cell (m9 (by omega))))|(apply OQ.load (b:=b7);exact z5;rfl;exact (.there (.there .here));exact (Sl.aE.cell (m9 (by omega))))|(apply OQ.move;rfl)|(apply OQ.assign;rfl)|(apply OQ.fA;rfl;rfl)|(apply OQ.kK;rfl;rfl)|(apply OQ.kZ;rfl;rfl;rfl)) rfl ?_ | refine JQ.q (by first|(apply OQ.iY;exact Tryz.underlying138;exact qe;rfl;rfl;exact hi')|(apply OQ.load (b:=b10);exact z5;rfl;exact (.there .here);exact (Sl.aE.cell (m9 (by omega))))|(apply OQ.load (b:=b7);exact z5;rfl;exact (.there (.there .here));exact (Sl.aE.cell (m9 (by omega))))|(apply OQ.move;rfl)|(apply OQ.assign;rfl)|(apply OQ.fA;rfl;rfl)|(apply OQ.kK;rfl;rfl)|(apply OQ.kZ;rfl;rfl;rfl)) rfl ?_ | refine JC.region ?_ | refine JQ.nil ?_ | refine JE.next ?_)
          have hnx:=hbls i
          generalize v.getD i 0+s.getD i 0=z at hnx
          refine JL.nC (xs:=[.tmp 130,.tmp 133,.tmp 136,.tmp 139]) (vs:=(HM z).map U8) Tryz.underlying27 e5 rfl rfl rfl (dL _) (by simp [Value.cells]) rfl (by decide) (by decide) rfl fun b140 _=>?_
          refine JL.append (cs:=(HM z).map U8) (fun b' cap'=>[⟨b140,Row 5 ((HM z).map U8),true⟩,⟨b',Sl.aE 5 1 (4 * i+4) cap' ((bl s i).map U8++(HM z).map U8),true⟩,⟨b10,Sl.aE 95 1 16 cap10 (v.map aF),true⟩,⟨b7,Sl.aE 95 1 16 cap7 (s.map aF),true⟩]) Tryz.underlying27 e5 rfl rfl (by intro _ _;repeat (first | exact aZ.here | apply aZ.there)) rfl (fun w' hw'=>?_) (eu _) rfl (by decide) (by omega) (by omega) rfl fun b16' cap16'=>?_
          · obtain ⟨o,ho,hA⟩:=hw'.get .here
            exact Reads.block ho (Row.all _ hA)
          rw [← List.map_append,← hnx,show 4 * i+4=4 * (i+1) by omega]
          repeat (first | refine JL.q (by first|(apply OQ.move;rfl)|(apply OQ.assign;rfl)|(apply OQ.aY;rfl;rfl;exact (by (try simp only []);omega))) rfl ?_ | refine JC.region ?_ | refine JL.nil ?_ | refine JE.next ?_ | refine JE.an ?_)
          exact JE.again (ι:=Nat × Nat × Nat) (i:=(i,b16,cap16)) (i+1,b16',cap16') (by dsimp only;omega) (by dsimp only;omega) (by repeat (first | exact ai.nil | refine ai.cons _ _ _ rfl ?_)) (.drop _ _ _ (aq.refl _))
        · have hi' : ¬ i<16:=of_decide_eq_false h
          obtain rfl : i=16:=by omega
          clear h hi hi'
          rw [hks]
          repeat (first | refine JL.q (by first|(apply OQ.move;rfl)|(apply OQ.assign;rfl)) rfl ?_ | refine JC.seq ?_ | refine JC.region ?_ | refine JC.exit ?_ | refine JL.nil ?_ | refine JE.next ?_ | refine JE.ax ?_ | refine JE.aA ?_)
          refine JC.ret ?_
          skip
          exact JE.aQ rfl (RV.tmp rfl) fun w' hw=>⟨(b16,cap16),rfl,hw.weak (.keep _ _ _ _ _ _ (fun _ h=>h) (aq.nil _))⟩
end
section
set_option maxRecDepth 10000
open Sl g5 lz
theorem rM : aK Tryz.prog 59:=⟨_,Tryz.func59,rfl,by kernel_rfl⟩
theorem OQ.Ic {P : Program} {n : Nat} {E : Env} {C : World→Prop} {dst : Option Tmp} {t ty e : TypeId} {pos : String} {aft : Array Edge} {g : Option (Nat × Bool)} {x y z : Operand} {len cap b j lo hi : Nat} (hu : P.underlying t=some (.slice e)) (hz : dJ P e=some 1) (hx : ev E x=some (.slice (some ⟨b,j,none⟩) len cap)) (hl : ev E y=some (N lo)) (hh : ev E z=some (N hi)) (h : lo≤hi) (h' : hi≤cap) (h2 : lo<cap) :
    OQ P n E C ⟨dst,.slice t x (some y) (some z) none,ty,pos,aft,g⟩ (.slice (some ⟨b,j+lo,none⟩) (hi - lo) (cap - lo)):=by
  have:=OQ.oh (P:=P) (n:=n) (E:=E) (C:=C) (dst:=dst) (ty:=ty) (pos:=pos) (aft:=aft) (g:=g) hu hz hx hl hh h h'
  rw [if_neg (by omega),Nat.mul_one] at this
  simpa [c9] using this
section
variable (key : List B) (ctr : W) (nonce l : List B)
def tz (j : Nat) : List B:=fK key ctr nonce (l.take j)++List.replicate (l.length - j) 0
theorem Bz (j : Nat) (h : j≤l.length) : ((tz key ctr nonce l j).map U8).length=l.length:=by simp [tz,dZ];omega
theorem FB : List.replicate (l.length * 1) (Value.int .u8 0)=(tz key ctr nonce l (min (64 * 0) l.length)).map U8:=by simp [tz,fK,hO,U8]
theorem Ie : tz key ctr nonce l l.length=fK key ctr nonce l:=by simp [tz]
theorem Ig (q i : Nat) (hi : i<64) (h : 64 * q+i<l.length) : ((tz key ctr nonce l (64 * q+i)).map U8).set (64 * q+i) (U8 (l.getD (64 * q+i) 0 ^^^ (ks key (ctr+BitVec.ofNat 32 q) nonce).getD i 0))=(tz key ctr nonce l (64 * q+i+1)).map U8:=by
  rw [← GS key ctr nonce q i hi]
  generalize 64 * q+i=j at h ⊢
  have hl : (fK key ctr nonce (l.take j)).length=j:=by rw [dZ,List.length_take];omega
  rw [← List.map_set,tz,List.set_append_right _ _ (by omega),hl,Nat.sub_self,tz,tG key ctr nonce l j h,show l.length - j=(l.length - (j+1))+1 by omega,List.replicate_succ,List.set_cons_zero]
  simp
theorem Ds (q : Nat) : ctr+BitVec.ofNat 32 q+1#32=ctr+BitVec.ofNat 32 (q+1):=by rw [BitVec.add_assoc,BitVec.ofNat_add]
end
set_option maxHeartbeats 16000000 in
set_option maxRecDepth 4000 in
theorem BA (key : List B) (ctr : W) (nonce : List B) (s : aM) (hk : key.length=32) (hn : nonce.length=12) (w : World) (hQ : GQ w) (hs : s.ok w) (hsl : s.l.length<140737488355328) :
    Calls Tryz.prog 59 [.agg (key.map U8).toArray,aF ctr,.agg (nonce.map U8).toArray,s.v].toArray w fun e w'=>∃ b,e=.returned (.slice (some ⟨b,0,none⟩) s.l.length s.l.length)∧ah w [] [⟨b,Row 5 ((fK key ctr nonce s.l).map U8),true⟩] w':=by
  refine enter (n:=60) Tryz.func59 rfl rfl rfl (ah.start w []) ?_
  repeat (first | refine JC.seq ?_ | refine JC.region ?_)
  refine JL.box (r:=key.map U8) rfl rfl rfl fun b4 _=>?_
  refine JL.box (r:=nonce.map U8) rfl rfl rfl fun b6 _=>?_
  repeat (first | refine JL.q (by first|(apply OQ.af (cs:=key.map U8);exact mS;exact eV;rfl;exact (.there .here);exact (by simpa using hk);exact Row.all)|(apply OQ.af (cs:=nonce.map U8);exact GX;exact GW;rfl;exact .here;exact (by simpa using hn);exact Row.all)|(apply OQ.au;exact rI;rfl;exact (fun w' _=>sU key ctr nonce hk hn w'))|(apply OQ.move;rfl)|(apply OQ.assign;rfl)) rfl ?_ | refine JC.seq ?_ | refine JC.region ?_ | refine JL.nil ?_ | refine JE.next ?_)
  refine JL.alloc Fs rfl fun b9 _=>?_
  have hbl : ∀ c,((dm key c nonce).map aF).length=16:=fun c=>by rw [List.length_map,gL]
  refine JL.ag yM rfl rfl (hbl _) (jn _) .here (by simp) ?_
  repeat (first | refine JL.q (by first|(apply OQ.move;rfl)|(apply OQ.len;rfl;rfl)) rfl ?_ | refine JC.seq ?_ | refine JC.region ?_ | refine JL.nil ?_ | refine JE.next ?_)
  refine JL.make Tryz.underlying27 e5 rfl (by decide) (c:=s.l.length) rfl rfl (by omega) (by omega) rfl fun b10 _=>?_
  rw [FB key ctr nonce]
  repeat (first | refine JL.q (by (apply OQ.assign;rfl)) rfl ?_ | refine JC.seq ?_ | refine JC.region ?_ | refine JC.block ?_ | refine JL.nil ?_ | refine JE.next ?_)
  refine JC.loop (fun q : Nat=>[(3,s.v),(9,Pt b9 0),(10,.slice (some ⟨b10,0,none⟩) s.l.length s.l.length),(11,N (64 * q))])
    (fun q=>[⟨b10,Row 5 ((tz key ctr nonce s.l (min (64 * q) s.l.length)).map U8),true⟩,⟨b9,Row 131 ((dm key (ctr+BitVec.ofNat 32 q) nonce).map aF),true⟩])
    (fun q=>s.l.length+64 - 64 * q) (fun q=>64 * q<s.l.length+64) 0 (by omega) (by repeat (first | exact ai.nil | refine ai.cons _ _ _ rfl ?_)) (.keep _ _ _ _ _ _ (fun _ h=>h) (.keep _ _ _ _ _ _ (fun o ho=>by simpa using ho) (aq.nil _))) ?_
  intro q hq
  repeat (first | refine JL.q (by first|(apply OQ.move;rfl)|(apply OQ.len;rfl;rfl)|(apply OQ.bJ;rfl;rfl)) rfl ?_ | refine JC.seq ?_ | refine JC.region ?_ | refine JL.nil ?_ | refine JE.next ?_)
  refine JC.cond rfl (fun h=>?_) (fun h=>?_)
  · have hq' : 64 * q<s.l.length:=of_decide_eq_true h
    clear h hq
    obtain ⟨bb,jb,hae,hcell⟩:=hs.reads.at (by simp;omega)
    have hav : s.v=.slice (some ⟨bb,jb,none⟩) s.l.length s.cap:=by rw [← hae];rfl
    have hcap:=hs.len
    have hksl : ((ks key (ctr+BitVec.ofNat 32 q) nonce).map U8).length=64:=by rw [List.length_map,o9]
    repeat (first | refine JL.q (by first|(apply OQ.af (cs:=(dm key (ctr+BitVec.ofNat 32 q) nonce).map aF);exact Fq;exact yM;rfl;exact (.there .here);exact (hbl _);exact Row.all)|(apply OQ.au;exact yN;rfl;exact (fun w' hw'=>Bu (dm key (ctr+BitVec.ofNat 32 q) nonce) (gL _ _ _) w' (hQ.aL hw'.aL (by simp))))) rfl ?_ | refine JC.seq ?_ | refine JC.region ?_ | refine JC.block ?_ | refine JC.skip ?_ | refine JE.next ?_)
    refine JL.alloc Ia rfl fun b12 _=>?_
    refine JL.ag x5 rfl rfl hksl (dL _) .here (by simp) ?_
    rw [hav]
    obtain ⟨c,hc⟩ : ∃ c,c=min (64 * q+64) s.l.length - 64 * q:=⟨_,rfl⟩
    have hc1 : c≤64:=by omega
    have hc2 : 64 * q+c≤s.l.length:=by omega
    repeat (first | refine JL.q (by first|(apply OQ.Li;rfl;rfl)|(apply OQ.Ic;exact Tryz.underlying27;exact s5;rfl;rfl;rfl;exact (by (try simp only []);omega);exact (by (try simp only []);omega);exact (by (try simp only []);omega))|(apply OQ.move;rfl)|(apply OQ.len;rfl;rfl)|(apply OQ.aY;rfl;rfl;exact (by (try simp only []);omega))) rfl ?_ | refine JC.seq ?_ | refine JC.region ?_ | refine JC.block ?_ | refine JL.nil ?_ | refine JE.next ?_)
    rw [← hc,Nat.min_eq_left (by omega : 64 * q≤s.l.length)]
    refine JC.loop (fun i : Nat=>[(3,.slice (some ⟨bb,jb,none⟩) s.l.length s.cap),(9,Pt b9 0),(10,.slice (some ⟨b10,0,none⟩) s.l.length s.l.length),(11,N (64 * q)),(12,Pt b12 0),(37,.slice (some ⟨bb,jb+64 * q,none⟩) c (s.cap - 64 * q)),(38,N c),(39,N i)])
      (fun i=>[⟨b12,Row 128 ((ks key (ctr+BitVec.ofNat 32 q) nonce).map U8),true⟩,⟨b10,Row 5 ((tz key ctr nonce s.l (64 * q+i)).map U8),true⟩,⟨b9,Row 131 ((dm key (ctr+BitVec.ofNat 32 q) nonce).map aF),true⟩])
      (fun i=>c - i) (fun i=>i≤c) 0 (by omega) (by repeat (first | exact ai.nil | refine ai.cons _ _ _ rfl ?_)) (aq.refl _) ?_
    intro i hi
    repeat (first | refine JL.q (by (apply OQ.bJ;rfl;rfl)) rfl ?_ | refine JC.seq ?_ | refine JC.region ?_ | refine JL.nil ?_ | refine JE.next ?_)
    refine JC.cond rfl (fun h=>?_) (fun h=>?_)
    · have hi' : i<c:=of_decide_eq_true h
      clear h hi
      have hci : w.cell? ⟨bb,jb+64 * q+i,none⟩=some (U8 (s.l.getD (64 * q+i) 0)):=by
        rw [Nat.add_assoc]
        exact hcell _ _ (dj U8 0 (by omega))
      repeat (first | refine JL.q (by first|(apply OQ.gN;exact Tryz.underlying27;exact s5;rfl;rfl;exact hi')|(apply OQ.bQ;exact c5;rfl;exact (block_lt_of_cell hci);exact (by simp);exact hci)|(apply OQ.aD;exact Tryz.underlying128;exact s5;rfl;rfl;exact (by (try simp only []);omega))|(apply OQ.load;exact c5;rfl;exact .here;exact (Row.cell (dj U8 0 (by rw [o9];omega))))|(apply OQ.iY;exact Tryz.underlying27;exact s5;rfl;rfl;exact (show 64 * q+i<s.l.length by omega))|(apply OQ.move;rfl)|(apply OQ.assign;rfl)|(apply OQ.A2;rfl;rfl)|(apply OQ.aY;rfl;rfl;exact (by (try simp only []);omega))) rfl ?_ | refine JC.seq ?_ | refine JC.region ?_ | refine JC.block ?_ | refine JC.skip ?_ | refine JL.nil ?_ | refine JE.next ?_)
      refine JL.az s5 rfl rfl rfl rfl (.there .here) (by rw [Bz _ _ _ _ _ (by omega)];omega) (Ig key ctr nonce s.l q i (by omega) (by omega)) ?_
      repeat (first | refine JL.q (by first|(apply OQ.move;rfl)|(apply OQ.aY;rfl;rfl;exact (by (try simp only []);omega))) rfl ?_ | refine JC.region ?_ | refine JL.nil ?_ | refine JE.next ?_ | refine JE.an ?_)
      exact JE.again (i:=i) (i+1) (by omega) (by omega) (by repeat (first | exact ai.nil | refine ai.cons _ _ _ rfl ?_)) (aq.refl _)
    · have hi' : ¬ i<c:=of_decide_eq_false h
      obtain rfl : i=c:=by omega
      clear h hi hi'
      have hg : ((dm key (ctr+BitVec.ofNat 32 q) nonce).map aF)[12]?=some (aF (ctr+BitVec.ofNat 32 q)):=by
        have:=m9 (s:=dm key (ctr+BitVec.ofNat 32 q) nonce) (j:=12) (by rw [gL];decide)
        rwa [yw] at this
      have hset : ((dm key (ctr+BitVec.ofNat 32 q) nonce).map aF).set 12 (aF (ctr+BitVec.ofNat 32 q+1#32))=(dm key (ctr+BitVec.ofNat 32 (q+1)) nonce).map aF:=by
        rw [← List.map_set,yu,Ds]
      rw [← hav]
      repeat (first | refine JL.q (by first|(apply OQ.aD;exact Tryz.underlying131;exact qe;rfl;rfl;exact (by decide))|(apply OQ.load;exact z5;rfl;exact (.there (.there .here));exact (Row.cell hg))|(apply OQ.fA (b:=1#32);rfl;rfl)) rfl ?_ | refine JC.region ?_ | refine JC.exit ?_ | refine JE.next ?_ | refine JE.ax ?_ | refine JE.aA ?_)
      refine JL.az qe rfl rfl rfl rfl (.there (.there .here)) (by rw [hbl];decide) hset ?_
      repeat (first | refine JL.q (by first|(apply OQ.move;rfl)|(apply OQ.assign;rfl)|(apply OQ.aY;rfl;rfl;exact (by (try simp only []);omega))) rfl ?_ | refine JC.region ?_ | refine JL.nil ?_ | refine JE.next ?_ | refine JE.an ?_)
      rw [show 64 * q+64=64 * (q+1) by omega]
      exact JE.again (i:=q) (q+1) (by omega) (by omega) (by repeat (first | exact ai.nil | refine ai.cons _ _ _ rfl ?_)) (.drop _ _ _ (.keep _ _ _ _ _ _ (fun o ho=>by rw [show min (64 * (q+1)) s.l.length=64 * q+i by omega];exact ho) (aq.refl _)))
  · have hq' : ¬ 64 * q<s.l.length:=of_decide_eq_false h
    clear h
    repeat (first | refine JL.q (by first|(apply OQ.move;rfl)|(apply OQ.assign;rfl)) rfl ?_ | refine JC.seq ?_ | refine JC.region ?_ | refine JC.exit ?_ | refine JL.nil ?_ | refine JE.next ?_ | refine JE.ax ?_ | refine JE.aA ?_)
    refine JC.ret ?_
    skip
    refine JE.aQ rfl (RV.tmp rfl) fun w' hw=>⟨b10,rfl,hw.weak (.keep _ _ _ _ _ _ (fun o ho=>?_) (aq.nil _))⟩
    rw [Nat.min_eq_right (by omega),Ie] at ho
    exact ho
end
section
set_option maxRecDepth 10000
open Sl g5 lz
theorem yQ : aK Tryz.prog 47:=⟨_,Tryz.func47,rfl,by kernel_rfl⟩
def J7 : Nat→List (Nat × Nat)
  | 3=>[(1,42),(2,43)]
  | 4=>[(3,44)]
  | 8=>[(6,47),(7,48)]
  | 9=>[(5,46),(8,49)]
  | 10=>[(9,50)]
  | 11=>[(4,45),(10,51)]
  | 12=>[(11,52)]
  | 13=>[(0,41),(12,53)]
  | 14=>[(13,54)]
  | _=>[]
def LQ : Nat→List Nat
  | 10=>[15]
  | 13=>[16,12]
  | _=>[]
def LR : Nat→List Nat
  | 13=>[16]
  | _=>[]
def LS : Nat→Option Nat
  | 14=>some 13
  | _=>none
set_option maxHeartbeats 16000000 in
set_option maxRecDepth 8000 in
theorem BC (key : List B) (ctr : W) (nonce : List B) (s : aM) (hk : key.length=32) (hn : nonce.length=12) (w : World) (hs : s.ok w) (hsl : s.l.length<35184372088832) :
    Calls Tryz.prog 47 [.agg (key.map U8).toArray,aF ctr,.agg (nonce.map U8).toArray,s.v].toArray w fun e w'=>∃ x : Nat × Nat,e=.returned (.slice (some ⟨x.1,0,none⟩) s.l.length x.2)∧ah w [] [⟨x.1,Sl.aE 5 1 s.l.length x.2 ((fK key ctr nonce s.l).map U8),true⟩] w':=by
  refine enter (n:=56) Tryz.func47 rfl rfl rfl (ah.start w []) ?_
  repeat (first | refine JC.seq ?_ | refine JC.region ?_)
  refine JL.box (r:=key.map U8) rfl rfl rfl fun b4 _=>?_
  refine JL.box (r:=nonce.map U8) rfl rfl rfl fun b6 _=>?_
  repeat (first | refine JL.q (by (apply OQ.assign;rfl)) rfl ?_ | refine JC.seq ?_ | refine JC.region ?_ | refine JL.nil ?_ | refine JE.next ?_)
  refine JL.uF Tryz.underlying27 e5 rfl fun b9 _=>?_
  repeat (first | refine JL.q (by (apply OQ.assign;rfl)) rfl ?_ | refine JC.seq ?_ | refine JC.region ?_ | refine JC.block ?_ | refine JL.nil ?_ | refine JE.next ?_)
  refine JC.loop (ι:=Nat × Nat × Nat) (fun i=>[(1,aF ctr),(3,s.v),(4,Pt b4 0),(6,Pt b6 0),(9,.slice (some ⟨i.2.1,0,none⟩) (min (64 * i.1) s.l.length) i.2.2),(10,N (64 * i.1))])
    (fun i=>[⟨i.2.1,Sl.aE 5 1 (min (64 * i.1) s.l.length) i.2.2 ((fK key ctr nonce (s.l.take (min (64 * i.1) s.l.length))).map U8),true⟩,⟨b6,Row 72 (nonce.map U8),true⟩,⟨b4,Row 23 (key.map U8),true⟩])
    (fun i=>s.l.length+64 - 64 * i.1) (fun i=>64 * i.1<s.l.length+64) (0,b9,0) (by dsimp only;omega) ?_ (.keep _ _ _ _ _ _ (fun o ho=>by simpa [fK,hO] using ho) (aq.refl _)) ?_
  · dsimp only
    rw [show min (64 * 0) s.l.length=0 by omega]
    exact (by repeat (first | exact ai.nil | refine ai.cons _ _ _ rfl ?_))
  rintro ⟨q,b9,cap9⟩ hq
  dsimp only at hq ⊢
  repeat (first | refine JL.q (by first|(apply OQ.move;rfl)|(apply OQ.len;rfl;rfl)|(apply OQ.bJ;rfl;rfl)) rfl ?_ | refine JC.seq ?_ | refine JC.region ?_ | refine JL.nil ?_ | refine JE.next ?_)
  refine JC.cond rfl (fun h=>?_) (fun h=>?_)
  · have hq' : 64 * q<s.l.length:=of_decide_eq_true h
    clear h hq
    obtain ⟨bb,jb,hae,hcell⟩:=hs.reads.at (by simp;omega)
    have hav : s.v=.slice (some ⟨bb,jb,none⟩) s.l.length s.cap:=by rw [← hae];rfl
    have hcap:=hs.len
    rw [Nat.min_eq_left (by omega : 64 * q≤s.l.length)]
    repeat (first | refine JL.q (by first|(apply OQ.af (cs:=key.map U8);exact mS;exact eV;rfl;exact (.there (.there .here));exact (by simpa using hk);exact Row.all)|(apply OQ.af (cs:=nonce.map U8);exact GX;exact GW;rfl;exact (.there .here);exact (by simpa using hn);exact Row.all)|(apply OQ.CS;rfl;rfl;rfl)|(apply OQ.move;rfl)|(apply OQ.fA;rfl;rfl)|(apply OQ.CE;rfl;rfl;exact (by (try simp only []);omega);exact (by (try simp only []);omega))) rfl ?_ | refine JC.seq ?_ | refine JC.region ?_ | refine JC.block ?_ | refine JC.skip ?_ | refine JE.next ?_)
    rw [Nat.mul_div_cancel_left q (by decide)]
    refine JL.bX (ι:=Nat × Nat) (fun x=>.slice (some ⟨x.1,0,none⟩) 64 x.2) (fun x=>[⟨x.1,Sl.aE 5 1 64 x.2 ((ks key (ctr+BitVec.ofNat 32 q) nonce).map U8),true⟩]) wS rfl rfl (fun i=>by simp) (fun w' _=>yP key (ctr+BitVec.ofNat 32 q) nonce hk hn w') ?_
    rintro ⟨b11,cap11⟩
    dsimp only
    repeat (first | refine JL.q (by first|(apply OQ.move;rfl)|(apply OQ.assign;rfl)) rfl ?_ | refine JC.seq ?_ | refine JC.region ?_ | refine JC.block ?_ | refine JL.nil ?_ | refine JE.next ?_)
    rw [hav]
    have hsucc:=fun i (hi : i<64) (h : 64 * q+i<s.l.length)=>(tG key ctr nonce s.l (64 * q+i) h).trans (by rw [GS key ctr nonce q i hi])
    have hksl:=o9 key (ctr+BitVec.ofNat 32 q) nonce
    generalize ks key (ctr+BitVec.ofNat 32 q) nonce=kk0 at hsucc hksl
    obtain ⟨c,hc⟩ : ∃ c,c=min (64 * q+64) s.l.length - 64 * q:=⟨_,rfl⟩
    refine JC.loop (ι:=Nat × Nat × Nat) (fun i=>[(1,aF ctr),(3,.slice (some ⟨bb,jb,none⟩) s.l.length s.cap),(4,Pt b4 0),(6,Pt b6 0),(9,.slice (some ⟨i.2.1,0,none⟩) (64 * q+i.1) i.2.2),(10,N (64 * q)),(11,.slice (some ⟨b11,0,none⟩) 64 cap11),(12,N (64 * q+i.1))])
      (fun i=>[⟨b11,Sl.aE 5 1 64 cap11 (kk0.map U8),true⟩,⟨i.2.1,Sl.aE 5 1 (64 * q+i.1) i.2.2 ((fK key ctr nonce (s.l.take (64 * q+i.1))).map U8),true⟩,⟨b6,Row 72 (nonce.map U8),true⟩,⟨b4,Row 23 (key.map U8),true⟩])
      (fun i=>c - i.1) (fun i=>i.1≤c) (0,b9,cap9) (by dsimp only;omega) (by repeat (first | exact ai.nil | refine ai.cons _ _ _ rfl ?_)) (aq.refl _) ?_
    rintro ⟨i,b9,cap9⟩ hi
    dsimp only at hi ⊢
    by_cases h : i<c
    · have h1 : 64 * q+i<64 * q+64:=by omega
      have h2 : 64 * q+i<s.l.length:=by omega
      have hi64 : i<64:=by omega
      have hx:=hsucc i hi64 h2
      have hci : w.cell? ⟨bb,jb+(64 * q+i),none⟩=some (U8 (s.l.getD (64 * q+i) 0)):=hcell _ _ (dj U8 0 h2)
      have hsub : 64 * q+i - 64 * q=i:=by omega
      repeat (first | refine JL.q (by first|(apply OQ.g9;rfl;rfl;exact h1)|(apply OQ.g9;rfl;rfl;exact h2)|(apply OQ.eP;rfl;rfl)|(apply OQ.move;rfl)|(apply OQ.len;rfl;rfl)|(apply OQ.aY;rfl;rfl;exact (by (try simp only []);omega))) rfl ?_ | refine JC.seq ?_ | refine JC.region ?_ | refine JL.nil ?_ | refine JE.next ?_ | refine JL.aU rfl rfl ?_)
      refine JC.cond_true rfl rfl ?_
      repeat (first | refine JC.seq ?_ | refine JC.block ?_ | refine JC.skip ?_ | refine JE.next ?_)
      let vs : Nat→X→Value:=fun j x=>match j with
        | 0=>.slice (some ⟨b9,0,none⟩) (64 * q+i) cap9
        | 1=>.slice (some ⟨bb,jb,none⟩) s.l.length s.cap
        | 2=>N (64 * q+i)
        | 3=>Pt bb (jb+(64 * q+i))
        | 4=>U8 (s.l.getD (64 * q+i) 0)
        | 5=>.slice (some ⟨b11,0,none⟩) 64 cap11
        | 6=>N (64 * q+i)
        | 7=>N (64 * q)
        | 8=>N (64 * q+i - 64 * q)
        | 9=>Pt b11 (64 * q+i - 64 * q)
        | 10=>U8 (kk0.getD i 0)
        | 11=>U8 (s.l.getD (64 * q+i) 0 ^^^ kk0.getD i 0)
        | 12=>.slice (some ⟨x.1,0,none⟩) 1 1
        | _=>.slice (some ⟨x.1,0,none⟩) (64 * q+i+1) x.2
      let Ms : Nat→X→List aG:=fun j x=>match j with
        | 12=>[⟨x.1,Row 5 [U8 (s.l.getD (64 * q+i) 0 ^^^ kk0.getD i 0)],true⟩]
        | 13=>[⟨x.1,Sl.aE 5 1 (64 * q+i+1) x.2 ((fK key ctr nonce (s.l.take (64 * q+i))).map U8++[U8 (s.l.getD (64 * q+i) 0 ^^^ kk0.getD i 0)]),true⟩]
        | 15=>[⟨b11,Sl.aE 5 1 64 cap11 (kk0.map U8),true⟩]
        | 16=>[⟨b9,Sl.aE 5 1 (64 * q+i) cap9 ((fK key ctr nonce (s.l.take (64 * q+i))).map U8),true⟩]
        | 17=>[⟨b6,Row 72 (nonce.map U8),true⟩,⟨b4,Row 23 (key.map U8),true⟩]
        | _=>[]
      refine JC.GI (g:=⟨[(1,aF ctr),(3,.slice (some ⟨bb,jb,none⟩) s.l.length s.cap),(4,Pt b4 0),(6,Pt b6 0),(10,N (64 * q)),(11,.slice (some ⟨b11,0,none⟩) 64 cap11),(12,N (64 * q+i))],18,vs,Ms,J7,LQ,LR,LS,fun j=>match j with | 0=>[(9,.slice (some ⟨b9,0,none⟩) (64 * q+i) cap9)] | _=>[]⟩) [(14,9)] [15,13,17] rF (by repeat (first | exact ai.nil | refine ai.cons _ _ _ rfl ?_)) (fun j _=>match j with | 0=>(by repeat (first | exact ai.nil | refine ai.cons _ _ _ rfl ?_)) | _+1=>.nil) (aq.refl _) (by kernel_rfl) (by kernel_rfl) (by kernel_rfl) ?_ ?_
      · refine ⟨?_,?_,?_,?_,?_,?_,?_,?_,?_,?_,?_,?_,?_,?_,?_,trivial⟩
        iterate 12 (focus (intro x EF MF Q kk;(try refine JL.aU rfl rfl ?_);exact JL.q (by first|(apply OQ.gN (b:=bb);exact Tryz.underlying27;exact s5;rfl;rfl;exact h2)|(apply OQ.bQ;exact c5;rfl;exact (block_lt_of_cell hci);exact (by simp);exact hci)|(apply OQ.iY (b:=b11);exact Tryz.underlying27;exact s5;rfl;rfl;exact (by rw [hsub];exact hi64))|(apply OQ.load;exact c5;rfl;exact .here;exact (Sl.aE.cell (by rw [hsub];exact dj U8 0 (by omega))))|(apply OQ.move;rfl)|(apply OQ.A2;rfl;rfl)|(apply OQ.jk;rfl;rfl;exact (by (try simp only []);omega);exact (by (try simp only []);omega))) rfl (JL.nil (kk default nofun))))
        · intro x EF MF Q kk
          exact JL.fC Tryz.underlying27 e5 rfl rfl rfl rfl fun b _=>JL.nil (kk (b,0) nofun)
        · intro x EF MF Q kk
          refine JL.append (cs:=[U8 (s.l.getD (64 * q+i) 0 ^^^ kk0.getD i 0)]) (fun b' cap'=>⟨b',Sl.aE 5 1 (64 * q+i+1) cap' ((fK key ctr nonce (s.l.take (64 * q+i))).map U8++[U8 (s.l.getD (64 * q+i) 0 ^^^ kk0.getD i 0)]),true⟩::⟨(x 12).1,Row 5 [U8 (s.l.getD (64 * q+i) 0 ^^^ kk0.getD i 0)],true⟩::MF) Tryz.underlying27 e5 rfl rfl (fun _ _=>.here) rfl (fun w' hw'=>?_) (by simp [Value.oneCell']) rfl (by decide) (by omega) (by omega) rfl fun b' cap'=>JL.nil (kk (b',cap') nofun)
          obtain ⟨o,ho,hA⟩:=hw'.get (.there .here)
          exact Reads.block ho (Row.all _ hA)
        · intro x EF MF Q kk
          exact JL.q (OQ.assign rfl) rfl (JL.nil (kk (x 13) (fun k h=>by cases h;rfl)))
      · intro x hx'
        have h14:=hx' 14 13 (by decide) rfl
        show JE _ _ _ _ _ [(9,.slice (some ⟨(x 14).1,0,none⟩) (64 * q+i+1) (x 14).2),(1,aF ctr),(3,.slice (some ⟨bb,jb,none⟩) s.l.length s.cap),(4,Pt b4 0),(6,Pt b6 0),(10,N (64 * q)),(11,.slice (some ⟨b11,0,none⟩) 64 cap11),(12,N (64 * q+i))]
          [⟨b11,Sl.aE 5 1 64 cap11 (kk0.map U8),true⟩,⟨(x 13).1,Sl.aE 5 1 (64 * q+i+1) (x 13).2 ((fK key ctr nonce (s.l.take (64 * q+i))).map U8++[U8 (s.l.getD (64 * q+i) 0 ^^^ kk0.getD i 0)]),true⟩,⟨b6,Row 72 (nonce.map U8),true⟩,⟨b4,Row 23 (key.map U8),true⟩]
        rw [h14]
        obtain ⟨b9',cap9'⟩:=x 13
        clear hx' h14 x vs Ms
        dsimp only
        rw [show (fK key ctr nonce (s.l.take (64 * q+i))).map U8++[U8 (s.l.getD (64 * q+i) 0 ^^^ kk0.getD i 0)]=(fK key ctr nonce (s.l.take (64 * q+i+1))).map U8 by rw [hx];simp,Nat.add_assoc (64 * q) i 1]
        repeat (first | refine JL.q (by first|(apply OQ.move;rfl)|(apply OQ.assign;rfl)|(apply OQ.aY;rfl;rfl;exact (by (try simp only []);omega))) rfl ?_ | refine JC.region ?_ | refine JL.nil ?_ | refine JE.next ?_ | refine JE.an ?_)
        exact JE.again (ι:=Nat × Nat × Nat) (i:=(i,b9,cap9)) (i+1,b9',cap9') (by dsimp only;omega) (by dsimp only;omega) (by repeat (first | exact ai.nil | refine ai.cons _ _ _ rfl ?_)) (aq.refl _)
    · have hi' : i=c:=by omega
      subst hi'
      rw [← hav]
      have hm : min (64 * (q+1)) s.l.length=64 * q+i:=by omega
      by_cases h1 : 64 * q+i<64 * q+64
      · have h2 : ¬ 64 * q+i<s.l.length:=by omega
        repeat (first | refine JL.q (by first|(apply OQ.g9;rfl;rfl;exact h1)|(apply OQ.gu;rfl;rfl;exact h2)|(apply OQ.eP;rfl;rfl)|(apply OQ.move;rfl)|(apply OQ.len;rfl;rfl)|(apply OQ.aY;rfl;rfl;exact (by (try simp only []);omega))) rfl ?_ | refine JC.seq ?_ | refine JC.region ?_ | refine JL.nil ?_ | refine JE.next ?_ | refine JL.aU rfl rfl ?_)
        refine JC.cond_false rfl rfl ?_
        repeat (first | refine JL.q (by first|(apply OQ.move;rfl)|(apply OQ.assign;rfl)|(apply OQ.aY;rfl;rfl;exact (by (try simp only []);omega))) rfl ?_ | refine JC.region ?_ | refine JC.exit ?_ | refine JL.nil ?_ | refine JE.next ?_ | refine JE.an ?_ | refine JE.ax ?_ | refine JE.aA ?_)
        rw [show 64 * q+64=64 * (q+1) by omega]
        refine JE.again (ι:=Nat × Nat × Nat) (i:=(q,b9,cap9)) (q+1,b9,cap9) (by dsimp only;omega) (by dsimp only;omega) ?_ (.drop _ _ _ (by dsimp only;rw [hm];exact aq.refl _))
        dsimp only
        rw [hm]
        exact (by repeat (first | exact ai.nil | refine ai.cons _ _ _ rfl ?_))
      · repeat (first | refine JL.q (by first|(apply OQ.gu;rfl;rfl;exact h1)|(apply OQ.dK;rfl;rfl)|(apply OQ.move;rfl)|(apply OQ.aY;rfl;rfl;exact (by (try simp only []);omega))) rfl ?_ | refine JC.seq ?_ | refine JC.region ?_ | refine JL.nil ?_ | refine JE.next ?_ | refine JL.iX rfl rfl rfl rfl ?_)
        refine JC.cond_false rfl rfl ?_
        repeat (first | refine JL.q (by first|(apply OQ.move;rfl)|(apply OQ.assign;rfl)|(apply OQ.aY;rfl;rfl;exact (by (try simp only []);omega))) rfl ?_ | refine JC.region ?_ | refine JC.exit ?_ | refine JL.nil ?_ | refine JE.next ?_ | refine JE.an ?_ | refine JE.ax ?_ | refine JE.aA ?_)
        rw [show 64 * q+64=64 * (q+1) by omega]
        refine JE.again (ι:=Nat × Nat × Nat) (i:=(q,b9,cap9)) (q+1,b9,cap9) (by dsimp only;omega) (by dsimp only;omega) ?_ (.drop _ _ _ (by dsimp only;rw [hm];exact aq.refl _))
        dsimp only
        rw [hm]
        exact (by repeat (first | exact ai.nil | refine ai.cons _ _ _ rfl ?_))
  · have hq' : ¬ 64 * q<s.l.length:=of_decide_eq_false h
    clear h
    rw [Nat.min_eq_right (by omega),List.take_length]
    repeat (first | refine JL.q (by first|(apply OQ.move;rfl)|(apply OQ.assign;rfl)) rfl ?_ | refine JC.seq ?_ | refine JC.region ?_ | refine JC.exit ?_ | refine JL.nil ?_ | refine JE.next ?_ | refine JE.ax ?_ | refine JE.aA ?_)
    refine JC.ret ?_
    skip
    exact JE.aQ rfl (RV.tmp rfl) fun w' hw=>⟨(b9,cap9),rfl,hw.weak (.keep _ _ _ _ _ _ (fun _ h=>h) (aq.nil _))⟩
end
section
set_option maxRecDepth 10000
open Sl g5 lz
theorem tW (key : List B) (ctr : W) (nonce : List B) (s : aM) {va : Value} (hva : s.v=va) (hk : key.length=32) (hn : nonce.length=12) (w : World) (hQ : GQ w) (hs : s.ok w) (hsl : s.l.length<140737488355328) :
    Calls Tryz.prog 59 [.agg (key.map U8).toArray,aF ctr,.agg (nonce.map U8).toArray,va].toArray w fun e w'=>∃ b,e=.returned (.slice (some ⟨b,0,none⟩) s.l.length s.l.length)∧ah w [] [⟨b,Sl.aE 5 1 s.l.length s.l.length ((fK key ctr nonce s.l).map U8),true⟩] w':=by
  subst hva
  exact (BA key ctr nonce s hk hn w hQ hs hsl).mono fun e w' ⟨b,h1,h2⟩=>⟨b,h1,h2.weak (.keep _ _ _ _ _ _ (j7 (by simp [dZ])) (aq.nil _))⟩
theorem yR (key : List B) (ctr : W) (nonce : List B) (s : aM) {va : Value} (hva : s.v=va) (hk : key.length=32) (hn : nonce.length=12) (w : World) (hs : s.ok w) (hsl : s.l.length<35184372088832) :
    Calls Tryz.prog 47 [.agg (key.map U8).toArray,aF ctr,.agg (nonce.map U8).toArray,va].toArray w fun e w'=>∃ x : Nat × Nat,e=.returned (.slice (some ⟨x.1,0,none⟩) s.l.length x.2)∧ah w [] [⟨x.1,Sl.aE 5 1 s.l.length x.2 ((fK key ctr nonce s.l).map U8),true⟩] w':=by
  subst hva
  exact BC key ctr nonce s hk hn w hs hsl
end
section
set_option maxRecDepth 10000
open Sl g5 lz
def qf (a1 a2 nonce side p : List B) : List B:=fK a1 1#32 nonce p++bS a2 (msg nonce side (fK a1 1#32 nonce p))
def gP (a1 a2 nonce side z : List B) : List B × Nat:=
  if z.length<32 then ([],3) else if bS a2 (msg nonce side (z.take (z.length - 32)))=z.drop (z.length - 32) then (fK a1 1#32 nonce (z.take (z.length - 32)),0) else ([],10)
theorem z7 (k b : List B) : (bS k b).length=32:=rfl
theorem j8 (a1 a2 nonce side p : List B) : (qf a1 a2 nonce side p).length=p.length+32:=by rw [qf,List.length_append,dZ,z7]
theorem BD : aK Tryz.prog 38:=⟨_,Tryz.func38,rfl,by kernel_rfl⟩
theorem BE : aK Tryz.prog 43:=⟨_,Tryz.func43,rfl,by kernel_rfl⟩
theorem Dt {nonce : List B} {s c : aM} {vc : Value} (hvc : c.v=vc) (hn : nonce.length=12) {w : World} (hs : s.ok w) (hc : c.ok w) (hsl : s.l.length<35184372088832) (hcl : c.l.length<35184372088832) :
    Calls Tryz.prog 60 [.agg (nonce.map U8).toArray,s.v,vc].toArray w fun e w'=>∃ x : Nat × Nat,e=.returned (.slice (some ⟨x.1,0,none⟩) (msg nonce s.l c.l).length x.2)∧ah w [] [⟨x.1,Sl.aE 5 1 (msg nonce s.l c.l).length x.2 ((msg nonce s.l c.l).map U8),true⟩] w':=by
  subst hvc
  exact qd nonce s c hn w hs hc hsl hcl
theorem Du {w0 w : World} {S : List Nat} {M : List aG} {a2 m : List B} (ha : a2.length=32) (hml : m.length<1000000000) {b10 bL bm cm : Nat} (hw : ah w0 S M w) (hG : g7 w) (h1 : Has M b10 (Row 23 (a2.map U8)) true) (h2 : Has M bL (Row 27 [.slice (some ⟨bm,0,none⟩) m.length cm]) true) (h3 : Has M bm (Sl.aE 5 1 m.length cm (m.map U8)) true) :
    Calls Tryz.prog 57 [.slice (some ⟨b10,0,none⟩) 32 32,.slice (some ⟨bL,0,none⟩) 1 1].toArray w fun e w''=>e=.returned (.agg ((bS a2 m).map U8).toArray)∧Ext w w'':=by
  obtain ⟨o2,ho2,hA2⟩:=hw.get h2
  have:=ox ⟨some ⟨b10,0,none⟩,32,a2⟩ (some ⟨bL,0,none⟩) 1 [⟨some ⟨bm,0,none⟩,cm,m⟩] w hG (fL hw h1 rfl (Nat.le_of_eq ha)) (Reads.block ho2 (Row.all _ hA2)) (by simpa using fl hw h3) (show a2.length<4611686018427387904 by omega) (by simp) (by simp [total];omega)
  simpa [aM.v,ha] using this
def J8 : Nat→List (Nat × Nat)
  | 4=>[(1,24),(2,25),(3,26)]
  | 5=>[(4,27)]
  | 6=>[(0,23),(5,28)]
  | 8=>[(7,12),(6,29)]
  | _=>[]
def LU : Nat→List Nat
  | 1=>[12]
  | 4=>[9]
  | 5=>[4]
  | 6=>[5,10]
  | 8=>[7]
  | _=>[]
def J9 : Nat→List Nat
  | 5=>[4]
  | 8=>[7]
  | _=>[]
def Ka : Nat→Option Nat
  | 8=>some 7
  | _=>none
def Kb : Nat→List (Nat × Nat)
  | 4=>[(1,34),(2,35),(3,36)]
  | 5=>[(4,37)]
  | 6=>[(0,33),(5,38)]
  | 8=>[(7,14),(6,39)]
  | _=>[]
def LV : Nat→List Nat
  | 1=>[11]
  | 5=>[4]
  | 6=>[5,9]
  | 8=>[7]
  | _=>[]
set_option maxHeartbeats 4000000 in
set_option maxRecDepth 4000 in
theorem Dv (key nonce : List B) (s p : aM) (hk : key.length=32) (hn : nonce.length=12) (w : World) (hG : g7 w) (hQ : GQ w) (hs : s.ok w) (hp : p.ok w) (hsl : s.l.length<100000000) (hpl : p.l.length<100000000) :
    Calls Tryz.prog 38 [.agg (key.map U8).toArray,.agg (nonce.map U8).toArray,s.v,p.v].toArray w fun e w'=>∃ x : Nat × Nat,e=.returned (.slice (some ⟨x.1,0,none⟩) (p.l.length+32) x.2)∧ah w [] [⟨x.1,Sl.aE 5 1 (p.l.length+32) x.2 ((qf (k1 key) (k2 key) nonce s.l p.l).map U8),true⟩] w':=by
  have hTwo:=zY key hk
  have h1:=jH key
  have h2:=jI key
  generalize k1 key=a1 at hTwo h1 ⊢
  generalize k2 key=a2 at hTwo h2 ⊢
  have hTl:=dZ a1 1#32 nonce p.l
  have hT0:=fun w' (h : GQ w') (h' : p.ok w')=>tW a1 1#32 nonce p rfl h1 hn w' h h' (by omega)
  rw [qf]
  generalize fK a1 1#32 nonce p.l=T at hTl hT0 ⊢
  have hml:=iF nonce s.l T
  have hM0:=fun (w' : World) (b c : Nat) (hs' : s.ok w') (h : aM.ok w' ⟨some ⟨b,0,none⟩,c,T⟩)=>Dt (c:=⟨some ⟨b,0,none⟩,c,T⟩) (vc:=.slice (some ⟨b,0,none⟩) p.l.length c) (by simp [aM.v,hTl]) hn hs' h (show s.l.length<35184372088832 by omega) (show T.length<35184372088832 by omega)
  simp only [] at hM0
  rw [hn,hTl] at hml
  generalize msg nonce s.l T=m at hml hM0 ⊢
  refine enter (n:=40) Tryz.func38 rfl rfl rfl (ah.start w []) ?_
  repeat (first | refine JC.seq ?_ | refine JC.region ?_)
  refine JL.box (r:=key.map U8) rfl rfl rfl fun b4 _=>?_
  refine JL.box (r:=nonce.map U8) rfl rfl rfl fun b5 _=>?_
  repeat (first | refine JL.q (by first|(apply OQ.af (cs:=key.map U8);exact mS;exact eV;rfl;exact (.there .here);exact (by simpa using hk);exact Row.all)|(apply OQ.au;exact wO;rfl;exact (fun w' hw'=>hTwo w' (hG.aL hw'.aL (by simp))))|(apply OQ.extract;rfl;rfl)|(apply OQ.move;rfl)|(apply OQ.assign;rfl)) rfl ?_ | refine JC.seq ?_ | refine JC.region ?_ | refine JL.nil ?_ | refine JE.next ?_)
  refine JL.alloc fN rfl fun b9 _=>?_
  refine JL.alloc fN rfl fun b10 _=>?_
  skip
  refine JL.ag eV rfl rfl (by simpa using h1) (dL _) (.there .here) (by simp) ?_
  refine JL.ag eV rfl rfl (by simpa using h2) (dL _) .here (by simp) ?_
  repeat (first | refine JL.q (by first|(apply OQ.af (cs:=a1.map U8);exact mS;exact eV;rfl;exact (.there .here);exact (by simpa using h1);exact Row.all)|(apply OQ.af (cs:=nonce.map U8);exact GX;exact GW;rfl;exact (.there (.there .here));exact (by simpa using hn);exact Row.all)|(apply OQ.move;rfl)) rfl ?_ | refine JC.seq ?_ | refine JC.region ?_ | refine JL.nil ?_ | refine JE.next ?_)
  refine JL.bX (ι:=Nat) (fun b=>.slice (some ⟨b,0,none⟩) p.l.length p.l.length) (fun b=>[⟨b,Sl.aE 5 1 p.l.length p.l.length (T.map U8),true⟩]) rM rfl rfl (fun i=>by simp) (fun w' hw'=>hT0 w' (hQ.aL hw'.aL (by simp)) (hp.holds hw' rfl)) fun b11=>?_
  try dsimp only
  repeat (first | refine JL.q (by (apply OQ.assign;rfl)) rfl ?_ | refine JC.seq ?_ | refine JL.nil ?_ | refine JE.next ?_)
  let vs : Nat→X3→Value:=fun j x=>match j with
    | 0=>.slice (some ⟨b10,0,none⟩) 32 32
    | 1=>.agg (nonce.map U8).toArray
    | 2=>s.v
    | 3=>.slice (some ⟨b11,0,none⟩) p.l.length p.l.length
    | 4=>.slice (some ⟨x.1,0,none⟩) m.length x.2.1
    | 5=>.slice (some ⟨x.1,0,none⟩) 1 1
    | 6=>.agg ((bS a2 m).map U8).toArray
    | _=>Pt x.1 0
  let Ms : Nat→X3→List aG:=fun j x=>match j with
    | 4=>[⟨x.1,Sl.aE 5 1 m.length x.2.1 (m.map U8),true⟩]
    | 5=>[⟨x.1,Row 27 [.slice (some ⟨x.2.1,0,none⟩) m.length x.2.2],true⟩,⟨x.2.1,Sl.aE 5 1 m.length x.2.2 (m.map U8),true⟩]
    | 7=>[⟨x.1,Row 23 ((List.replicate 32 (0 : B)).map U8),true⟩]
    | 8=>[⟨x.1,Row 23 ((bS a2 m).map U8),true⟩]
    | 9=>[⟨b11,Sl.aE 5 1 p.l.length p.l.length (T.map U8),true⟩]
    | 10=>[⟨b10,Row 23 (a2.map U8),true⟩]
    | 11=>[⟨b9,Row 23 (a1.map U8),true⟩]
    | 12=>[⟨b5,Row 72 (nonce.map U8),true⟩]
    | 13=>[⟨b4,Row 23 (key.map U8),true⟩]
    | _=>[]
  refine JC.grow (g:=⟨[(2,s.v),(5,Pt b5 0),(10,Pt b10 0),(11,.slice (some ⟨b11,0,none⟩) p.l.length p.l.length)],14,vs,Ms,J8,LU,J9,Ka⟩) [(7,12)] [8,9] mixed (by repeat (first | exact ai.nil | refine ai.cons _ _ _ rfl ?_)) (aq.refl _) (by kernel_rfl) (by kernel_rfl) (by kernel_rfl) ?_ ?_
  · refine ⟨?_,?_,?_,?_,?_,?_,?_,?_,?_,trivial⟩
    iterate 4 (focus (intro x EF MF Q kk;(try refine JL.aU rfl rfl ?_);exact JL.q (by first|(apply OQ.jT;exact Tryz.underlying23;exact s5;rfl)|(apply OQ.af (cs:=nonce.map U8);exact GX;exact GW;rfl;exact .here;exact (by simpa using hn);exact Row.all)|(apply OQ.move;rfl)) rfl (JL.nil (kk default nofun))))
    · intro x EF MF Q kk
      exact JL.bX (ι:=Nat × Nat) (fun x=>.slice (some ⟨x.1,0,none⟩) m.length x.2) (fun x=>[⟨x.1,Sl.aE 5 1 m.length x.2 (m.map U8),true⟩]) oy rfl rfl (fun i=>by simp) (fun w' hw'=>hM0 w' b11 p.l.length (hs.holds hw' rfl) (fl hw' .here)) fun i=>JL.nil (kk (i.1,i.2,0) nofun)
    · intro x EF MF Q kk
      exact JL.fC Tryz.underlying53 wC rfl rfl rfl rfl fun b _=>JL.nil (kk (b,(x 4).1,(x 4).2.1) nofun)
    · intro x EF MF Q kk
      exact JL.q (OQ.au (vs:=[.slice (some ⟨b10,0,none⟩) 32 32,.slice (some ⟨(x 5).1,0,none⟩) 1 1]) fQ rfl fun w' hw'=>Du h2 (by omega) hw' (hG.aL hw'.aL (by simp)) (.there (.there .here)) .here (.there .here)) rfl (JL.nil (kk default nofun))
    · intro x EF MF Q kk
      exact JL.alloc fN rfl fun b _=>JL.nil (kk (b,0,0) nofun)
    · intro x EF MF Q kk
      exact JL.ag eV rfl rfl (dF _) (dL _) .here (by simp) (JL.nil (kk (x 7) (fun k h=>by cases h;rfl)))
  · intro x hx
    have h8:=hx 8 7 (by decide) rfl
    show JE _ _ _ _ _ [(12,Pt (x 7).1 0),(2,s.v),(5,Pt b5 0),(10,Pt b10 0),(11,.slice (some ⟨b11,0,none⟩) p.l.length p.l.length)] [⟨(x 8).1,Row 23 ((bS a2 m).map U8),true⟩,⟨b11,Sl.aE 5 1 p.l.length p.l.length (T.map U8),true⟩]
    rw [h8]
    generalize (x 7).1=b12
    clear hx h8 x vs Ms
    repeat (first | refine JL.q (by first|(apply OQ.move;rfl)|(apply OQ.len;rfl;rfl)|(apply OQ.aY;rfl;rfl;exact (by (try simp only []);omega))) rfl ?_ | refine JC.seq ?_ | refine JC.region ?_ | refine JE.next ?_)
    refine JL.CT (c:=p.l.length+32) Tryz.underlying27 e5 rfl rfl (by omega) rfl fun b13 _=>?_
    repeat (first | refine JL.q (by first|(apply OQ.move;rfl)|(apply OQ.assign;rfl)) rfl ?_ | refine JC.seq ?_ | refine JC.region ?_ | refine JL.nil ?_ | refine JE.next ?_)
    refine JL.append (cs:=T.map U8) (fun b' cap'=>[⟨b',Sl.aE 5 1 (0+p.l.length) cap' ([]++T.map U8),true⟩,⟨b12,Row 23 ((bS a2 m).map U8),true⟩,⟨b11,Sl.aE 5 1 p.l.length p.l.length (T.map U8),true⟩]) Tryz.underlying27 e5 rfl rfl (by intro _ _;repeat (first | exact aZ.here | apply aZ.there)) (by simpa using hTl) (fun w' hw'=>(fl hw' (.there (.there .here))).reads) (eu _) rfl (by decide) (by omega) (by omega) rfl fun b13 cap13=>?_
    rw [List.nil_append,Nat.zero_add]
    repeat (first | refine JL.q (by first|(apply OQ.jT;exact Tryz.underlying23;exact s5;rfl)|(apply OQ.move;rfl)|(apply OQ.assign;rfl)) rfl ?_ | refine JC.seq ?_ | refine JC.region ?_ | refine JL.nil ?_ | refine JE.next ?_)
    refine JL.append (cs:=(bS a2 m).map U8) (fun b' cap'=>[⟨b',Sl.aE 5 1 (p.l.length+32) cap' (T.map U8++(bS a2 m).map U8),true⟩,⟨b12,Row 23 ((bS a2 m).map U8),true⟩,⟨b11,Sl.aE 5 1 p.l.length p.l.length (T.map U8),true⟩]) Tryz.underlying27 e5 rfl rfl (by intro _ _;repeat (first | exact aZ.here | apply aZ.there)) (dF _) (fun w' hw'=>(fL (cap:=32) hw' (.there .here) rfl (Nat.le_of_eq (z7 _ _))).reads) (eu _) rfl (by decide) (by omega) (by omega) rfl fun b13 cap13=>?_
    rw [← List.map_append]
    repeat (first | refine JL.q (by (apply OQ.assign;rfl)) rfl ?_ | refine JL.nil ?_ | refine JE.next ?_)
    refine JC.ret ?_
    skip
    exact JE.aQ rfl (RV.tmp rfl) fun w' hw=>⟨(b13,cap13),rfl,hw.weak (.keep _ _ _ _ _ _ (fun _ h=>h) (aq.nil _))⟩
set_option maxHeartbeats 4000000 in
set_option maxRecDepth 4000 in
theorem Dw (key nonce : List B) (s z : aM) (hk : key.length=32) (hn : nonce.length=12) (w : World) (hG : g7 w) (hQ : GQ w) (hs : s.ok w) (hz : z.ok w) (hsl : s.l.length<100000000) (hzl : z.l.length<100000000) :
    Calls Tryz.prog 43 [.agg (key.map U8).toArray,.agg (nonce.map U8).toArray,s.v,z.v].toArray w fun e w'=>∃ s' : aM,e=.returned (.tuple #[s'.v,N (gP (k1 key) (k2 key) nonce s.l z.l).2])∧uE s' (gP (k1 key) (k2 key) nonce s.l z.l).1 s'.cap∧ah w [] s'.ct w':=by
  have hTwo:=zY key hk
  have h1:=jH key
  have h2:=jI key
  generalize k1 key=a1 at hTwo h1 ⊢
  generalize k2 key=a2 at hTwo h2 ⊢
  refine enter (n:=48) Tryz.func43 rfl rfl rfl (ah.start w []) ?_
  repeat (first | refine JC.seq ?_ | refine JC.region ?_)
  refine JL.box (r:=key.map U8) rfl rfl rfl fun b4 _=>?_
  refine JL.box (r:=nonce.map U8) rfl rfl rfl fun b5 _=>?_
  by_cases hlt : z.l.length<32
  · rw [gP,if_pos hlt]
    repeat (first | refine JL.q (by first|(apply OQ.g9;rfl;rfl;exact hlt)|(apply OQ.move;rfl)|(apply OQ.assign;rfl)|(apply OQ.len;rfl;rfl)) rfl ?_ | refine JC.seq ?_ | refine JC.region ?_ | refine JL.nil ?_ | refine JE.next ?_)
    refine JC.cond_true rfl rfl ?_
    repeat (first | refine JL.q (by (apply OQ.assign;rfl)) rfl ?_ | refine JC.seq ?_ | refine JC.region ?_ | refine JL.nil ?_ | refine JE.next ?_)
    refine JC.ret ?_
    repeat (refine JE.aH ?_)
    exact JE.gp rfl (RV.tmp rfl) (RV.tmp rfl) fun w' hw=>⟨iR,rfl,⟨rfl,rfl,fun _=>rfl⟩,hw.weak (aq.nil _)⟩
  repeat (first | refine JL.q (by first|(apply OQ.gu;rfl;rfl;exact hlt)|(apply OQ.move;rfl)|(apply OQ.assign;rfl)|(apply OQ.len;rfl;rfl)) rfl ?_ | refine JC.seq ?_ | refine JC.region ?_ | refine JL.nil ?_ | refine JE.next ?_)
  refine JC.cond_false rfl rfl ?_
  rw [gP,if_neg hlt]
  have hle : z.l.length - 32≤z.l.length:=Nat.sub_le _ _
  have hT0:=fun w' (h : GQ w') (h' : (z.fst (z.l.length - 32)).ok w')=>tW a1 1#32 nonce (z.fst (z.l.length - 32)) rfl h1 hn w' h h' (show (z.l.take (z.l.length - 32)).length<140737488355328 by rw [List.length_take];omega)
  have hM0:=fun (w' : World) (hs' : s.ok w') (h : (z.fst (z.l.length - 32)).ok w')=>qd nonce s (z.fst (z.l.length - 32)) hn w' hs' h (show s.l.length<35184372088832 by omega) (show (z.l.take (z.l.length - 32)).length<35184372088832 by rw [List.length_take];omega)
  rw [show (z.fst (z.l.length - 32)).l=z.l.take (z.l.length - 32) from rfl] at hT0
  simp only [show (z.fst (z.l.length - 32)).l=z.l.take (z.l.length - 32) from rfl] at hM0
  have hml:=iF nonce s.l (z.l.take (z.l.length - 32))
  rw [hn,List.length_take] at hml
  generalize msg nonce s.l (z.l.take (z.l.length - 32))=m at hml hM0 ⊢
  have hTl:=dZ a1 1#32 nonce (z.l.take (z.l.length - 32))
  generalize fK a1 1#32 nonce (z.l.take (z.l.length - 32))=T at hTl hT0 ⊢
  repeat (first | refine JL.q (by first|(apply OQ.af (cs:=key.map U8);exact mS;exact eV;rfl;exact (.there .here);exact (by simpa using hk);exact Row.all)|(apply OQ.au;exact wO;rfl;exact (fun w' hw'=>hTwo w' (hG.aL hw'.aL (by simp))))|(apply OQ.extract;rfl;rfl)|(apply OQ.move;rfl)) rfl ?_ | refine JC.seq ?_ | refine JC.region ?_ | refine JC.skip ?_ | refine JE.next ?_)
  refine JL.alloc fN rfl fun b10 _=>?_
  refine JL.alloc fN rfl fun b11 _=>?_
  skip
  refine JL.ag eV rfl rfl (by simpa using h1) (dL _) (.there .here) (by simp) ?_
  refine JL.ag eV rfl rfl (by simpa using h2) (dL _) .here (by simp) ?_
  repeat (first | refine JC.seq ?_ | refine JL.nil ?_ | refine JE.next ?_)
  refine JC.quiet mixed (by kernel_rfl) ?_
  repeat (first | refine JQ.q (by first|(apply OQ.fst (s:=z);exact Tryz.underlying27;exact s5;rfl;rfl;exact hle;exact hz.len)|(apply OQ.snd (s:=z);exact Tryz.underlying27;exact s5;rfl;rfl;exact hle)|(apply OQ.move;rfl)|(apply OQ.assign;rfl)|(apply OQ.len;rfl;rfl)|(apply OQ.jk;rfl;rfl;exact (by (try simp only []);omega);exact (by (try simp only []);omega))) rfl ?_ | refine JC.seq ?_ | refine JQ.nil ?_ | refine JE.next ?_)
  let vs : Nat→X3→Value:=fun j x=>match j with
    | 0=>.slice (some ⟨b11,0,none⟩) 32 32
    | 1=>.agg (nonce.map U8).toArray
    | 2=>s.v
    | 3=>(z.fst (z.l.length - 32)).v
    | 4=>.slice (some ⟨x.1,0,none⟩) m.length x.2.1
    | 5=>.slice (some ⟨x.1,0,none⟩) 1 1
    | 6=>.agg ((bS a2 m).map U8).toArray
    | _=>Pt x.1 0
  let Ms : Nat→X3→List aG:=fun j x=>match j with
    | 4=>[⟨x.1,Sl.aE 5 1 m.length x.2.1 (m.map U8),true⟩]
    | 5=>[⟨x.1,Row 27 [.slice (some ⟨x.2.1,0,none⟩) m.length x.2.2],true⟩,⟨x.2.1,Sl.aE 5 1 m.length x.2.2 (m.map U8),true⟩]
    | 7=>[⟨x.1,Row 23 ((List.replicate 32 (0 : B)).map U8),true⟩]
    | 8=>[⟨x.1,Row 23 ((bS a2 m).map U8),true⟩]
    | 9=>[⟨b11,Row 23 (a2.map U8),true⟩]
    | 10=>[⟨b10,Row 23 (a1.map U8),true⟩]
    | 11=>[⟨b5,Row 72 (nonce.map U8),true⟩]
    | 12=>[⟨b4,Row 23 (key.map U8),true⟩]
    | _=>[]
  refine JC.grow (g:=⟨[(2,s.v),(5,Pt b5 0),(10,Pt b10 0),(11,Pt b11 0),(12,(z.fst (z.l.length - 32)).v),(13,(z.snd (z.l.length - 32)).v)],13,vs,Ms,Kb,LV,J9,Ka⟩) [(7,14)] [8,10,11] mixed (by repeat (first | exact ai.nil | refine ai.cons _ _ _ rfl ?_)) (aq.refl _) (by kernel_rfl) (by kernel_rfl) (by kernel_rfl) ?_ ?_
  · refine ⟨?_,?_,?_,?_,?_,?_,?_,?_,?_,trivial⟩
    iterate 4 (focus (intro x EF MF Q kk;(try refine JL.aU rfl rfl ?_);exact JL.q (by first|(apply OQ.jT;exact Tryz.underlying23;exact s5;rfl)|(apply OQ.af (cs:=nonce.map U8);exact GX;exact GW;rfl;exact .here;exact (by simpa using hn);exact Row.all)|(apply OQ.move;rfl)) rfl (JL.nil (kk default nofun))))
    · intro x EF MF Q kk
      exact JL.bX (ι:=Nat × Nat) (fun x=>.slice (some ⟨x.1,0,none⟩) m.length x.2) (fun x=>[⟨x.1,Sl.aE 5 1 m.length x.2 (m.map U8),true⟩]) oy rfl rfl (fun i=>by simp) (fun w' hw'=>hM0 w' (hs.holds hw' rfl) ((hz.holds hw' rfl).fst _)) fun i=>JL.nil (kk (i.1,i.2,0) nofun)
    · intro x EF MF Q kk
      exact JL.fC Tryz.underlying53 wC rfl rfl rfl rfl fun b _=>JL.nil (kk (b,(x 4).1,(x 4).2.1) nofun)
    · intro x EF MF Q kk
      exact JL.q (OQ.au (vs:=[.slice (some ⟨b11,0,none⟩) 32 32,.slice (some ⟨(x 5).1,0,none⟩) 1 1]) fQ rfl fun w' hw'=>Du h2 (by omega) hw' (hG.aL hw'.aL (by simp)) (.there (.there .here)) .here (.there .here)) rfl (JL.nil (kk default nofun))
    · intro x EF MF Q kk
      exact JL.alloc fN rfl fun b _=>JL.nil (kk (b,0,0) nofun)
    · intro x EF MF Q kk
      exact JL.ag eV rfl rfl (dF _) (dL _) .here (by simp) (JL.nil (kk (x 7) (fun k h=>by cases h;rfl)))
  · intro x hx
    have h8:=hx 8 7 (by decide) rfl
    show JE _ _ _ _ _ [(14,Pt (x 7).1 0),(2,s.v),(5,Pt b5 0),(10,Pt b10 0),(11,Pt b11 0),(12,(z.fst (z.l.length - 32)).v),(13,(z.snd (z.l.length - 32)).v)] [⟨(x 8).1,Row 23 ((bS a2 m).map U8),true⟩,⟨b10,Row 23 (a1.map U8),true⟩,⟨b5,Row 72 (nonce.map U8),true⟩]
    rw [h8]
    generalize (x 7).1=b14
    clear hx h8 x vs Ms
    have hgl:=z7 a2 m
    generalize bS a2 m=g at hgl ⊢
    by_cases hg : g=z.l.drop (z.l.length - 32)
    · rw [if_pos hg]
      repeat (first | refine JL.q (by first|(apply OQ.jT;exact Tryz.underlying23;exact s5;rfl)|(apply OQ.au;exact rD;rfl;exact (fun w' hw'=>zZ (a:=⟨some ⟨b14,0,none⟩,32,g⟩) (b:=z.snd (z.l.length - 32)) (c:=true) (by simp [aM.v,hgl]) rfl (fL hw' .here rfl (Nat.le_of_eq hgl)) ((hz.holds hw' rfl).snd _ hle) (show g.length<4611686018427387904 by omega) (decide_eq_true hg)))|(apply OQ.not;rfl)|(apply OQ.move;rfl)) rfl ?_ | refine JC.seq ?_ | refine JC.region ?_ | refine JL.nil ?_ | refine JE.next ?_)
      refine JC.cond_false rfl rfl ?_
      repeat (first | refine JL.q (by first|(apply OQ.af (cs:=a1.map U8);exact mS;exact eV;rfl;exact (.there .here);exact (by simpa using h1);exact Row.all)|(apply OQ.af (cs:=nonce.map U8);exact GX;exact GW;rfl;exact (.there (.there .here));exact (by simpa using hn);exact Row.all)|(apply OQ.move;rfl)) rfl ?_ | refine JC.seq ?_ | refine JC.region ?_ | refine JC.skip ?_ | refine JE.next ?_)
      refine JL.bX (ι:=Nat) (fun b=>.slice (some ⟨b,0,none⟩) (z.l.take (z.l.length - 32)).length (z.l.take (z.l.length - 32)).length) (fun b=>[⟨b,Sl.aE 5 1 (z.l.take (z.l.length - 32)).length (z.l.take (z.l.length - 32)).length (T.map U8),true⟩]) rM rfl rfl (fun i=>by simp) (fun w' hw'=>hT0 w' (hQ.aL hw'.aL (by simp)) ((hz.holds hw' rfl).fst _)) fun b47=>?_
      try dsimp only
      repeat (first | refine JL.q (by (apply OQ.assign;rfl)) rfl ?_ | refine JL.nil ?_ | refine JE.next ?_)
      refine JC.ret ?_
      skip
      refine JE.gp rfl (RV.tmp rfl) (RV.tmp rfl) fun w' hw=>⟨⟨some ⟨b47,0,none⟩,(z.l.take (z.l.length - 32)).length,T⟩,by simp only [aM.v,hTl];rfl,⟨rfl,rfl,fun h=>by cases h⟩,hw.weak (.keep _ _ _ _ _ _ (fun o ho=>?_) (aq.nil _))⟩
      exact ⟨Sl.aE.cells _ ho,Nat.le_of_eq hTl,rfl⟩
    · rw [if_neg hg]
      repeat (first | refine JL.q (by first|(apply OQ.jT;exact Tryz.underlying23;exact s5;rfl)|(apply OQ.au;exact rD;rfl;exact (fun w' hw'=>zZ (a:=⟨some ⟨b14,0,none⟩,32,g⟩) (b:=z.snd (z.l.length - 32)) (c:=false) (by simp [aM.v,hgl]) rfl (fL hw' .here rfl (Nat.le_of_eq hgl)) ((hz.holds hw' rfl).snd _ hle) (show g.length<4611686018427387904 by omega) (decide_eq_false hg)))|(apply OQ.not;rfl)|(apply OQ.move;rfl)) rfl ?_ | refine JC.seq ?_ | refine JC.region ?_ | refine JL.nil ?_ | refine JE.next ?_)
      refine JC.cond_true rfl rfl ?_
      repeat (first | refine JL.q (by (apply OQ.assign;rfl)) rfl ?_ | refine JC.seq ?_ | refine JC.region ?_ | refine JL.nil ?_ | refine JE.next ?_)
      refine JC.ret ?_
      repeat (refine JE.aH ?_)
      exact JE.gp rfl (RV.tmp rfl) (RV.tmp rfl) fun w' hw=>⟨iR,rfl,⟨rfl,rfl,fun _=>rfl⟩,hw.weak (aq.nil _)⟩
end
section
namespace dO
def Prim (n : Nat) : Prop:=1<n∧∀ m,m∣n→m=1∨m=n
def ch : Nat→Nat→Nat
  | _,0=>1
  | 0,_+1=>0
  | n+1,k+1=>ch n k+ch n (k+1)
theorem u0 (n : Nat) : ch n 0=1:=by cases n <;> rfl
theorem qB : ∀ n k : Nat,n<k→ch n k=0
  | 0,0,h=>absurd h (by decide)
  | 0,_+1,_=>rfl
  | n+1,0,h=>absurd h (by omega)
  | n+1,k+1,h=>by
    show ch n k+ch n (k+1)=0
    rw [qB n k (by omega),qB n (k+1) (by omega)]
theorem z8 : ∀ n : Nat,ch n n=1
  | 0=>rfl
  | n+1=>by
    show ch n n+ch n (n+1)=1
    rw [z8 n,qB n (n+1) (by omega)]
theorem u5 : ∀ n j : Nat,(j+1) * ch (n+1) (j+1)=(n+1) * ch n j
  | 0,0=>by decide
  | 0,j+1=>by
    show (j+1+1) * (ch 0 (j+1)+ch 0 (j+1+1))=(0+1) * ch 0 (j+1)
    simp [ch]
  | n+1,0=>by
    have h:=u5 n 0
    show (0+1) * (ch (n+1) 0+ch (n+1) (0+1))=(n+1+1) * ch (n+1) 0
    rw [u0] at *
    omega
  | n+1,k+1=>by
    have h1:=u5 n k
    have h2:=u5 n (k+1)
    have h3 : ch (n+1) (k+1)=ch n k+ch n (k+1):=rfl
    show (k+1+1) * (ch (n+1) (k+1)+ch (n+1) (k+1+1))=(n+1+1) * ch (n+1) (k+1)
    have e1 : (k+1+1) * (ch (n+1) (k+1)+ch (n+1) (k+1+1))=(k+1) * ch (n+1) (k+1)+ch (n+1) (k+1)+(k+1+1) * ch (n+1) (k+1+1):=by
      rw [Nat.mul_add,Nat.add_mul (k+1) 1,Nat.one_mul]
    have e2 : (n+1+1) * ch (n+1) (k+1)=(n+1) * ch n k+(n+1) * ch n (k+1)+ch (n+1) (k+1):=by
      rw [Nat.add_mul (n+1) 1,Nat.one_mul,h3,Nat.mul_add]
    rw [e1,e2,h1,h2];omega
def bs (a n : Nat) : Nat→Nat
  | 0=>0
  | k+1=>bs a n k+ch n k * a ^ k
theorem z9 (a n : Nat) : ∀ k,bs a (n+1) (k+1)=bs a n (k+1)+a * bs a n k
  | 0=>by simp [bs,u0]
  | k+1=>by
    have h:=z9 a n k
    have e1 : bs a (n+1) (k+1+1)=bs a (n+1) (k+1)+(ch n k+ch n (k+1)) * a ^ (k+1):=rfl
    have e2 : bs a n (k+1+1)=bs a n (k+1)+ch n (k+1) * a ^ (k+1):=rfl
    have e3 : bs a n (k+1)=bs a n k+ch n k * a ^ k:=rfl
    have e4 : a * bs a n (k+1)=a * bs a n k+ch n k * a ^ (k+1):=by
      rw [e3,Nat.mul_add,Nat.pow_succ,Nat.mul_left_comm,Nat.mul_comm a (a ^ k)]
    rw [e1,h,e2,e4,Nat.add_mul];omega
theorem G0 (a : Nat) : ∀ n,(a+1) ^ n=bs a n (n+1)
  | 0=>by simp [bs,ch]
  | n+1=>by
    have h:=G0 a n
    rw [z9,Nat.pow_succ,h,Nat.mul_add,Nat.mul_one,Nat.mul_comm]
    have : bs a n (n+1+1)=bs a n (n+1)+ch n (n+1) * a ^ (n+1):=rfl
    rw [this,qB n (n+1) (by omega)];omega
theorem Prim.Dx {p a b : Nat} (h : Prim p) (d : p∣a * b) : p∣a∨p∣b:=by
  cases h.2 (Nat.gcd p a) (Nat.gcd_dvd_left p a) with
  | inl e=>exact Or.inr (Nat.Coprime.dvd_of_dvd_mul_left e d)
  | inr e=>exact Or.inl (e ▸ Nat.gcd_dvd_right p a)
theorem Prim.ch {p : Nat} (h : Prim p) (j : Nat) (h0 : 0<j) (h1 : j<p) : p∣ch p j:=by
  obtain ⟨n,rfl⟩ : ∃ n,p=n+1:=⟨p - 1,by have:=h.1;omega⟩
  obtain ⟨k,rfl⟩ : ∃ k,j=k+1:=⟨j - 1,by omega⟩
  have e:=u5 n k
  cases h.Dx (a:=k+1) (b:=dO.ch (n+1) (k+1)) ⟨_,e⟩ with
  | inl d=>exact absurd (Nat.le_of_dvd (by omega) d) (by omega)
  | inr d=>exact d
theorem Dy {p : Nat} (h : Prim p) (a : Nat) : ∀ k,k<p→bs a p (k+1) % p=1 % p
  | 0,_=>by simp [bs,u0]
  | k+1,hk=>by
    have e : bs a p (k+1+1)=bs a p (k+1)+dO.ch p (k+1) * a ^ (k+1):=rfl
    obtain ⟨c,hc⟩:=h.ch (k+1) (by omega) hk
    rw [e,hc,Nat.mul_assoc,Nat.add_mul_mod_self_left]
    exact Dy h a k (by omega)
theorem LW {p : Nat} (h : Prim p) (a : Nat) : (a+1) ^ p % p=(a ^ p+1) % p:=by
  obtain ⟨n,rfl⟩ : ∃ n,p=n+1:=⟨p - 1,by have:=h.1;omega⟩
  rw [G0]
  have e : bs a (n+1) (n+1+1)=bs a (n+1) (n+1)+dO.ch (n+1) (n+1) * a ^ (n+1):=rfl
  rw [e,z8,Nat.one_mul,Nat.add_mod,Dy h a n (by omega),← Nat.add_mod,Nat.add_comm]
theorem Aa {p : Nat} (h : Prim p) : ∀ a : Nat,a ^ p % p=a % p
  | 0=>by rw [Nat.zero_pow (by have:=h.1;omega)]
  | a+1=>by rw [LW h,Nat.add_mod,Aa h a,← Nat.add_mod]
theorem Dz {p : Nat} (h : Prim p) (a : Nat) (ha : ¬ p∣a) : a ^ (p - 1) % p=1:=by
  have h1:=h.1
  have e:=Aa h a
  have e2 : a ^ p=a * a ^ (p - 1):=by
    have : p=(p - 1)+1:=by omega
    rw [Nat.mul_comm,← Nat.pow_succ,Nat.succ_eq_add_one,← this]
  have pos : 0<a ^ (p - 1):=Nat.pow_pos (Nat.pos_of_ne_zero (fun h=>ha (h ▸ Nat.dvd_zero p)))
  have d : p∣a * (a ^ (p - 1) - 1):=by
    rw [Nat.mul_sub,Nat.mul_one,← e2]
    exact (Nat.dvd_of_mod_eq_zero (Nat.sub_mod_eq_zero_of_mod_eq e))
  cases h.Dx d with
  | inl d=>exact absurd d ha
  | inr d=>
    obtain ⟨c,hc⟩:=d
    have : a ^ (p - 1)=1+p * c:=by omega
    rw [this,Nat.add_mul_mod_self_left,Nat.mod_eq_of_lt h1]
theorem FC {r c : Nat} : ∀ m n : Nat,c ^ m % r=1 % r→c ^ n % r=1 % r→c ^ Nat.gcd m n % r=1 % r:=by
  intro m n
  induction m,n using Nat.gcd.induction with
  | H0 n=>intro _ h;rw [Nat.gcd_zero_left];exact h
  | H1 m n hm ih=>
    intro h1 h2
    rw [Nat.gcd_rec]
    refine ih ?_ h1
    have e : c ^ n=(c ^ m) ^ (n / m) * c ^ (n % m):=by
      rw [← Nat.pow_mul,← Nat.pow_add,Nat.div_add_mod]
    rw [e,Nat.mul_mod,Nat.pow_mod,h1,← Nat.pow_mod,Nat.one_pow,← Nat.mul_mod,Nat.one_mul] at h2
    exact h2
theorem part (n : Nat) : 1<n→∃ r,Prim r∧r∣n:=by
  induction n using Nat.strongRecOn with
  | _ n ih=>
    intro h
    by_cases hp : Prim n
    · exact ⟨n,hp,Nat.dvd_refl n⟩
    · have : ∃ m,m∣n∧m≠1∧m≠n:=by
        refine Classical.byContradiction fun hn=>hp ⟨h,fun m hm=>?_⟩
        by_cases h1 : m=1
        · exact Or.inl h1
        · by_cases h2 : m=n
          · exact Or.inr h2
          · exact absurd ⟨m,hm,h1,h2⟩ hn
      obtain ⟨m,hm,h1,h2⟩:=this
      have hle:=Nat.le_of_dvd (by omega) hm
      have h0 : m≠0:=fun e=>by rw [e] at hm;have:=Nat.eq_zero_of_zero_dvd hm;omega
      obtain ⟨r,hr,hd⟩:=ih m (by omega) (by omega)
      exact ⟨r,hr,Nat.dvd_trans hd hm⟩
theorem small (n : Nat) (h : 1<n) (no : ∀ r,Prim r→r∣n→n<r * r) : Prim n:=by
  refine ⟨h,fun m hm=>?_⟩
  by_cases h1 : m=1
  · exact Or.inl h1
  by_cases h2 : m=n
  · exact Or.inr h2
  exfalso
  obtain ⟨k,hk⟩:=hm
  have m0 : m≠0:=fun e=>by rw [e,Nat.zero_mul] at hk;omega
  have k0 : k≠0:=fun e=>by rw [e,Nat.mul_zero] at hk;omega
  have k1 : k≠1:=fun e=>by rw [e,Nat.mul_one] at hk;exact h2 hk.symm
  have two : ∀ a b,n=a * b→1<a→a≤b→False:=fun a b e ha hab=>by
    obtain ⟨r,hr,hd⟩:=part a ha
    have q1:=no r hr (Nat.dvd_trans hd ⟨b,e⟩)
    have q2:=Nat.le_of_dvd (by omega) hd
    have q3:=Nat.mul_le_mul q2 (Nat.le_trans q2 hab)
    omega
  cases Nat.le_total m k with
  | inl hl=>exact two m k hk (by omega) hl
  | inr hl=>exact two k m (by rw [hk,Nat.mul_comm]) (by omega) hl
theorem Ih {N r q k a : Nat} (hr : Prim r) (hd : r∣N) (hN : 1<N) (hq : Prim q) (hk : N - 1=k * q)
    (h1 : a ^ (k * q) % N=1) (h2 : Nat.gcd (a ^ k % N+N - 1) N=1) : q∣r - 1:=by
  have r1:=hr.1
  have hp : ∀ x,x % N % r=x % r:=fun x=>Nat.mod_mod_of_dvd x hd
  have e1 : (a ^ k) ^ q % r=1 % r:=by rw [← Nat.pow_mul,← hp,h1]
  have na : ¬ r∣a ^ k:=fun d=>by
    obtain ⟨c,hc⟩:=d
    have : q≠0:=by have:=hq.1;omega
    obtain ⟨q',rfl⟩ : ∃ q',q=q'+1:=⟨q - 1,by omega⟩
    rw [Nat.pow_succ,hc,Nat.mul_comm,Nat.mul_assoc,Nat.mul_mod_right,Nat.mod_eq_of_lt r1] at e1
    exact absurd e1 (by decide)
  have e2 : (a ^ k) ^ (r - 1) % r=1 % r:=by rw [Dz hr _ na,Nat.mod_eq_of_lt r1]
  have e3:=FC _ _ e1 e2
  cases hq.2 _ (Nat.gcd_dvd_left q (r - 1)) with
  | inr e=>rw [← e];exact Nat.gcd_dvd_right q (r - 1)
  | inl e=>
    exfalso
    rw [e,Nat.pow_one,← hp] at e3
    have d : r∣a ^ k % N+N - 1:=by
      have:=Nat.sub_mod_eq_zero_of_mod_eq e3
      have d1:=Nat.dvd_of_mod_eq_zero this
      have : a ^ k % N+N - 1=(a ^ k % N - 1)+N:=by
        have : a ^ k % N≠0:=fun z=>by rw [z,Nat.zero_mod,Nat.mod_eq_of_lt r1] at e3;exact absurd e3 (by decide)
        omega
      rw [this]
      exact Nat.dvd_add d1 hd
    have d2:=Nat.dvd_gcd d hd
    rw [h2] at d2
    have:=Nat.le_of_dvd (by decide) d2
    omega
theorem Kc {N q k a : Nat} (hN : 1<N) (hq : Prim q) (hk : N - 1=k * q) (big : N<q * q)
    (h1 : a ^ (k * q) % N=1) (h2 : Nat.gcd (a ^ k % N+N - 1) N=1) : Prim N:=by
  refine small N hN fun r hr hd=>?_
  have d:=Ih hr hd hN hq hk h1 h2
  have:=hr.1
  have l:=Nat.le_of_dvd (by omega) d
  have:=Nat.mul_le_mul (Nat.le_trans l (Nat.sub_le r 1)) (Nat.le_trans l (Nat.sub_le r 1))
  omega
theorem Kd {N q k q' k' a : Nat} (hN : 1<N) (hq : Prim q) (hk : N - 1=k * q) (hq' : Prim q') (hk' : N - 1=k' * q') (ne : Nat.gcd q q'=1) (big : N<q * q' * (q * q'))
    (h1 : a ^ (k * q) % N=1) (h2 : Nat.gcd (a ^ k % N+N - 1) N=1) (h3 : Nat.gcd (a ^ k' % N+N - 1) N=1) : Prim N:=by
  refine small N hN fun r hr hd=>?_
  have d:=Nat.Coprime.mul_dvd_of_dvd_of_dvd ne (Ih hr hd hN hq hk h1 h2) (Ih hr hd hN hq' hk' (by rw [← hk',hk];exact h1) h3)
  have:=hr.1
  have l:=Nat.le_of_dvd (by omega) d
  have:=Nat.mul_le_mul (Nat.le_trans l (Nat.sub_le r 1)) (Nat.le_trans l (Nat.sub_le r 1))
  omega
def pm (n : Nat) : Nat→Nat→Nat→Nat→Nat
  | 0,_,_,acc=>acc
  | f+1,b,e,acc=>pm n f (b * b % n) (e / 2) (if e % 2=1 then acc * b % n else acc)
theorem G1 (n : Nat) : ∀ f b e acc : Nat,e<2 ^ f→pm n f b e acc % n=acc * b ^ e % n
  | 0,b,e,acc,h=>by
    have : e=0:=by omega
    subst this;simp [pm]
  | f+1,b,e,acc,h=>by
    show pm n f (b * b % n) (e / 2) (if e % 2=1 then acc * b % n else acc) % n=_
    rw [G1 n f _ _ _ (by rw [Nat.pow_succ] at h;omega)]
    have eb : b ^ e=b ^ (e % 2) * (b * b) ^ (e / 2):=by
      rw [← Nat.pow_two,← Nat.pow_mul,← Nat.pow_add,Nat.mod_add_div]
    rw [Nat.mul_mod,← Nat.pow_mod,← Nat.mul_mod,eb]
    split
    next h1=>rw [h1,Nat.pow_one,Nat.mul_mod,Nat.mod_mod,← Nat.mul_mod,Nat.mul_assoc]
    next h1=>
      have : e % 2=0:=by omega
      rw [this,Nat.pow_zero,Nat.one_mul]
theorem tZ {n f b e v : Nat} (h : e<2 ^ f) (hv : pm n f b e 1 % n=v) : b ^ e % n=v:=by
  rw [← hv,G1 n f b e 1 h,Nat.one_mul]
def Ab (n : Nat) : Nat→Bool
  | 0=>true
  | k+1=>(n % (k+2) != 0) && Ab n k
theorem wU (n : Nat) : ∀ k,Ab n k=true→∀ d,2≤d→d<k+2→n % d≠0
  | 0,_,d,h,h2=>by omega
  | k+1,ht,d,h,h2=>by
    simp only [Ab,Bool.and_eq_true,bne_iff_ne,ne_eq] at ht
    by_cases e : d=k+2
    · rw [e];exact ht.1
    · exact wU n k ht.2 d h (by omega)
theorem j9 {n : Nat} (k : Nat) (h : 1<n) (ht : Ab n k=true) (big : n<(k+2) * (k+2)) : Prim n:=by
  refine small n h fun r hr hd=>?_
  by_cases hk : r<k+2
  · exact absurd (Nat.mod_eq_zero_of_dvd hd) (wU n k ht r hr.1 hk)
  · have:=Nat.mul_le_mul (Nat.le_of_not_lt hk) (Nat.le_of_not_lt hk)
    omega
theorem yS {N q q' : Nat} (f a k k' v v' : Nat) (hq : Prim q) (hq' : Prim q') (hN : 1<N) (hk : N - 1=k * q) (hk' : N - 1=k' * q') (ne : Nat.gcd q q'=1) (big : N<q * q' * (q * q'))
    (hf : N≤2 ^ f) (e1 : pm N f a k 1 % N=v) (e2 : pm N f a k' 1 % N=v') (e3 : pm N f a (k * q) 1 % N=1)
    (g1 : Nat.gcd (v+N - 1) N=1) (g2 : Nat.gcd (v'+N - 1) N=1) : Prim N:=by
  have l1 : k≤k * q:=Nat.le_mul_of_pos_right k (Nat.lt_trans Nat.zero_lt_one hq.1)
  have l2 : k'≤k' * q':=Nat.le_mul_of_pos_right k' (Nat.lt_trans Nat.zero_lt_one hq'.1)
  refine Kd hN hq hk hq' hk' ne big (a:=a) (tZ (by omega) e3) ?_ ?_
  · rw [tZ (by omega) e1];exact g1
  · rw [tZ (by omega) e2];exact g2
theorem Ii {N q : Nat} (f a k v : Nat) (hq : Prim q) (hN : 1<N) (hk : N - 1=k * q) (big : N<q * q)
    (hf : N≤2 ^ f) (e1 : pm N f a k 1 % N=v) (e3 : pm N f a (k * q) 1 % N=1) (g1 : Nat.gcd (v+N - 1) N=1) : Prim N:=by
  have l1 : k≤k * q:=Nat.le_mul_of_pos_right k (Nat.lt_trans Nat.zero_lt_one hq.1)
  refine Kc hN hq hk big (a:=a) (tZ (by omega) e3) ?_
  rw [tZ (by omega) e1];exact g1
theorem DB : Prim 127:=j9 10 (by decide) (by decide +kernel) (by decide)
theorem DC : Prim 353:=j9 17 (by decide) (by decide +kernel) (by decide)
theorem yT : Prim 75707:=j9 274 (by decide) (by decide +kernel) (by decide)
theorem Ij : Prim 8574133:=j9 2927 (by decide) (by decide +kernel) (by decide)
theorem Ik : Prim 1919519569386763:=
  yS (N:=1919519569386763) 51 2 223873314 15114327318006 1059928654987441 576774792492622 Ij DB (by decide +kernel) (by decide +kernel) (by decide +kernel) (by decide +kernel) (by decide +kernel) (by decide +kernel) (by decide +kernel) (by decide +kernel) (by decide +kernel) (by decide +kernel) (by decide +kernel)
theorem Il : Prim 75445702479781427272750846543864801:=
  yS (N:=75445702479781427272750846543864801) 116 2 39304471641247389600 996548568557483816196003626400 56747016255153332959347766392083459 58781699294900834553279248901967638 Ik yT (by decide +kernel) (by decide +kernel) (by decide +kernel) (by decide +kernel) (by decide +kernel) (by decide +kernel) (by decide +kernel) (by decide +kernel) (by decide +kernel) (by decide +kernel) (by decide +kernel)
theorem Im : Prim 74058212732561358302231226437062788676166966415465897661863160754340907:=
  yS (N:=74058212732561358302231226437062788676166966415465897661863160754340907) 236 2 981609426360740691344999861639072106 209796636636151156663544550813209033076960244803019540118592523383402 69490809710348678725736597923071784769591275419387514694139338586948360 8562916886866218785688304546164188478888058893729309188831496247839076 Il DC (by decide +kernel) (by decide +kernel) (by decide +kernel) (by decide +kernel) (by decide +kernel) (by decide +kernel) (by decide +kernel) (by decide +kernel) (by decide +kernel) (by decide +kernel) (by decide +kernel)
abbrev P : Nat:=57896044618658097711785492504343953926634992332820282019728792003956564819949
theorem Io : Prim P:=
  Ii (N:=P) 255 2 781764 427094198651976259540344842774561673889945192655078505504941250475370961481 Im (by decide +kernel) (by decide +kernel) (by decide +kernel) (by decide +kernel) (by decide +kernel) (by decide +kernel) (by decide +kernel)
end dO
end
section
namespace dO
abbrev F:=Fin P
def pw (x : F) : Nat→F
  | 0=>1
  | n+1=>pw x n * x
theorem yU (x : F) : ∀ n,(pw x n).val=x.val ^ n % P
  | 0=>rfl
  | n+1=>by
    show (pw x n * x).val=_
    rw [Fin.val_mul,yU x n,Nat.pow_succ,Nat.mul_mod,Nat.mod_mod,← Nat.mul_mod]
theorem pB (x : F) (m : Nat) : ∀ n,pw x (m+n)=pw x m * pw x n
  | 0=>by show pw x m=pw x m * 1;grobner
  | n+1=>by
    show pw x (m+n) * x=pw x m * (pw x n * x)
    rw [pB x m n];grobner
theorem DD (x y : F) : ∀ n,pw (x * y) n=pw x n * pw y n
  | 0=>by show (1 : F)=1 * 1;grobner
  | n+1=>by
    show pw (x * y) n * (x * y)=pw x n * x * (pw y n * y)
    rw [DD x y n];grobner
theorem Ip {x : F} (h : x≠0) : ¬ P∣x.val:=fun d=>h (by
  apply Fin.ext
  have:=Nat.eq_zero_of_dvd_of_lt d x.isLt
  rw [this];rfl)
theorem Ac {x : F} (h : x≠0) : pw x (P - 1)=1:=by
  apply Fin.ext
  rw [yU,Dz Io _ (Ip h)];rfl
def inv (x : F) : F:=pw x (P - 2)
theorem fY {x : F} (h : x≠0) : x * inv x=1:=by
  have:=Ac h
  have e : P - 1=(P - 2)+1:=by decide
  rw [e] at this
  have t : pw x (P - 2) * x=1:=this
  show x * pw x (P - 2)=1
  grobner
theorem mul_zero {x y : F} (h : x * y=0) : x=0∨y=0:=by
  by_cases hx : x=0
  · exact Or.inl hx
  · have:=fY hx
    exact Or.inr (by grobner)
theorem ej {x y : F} (hx : x≠0) (hy : y≠0) : x * y≠0:=fun h=>by
  cases mul_zero h with
  | inl h=>exact hx h
  | inr h=>exact hy h
theorem cancel {c x y : F} (h : c≠0) (e : c * x=c * y) : x=y:=by
  have:=fY h
  grobner
theorem u6 {x : F} (h : x * x=0) : x=0:=(mul_zero h).elim id id
theorem pC : (2 : F)≠0:=by decide
def G3 (x : F) : F:=pw x 28948022309329048855892746252171976963317496166410141009864396001978282409974
theorem Iq {x : F} (h : x≠0) : G3 x * G3 x=1:=by
  unfold G3
  rw [← pB,← Ac h]
  exact congrArg (pw x) (by decide)
theorem FD (x y : F) : G3 (x * y)=G3 x * G3 y:=DD x y _
def im : F:=19681161376707505956807079304988542015446066515923890162744021073123829784752
theorem Ke : im * im=-1:=by decide +kernel
theorem root {x : F} (hc : G3 x=1) : ∃ s,x=s * s:=by
  let q:=pw x 14474011154664524427946373126085988481658748083205070504932198000989141204987
  let s:=pw x 7237005577332262213973186563042994240829374041602535252466099000494570602494
  have e1 : q * q=1:=by
    rw [← hc];show pw x _ * pw x _=pw x _
    rw [← pB]
  have e2 : s * s=q * x:=by
    show pw x _ * pw x _=pw x (14474011154664524427946373126085988481658748083205070504932198000989141204987+1)
    rw [← pB]
  have e3 : (q - 1) * (q+1)=0:=by grobner
  cases mul_zero e3 with
  | inl h=>exact ⟨s,by grobner⟩
  | inr h=>
    have:=Ke
    exact ⟨im * s,by grobner⟩
def ca : F:=486662
theorem Kf (x : F) {e f v : Nat} (he : e<2 ^ f) (h : pm P f x.val e 1 % P=v) : (pw x e).val=v:=by
  rw [yU];exact tZ he h
theorem Ir : G3 (ca * ca - 4)=-1:=by
  apply Fin.ext
  exact Kf (f:=255) _ (by decide) (by decide +kernel)
theorem FE (t : F) : t * t≠ca * ca - 4:=fun h=>by
  have h0 : t≠0:=fun e=>by
    rw [e] at h
    revert h
    decide +kernel
  have e:=Iq h0
  rw [← FD,h,Ir] at e
  revert e
  decide +kernel
end dO
end
end Go.Proofs.YtgkninhgcpbfnaaGreatDoor
