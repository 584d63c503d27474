/-
  Of no statement by itself: the texts TalF, TalG, TalH, Same, Slzq, TalI, TalJ, TalK, TalM, TalW, TokB, TokA, TalX, TalY in one.
  Conditions: each theorem's own.
-/
import Derived.Test.YtjeeilmkjjbonaaGreatDoorOc
set_option linter.unusedSimpArgs false
set_option linter.unusedVariables false
namespace Go.Proofs.YtjeeilmkjjbonaaGreatDoor
section
set_option maxRecDepth 10000
open Sl aA
namespace dx
theorem JC.lF {P : Program} {n : Nat} {w0 : World} {S : List Nat} {Q : Exit→Act→World→Prop} {E : Env} {M : List aF} {F : Prop} {c : Code} (h : ∀ w,aa w0 S M w→F) (k : F→JC P n w0 S Q c E M) : JC P n w0 S Q c E M:=⟨fun a w ha hw=>(k (h w hw)).go a w ha hw⟩
def dS (s : aC) (S : List Nat) : Prop:=s.l≠[]→∀ a,s.ad=some a→a.block ∉ S
theorem vN {w0 w : World} {S : List Nat} {M : List aF} {s : aC} (h : s.ok w0) (hw : aa w0 S M w) (ha : dS s S) : s.ok w:=
  ⟨h.len,hw.reads h.reads fun h0 a e=>ha (fun h1=>h0 (by rw [h1];rfl)) a e⟩
theorem tT (l : List Bt) : (tr l).length≤l.length:=by
  unfold tr
  split
  · rw [List.length_append,List.length_take,List.length_drop];omega
  · exact Nat.le_refl _
theorem wJ (l x : List Bt) : tr (tr l++x)=tr (l++x):=by
  by_cases h : 515<l.length
  · have e : tr l=l.take 513++l.drop (l.length - 2):=if_pos h
    rw [e]
    have h1 : (l.take 513).length=513:=by rw [List.length_take];omega
    have h2 : (l.drop (l.length - 2)).length=2:=by rw [List.length_drop];omega
    have hl : l=l.take (l.length - 2)++l.drop (l.length - 2):=(List.take_append_drop _ _).symm
    unfold tr
    rw [if_pos (show 515<(l++x).length by rw [List.length_append];omega)]
    have h3 : (l++x).take 513=l.take 513:=by rw [List.take_append_of_le_length (by omega)]
    have h4 : (l++x).drop ((l++x).length - 2)=(l.drop (l.length - 2)++x).drop x.length:=by
      have e2 : (l++x).length - 2=(l.take (l.length - 2)).length+x.length:=by rw [List.length_append,List.length_take];omega
      rw [e2]
      have e3 : l++x=l.take (l.length - 2)++(l.drop (l.length - 2)++x):=by rw [← List.append_assoc,← hl]
      rw [e3,← List.drop_drop,List.drop_left]
    rw [h3,h4]
    by_cases hx : x=[]
    · subst hx
      rw [if_neg (by simp only [List.length_append,h1,h2,List.length_nil];omega)]
      simp
    · have hx1 : 0<x.length:=List.length_pos_iff.2 hx
      rw [if_pos (by simp only [List.length_append,h1,h2];omega)]
      have h5 : (l.take 513++l.drop (l.length - 2)++x).take 513=l.take 513:=by
        rw [List.append_assoc,List.take_append_of_le_length (by omega),List.take_of_length_le (by omega)]
      have h6 : (l.take 513++l.drop (l.length - 2)++x).drop ((l.take 513++l.drop (l.length - 2)++x).length - 2)=(l.drop (l.length - 2)++x).drop x.length:=by
        have e2 : (l.take 513++l.drop (l.length - 2)++x).length - 2=(l.take 513).length+x.length:=by simp only [List.length_append,h1,h2];omega
        rw [e2,List.append_assoc,← List.drop_drop,List.drop_left]
      rw [h5,h6]
  · rw [show tr l=l from if_neg h]
def mo (st : Nat) : Nat:=if st=4 then 4194304 else 513
def kw (M : Nat) (l : List Bt) : Nat:=if fi 10 (l.take (min l.length M))<(l.take (min l.length M)).length then fi 10 (l.take (min l.length M))+1 else (l.take (min l.length M)).length
theorem vO (M : Nat) (l : List Bt) : kw M l≤min l.length M:=by
  have:=mw 10 (l.take (min l.length M))
  have h2 : (l.take (min l.length M)).length=min l.length M:=by rw [List.length_take];omega
  unfold kw
  split <;> omega
theorem vP (M : Nat) (l : List Bt) : kw M l≤l.length:=by have:=vO M l;omega
theorem wK {M : Nat} {l : List Bt} (h : 0<l.length) (hM : 0<M) : 0<kw M l:=by
  have h2 : (l.take (min l.length M)).length=min l.length M:=by rw [List.length_take];omega
  unfold kw
  split <;> omega
theorem xK (M : Nat) (l : List Bt) : ∀ c ∈ (l.take (kw M l)).dropLast,c≠10:=by
  have hk:=vO M l
  have h2 : (l.take (min l.length M)).length=min l.length M:=by rw [List.length_take];omega
  have e : l.take (kw M l)=(l.take (min l.length M)).take (kw M l):=by rw [List.take_take,Nat.min_eq_left hk]
  rw [e]
  unfold kw at hk ⊢
  generalize l.take (min l.length M)=p at hk h2 ⊢
  by_cases hf : fi 10 p<p.length
  · rw [if_pos hf,List.dropLast_eq_take,List.length_take,Nat.min_eq_left (by omega),Nat.add_sub_cancel,List.take_take,Nat.min_eq_left (by omega)]
    intro c hc
    obtain ⟨j,hj⟩:=List.getElem?_of_mem hc
    have hlt:=(List.getElem?_eq_some_iff.1 hj).1
    rw [List.length_take] at hlt
    rw [List.getElem?_take_of_lt (by omega)] at hj
    have:=fF 10 p (j:=j) (by omega)
    rw [List.getD_eq_getElem?_getD,hj] at this
    exact this
  · rw [if_neg hf]
    intro c hc e10
    rw [List.take_length] at hc
    have hm : c ∈ p:=List.dropLast_subset _ hc
    rw [e10] at hm
    exact hf ((vE 10 p).2 hm)
theorem rq : aK Tryz.prog 32:=⟨_,Tryz.func32,rfl,by kernel_rfl⟩
theorem jI : aK Tryz.prog 70:=⟨_,Tryz.func70,rfl,by kernel_rfl⟩
theorem ec : e6 Tryz.prog 5=some 1:=by kernel_rfl
theorem tU {n lc : Nat} {L : List Bt} (h : 515<L.length) (hn : L.length=n) : ∀ o,Sl.aO 5 1 n lc ((L.map U8).take (513 * 1)++(L.map U8).drop (n - 2)++(L.map U8).drop (513 * 1+2 * 1)) o→Sl.aO 5 1 515 lc ((tr L).map U8) o:=by
  intro o ho
  have:=si (j:=515) (by omega) o ho
  rw [show tr L=L.take 513++L.drop (L.length - 2) from if_pos h,hn,List.map_append,List.map_take,List.map_drop]
  rw [List.take_append_of_le_length (by simp only [List.length_append,List.length_take,List.length_drop,List.length_map];omega),List.take_of_length_le (by simp only [List.length_append,List.length_take,List.length_drop,List.length_map];omega)] at this
  exact this
theorem tV (lb lc : Nat) (L : List Bt) (m : Nat) (h : m<lc) : aC.v (aC.snd ⟨some ⟨lb,0,none⟩,lc,L⟩ m)=.slice (some ⟨lb,m,none⟩) (L.length - m) (lc - m):=by
  unfold aC.v aC.snd
  rw [if_neg (by show ¬ lc=m;omega),List.length_drop]
  simp [Addr.add]
  intro h
  exact h.symm
theorem tW (lb lc : Nat) (L : List Bt) (m : Nat) (h : m≤L.length) : aC.v (aC.fst ⟨some ⟨lb,0,none⟩,lc,L⟩ m)=.slice (some ⟨lb,0,none⟩) m lc:=by
  unfold aC.v aC.fst
  rw [List.length_take,Nat.min_eq_left h]
  by_cases h0 : lc=0
  · rw [if_pos h0]
  · rw [if_neg h0];simp [Addr.add]
def tX (b : Nat) (S : Po) (s : aC) (S0 : List Nat) (w : World) : Ending→World→Prop:=fun e w'=>∃ z : Pw,(z.ok∧z.is ⟨S.st,S.fr,S.to,S.ln++s.l.take (kw (mo S.st) s.l),S.dt,S.ms⟩)∧e=.returned (s.snd (kw (mo S.st) s.l)).v∧aa w S0 (z.E b) w'
set_option maxHeartbeats 16000000 in
theorem tY (b : Nat) (z : Pw) (S : Po) (ok : z.ok) (hs : z.is S) (s : aC) (hpos : 0<s.l.length) (hsz : S.ln.length+s.l.length≤1000000) (w : World) (hok : s.ok w) (haw : dS s (keys (z.E b))) (h0 : aa w (keys (z.E b)) (z.E b) w) : Calls Tryz.prog 32 [Pt b 0,s.v].toArray w (tX b S s (keys (z.E b)) w):=by
  have hlen:=hok.len
  have hzl : z.ln.length≤S.ln.length:=by
    rw [hs.ln]
    unfold oe
    split
    · exact Nat.le_refl _
    · exact tT _
  have cmo : ∀ (S1 : List Nat) (w' : World),aa w S1 (z.E b) w'→Calls Tryz.prog 69 [Pt b 0].toArray w' fun e w2=>e=.returned (N (mo S.st))∧Ext w' w2:=fun S1 w' hw'=>by
    have:=u7 b z w' ((gu hw').weak (.keep _ _ _ _ _ _ (fun _ h=>h) (.nil _)))
    rw [hs.st] at this
    exact this
  have hln : ∀ x : List Bt,(S.st=4→z.ln++x=oe ⟨S.st,S.fr,S.to,S.ln++x,S.dt,S.ms⟩)∧(¬ S.st=4→tr (z.ln++x)=oe ⟨S.st,S.fr,S.to,S.ln++x,S.dt,S.ms⟩):=fun x=>by
    refine ⟨fun h=>?_,fun h=>?_⟩
    · rw [hs.ln]
      unfold oe
      rw [if_pos h,if_pos h]
    · rw [hs.ln]
      unfold oe
      rw [if_neg h,if_neg h]
      exact wJ _ _
  have hM4 : S.st=4→mo S.st=4194304:=fun h=>if_pos h
  have hM5 : ¬ S.st=4→mo S.st=513:=fun h=>if_neg h
  have hMp : 513≤mo S.st∧mo S.st≤4194304:=by unfold mo;split <;> omega
  generalize hS : keys (z.E b)=S0 at h0 haw ⊢
  unfold tX
  have hkl:=vP (mo S.st) s.l
  have hkd : kw (mo S.st) s.l=if fi 10 (s.fst (min s.l.length (mo S.st))).l<(s.fst (min s.l.length (mo S.st))).l.length then fi 10 (s.fst (min s.l.length (mo S.st))).l+1 else (s.fst (min s.l.length (mo S.st))).l.length:=rfl
  generalize kw (mo S.st) s.l=k at hkl hkd ⊢
  generalize mo S.st=M at cmo hM4 hM5 hMp hkd ⊢
  have cmo':=cmo S0
  have hfl : (s.fst (min s.l.length M)).l.length=min s.l.length M:=by show (s.l.take _).length=_;rw [List.length_take];omega
  refine enter (n:=63) Tryz.func32 rfl rfl rfl h0 ?_
  repeat (first | refine JL.q (by first|(apply OQ.ak (vs:=[Pt b 0]);exact sY;rfl;exact (fun w' hw'=>cmo' w' hw'))|(apply OQ.len (k:=s.l.length) (ad:=s.ad) (cap:=s.cap);exact Tryz.underlying22;rfl)|(apply OQ.xb (a:=s.l.length) (c:=M);rfl;rfl)|(apply OQ.fst (s:=s) (m:=min s.l.length M);exact Tryz.underlying22;exact ec;rfl;rfl;exact (Nat.min_le_left _ _);exact hlen)|(apply OQ.move;rfl)|(apply OQ.assign;rfl)) rfl ?_ | refine JC.seq ?_ | refine JC.region ?_ | refine JL.nil ?_ | refine JE.next ?_)
  have hy0 : ∀ w',s.ok w'→(s.fst (min s.l.length M)).ok w':=fun w' h=>h.fst _
  have hy0l : (s.fst (min s.l.length M)).l=s.l.take (min s.l.length M):=rfl
  generalize s.fst (min s.l.length M)=y0 at hkd hfl hy0 hy0l ⊢
  have hix0 : ∀ w',aa w S0 (z.E b) w'→Calls Tryz.prog 70 [y0.v,U8 10].toArray w' fun e w2=>e=.returned (I (gI 10 y0.l))∧Ext w' w2:=fun w' hw'=>tQ y0 10 w' (hy0 w' (vN hok hw' haw))
  by_cases hf : fi 10 y0.l<y0.l.length
  · rw [if_pos hf] at hkd
    rw [show gI 10 y0.l=(fi 10 y0.l : Nat) from if_pos hf] at hix0
    have hge : decide ((0 : Int)≤((fi 10 y0.l : Nat) : Int))=true:=decide_eq_true (by omega)
    generalize fi 10 y0.l=kf at hf hkd hix0 hge ⊢
    repeat (first | refine JL.q (by first|(apply OQ.ak (vs:=[y0.v,U8 10]);exact jI;rfl;exact hix0)|(apply OQ.cJ (a:=(kf : Int)) (b:=0);rfl;rfl;exact hge)|(apply OQ.move;rfl)|(apply OQ.assign;rfl)) rfl ?_ | refine JC.seq ?_ | refine JC.region ?_ | refine JL.nil ?_ | refine JE.next ?_)
    refine JC.cond_true rfl rfl ?_
    repeat (first | refine JL.q (by first|(apply OQ.bh (a:=kf) (b:=1);rfl;rfl;exact (by omega))|(apply OQ.fst (s:=y0) (m:=kf+1);exact Tryz.underlying22;exact ec;rfl;rfl;exact (by omega);exact (hy0 w hok).len)|(apply OQ.move;rfl)|(apply OQ.assign;rfl)|(apply OQ.aJ;rfl)|(apply OQ.bA;rfl;rfl;rfl;exact (by decide);rfl)) rfl ?_ | refine JC.seq ?_ | refine JC.region ?_ | refine JL.nil ?_ | refine JE.next ?_)
    have hy1 : ∀ w',s.ok w'→(y0.fst (kf+1)).ok w':=fun w' h=>(hy0 w' h).fst _
    have hy1l : (y0.fst (kf+1)).l=s.l.take k:=by show y0.l.take (kf+1)=_;rw [hy0l,List.take_take,hkd,Nat.min_eq_left (by omega)]
    generalize y0.fst (kf+1)=y at hy1 hy1l ⊢
    have hyn : y.l.length=k:=by rw [hy1l,List.length_take];omega
    repeat (refine JL.q (by first|(apply OQ.load;exact cW;rfl;exact .here;exact (Row.cell (v:=ag z.ql z.ln.length) rfl))|(apply OQ.move;rfl)) rfl ?_)
    refine JL.perm (M':=ay 5 z.ql (z.ln.map U8)++(⟨b,Row 75 z.cs,true⟩::(z.T++(z.D++z.M)))) ?_ (aM fun _ _ y=>by simp only [Pw.E,Pw.R,Pw.L,List.count_append,List.count_cons,List.count_nil];omega)
    refine JL.dj (cs:=y.l.map U8) (m:=y.l.length) (ad:=y.ad) (sc:=y.cap) z.ql Tryz.underlying22 cc (fun h=>by rw [ok.l h];rfl) (by rw [List.length_map];rfl) rfl (by rw [List.length_map]) (fun w' hw'=>(hy1 w' (vN hok hw' haw)).reads) (b5 _) rfl (by rw [List.length_map];omega) (by rw [List.length_map];omega) rfl fun q3 hq3=>?_
    have hq3' : q3=none→z.ln++y.l=[]:=fun h=>by
      have:=hq3 h
      rw [← List.map_append] at this
      exact List.map_eq_nil_iff.1 this
    clear hq3
    rw [← List.map_append,List.length_map]
    have hLl : (z.ln++y.l).length≤1000000:=by rw [List.length_append];omega
    have hlx:=hln y.l
    rw [hy1l] at hlx
    generalize hL : z.ln++y.l=L at hq3' hLl ⊢
    rw [← hy1l,hL,hy1l] at hlx
    have hq3:=hq3'
    refine JL.perm (M':=⟨b,Row 75 z.cs,true⟩::(ay 5 q3 (L.map U8)++(z.T++(z.D++z.M)))) ?_ (aM fun _ _ y=>by simp only [Pw.E,Pw.R,Pw.L,List.count_append,List.count_cons,List.count_nil];omega)
    repeat (refine JL.q (by first|(apply OQ.aJ;rfl)|(apply OQ.bA;rfl;rfl;rfl;exact (by decide);rfl)) rfl ?_)
    refine JL.sx q3 L rfl rfl ?_
    by_cases hbig : M<L.length - 2
    · have h4 : ¬ S.st=4:=fun h=>by have:=hM4 h;omega
      have hM:=hM5 h4
      subst hM
      repeat (first | refine JL.q (by first|(apply OQ.load;exact cW;rfl;exact .here;exact (Row.cell (v:=ag q3 L.length) rfl))|(apply OQ.gw;exact Tryz.underlying22;exact (fun h=>congrArg List.length (hq3 h));rfl)|(apply OQ.eP (a:=L.length) (b:=2);rfl;rfl;exact (by omega);exact (by omega))|(apply OQ.fh (a:=L.length - 2) (b:=513);rfl;rfl;exact hbig)|(apply OQ.move;rfl)|(apply OQ.assign;rfl)|(apply OQ.aJ;rfl)|(apply OQ.bA;rfl;rfl;rfl;exact (by decide);rfl)) rfl ?_ | refine JC.seq ?_ | refine JC.region ?_ | refine JL.nil ?_ | refine JE.next ?_)
      refine JC.cond_true rfl rfl ?_
      obtain ⟨⟨lb,lc⟩,rfl⟩ : ∃ p,q3=some p:=by
        cases q3 with
        | none=>rw [hq3 rfl] at hbig;simp at hbig
        | some p=>exact ⟨p,rfl⟩
      obtain ⟨n,hn⟩ : ∃ n,L.length=n:=⟨_,rfl⟩
      refine JC.lF (F:=n≤lc) (fun w' hw'=>?_) fun hlc=>?_
      · obtain ⟨o,_,sp,_,_,_,h3⟩:=hw'.get (b:=lb) (A:=Sl.aO 5 1 (L.map U8).length lc (L.map U8)) (wr:=true) (.there .here)
        rw [List.length_map,hn] at h3
        exact h3
      have hv6 : aC.v (aC.fst ⟨some ⟨lb,0,none⟩,lc,L⟩ 513)=.slice (some ⟨lb,0,none⟩) 513 lc:=tW lb lc L 513 (by omega)
      have hv12 : aC.v (aC.snd ⟨some ⟨lb,0,none⟩,lc,L⟩ (n - 2))=.slice (some ⟨lb,n - 2,none⟩) 2 (lc - (n - 2)):=by
        rw [tV lb lc L (n - 2) (by omega),hn,show n - (n - 2)=2 by omega]
      have hvL : aC.v ⟨some ⟨lb,0,none⟩,lc,L⟩=ag (some (lb,lc)) L.length:=rfl
      have hd2 : ((L.map U8).drop (n - 2)).length=2 * 1:=by rw [List.length_drop,List.length_map,hn];omega
      have hbn : 513<n - 2:=by omega
      rw [hn]
      have hrd : ∀ {u w1 : World} {S1 : List Nat} {M1 : List aF},aa u S1 (⟨lb,Sl.aO 5 1 n lc (L.map U8),true⟩::M1) w1→Reads w1 (some ⟨lb,n - 2,none⟩) ((L.map U8).drop (n - 2)):=fun {u w1 S1 M1} hw=>by
        have h1 : aC.ok w1 ⟨some ⟨lb,0,none⟩,lc,L⟩:=fW (q:=some (lb,lc)) (M:=M1) (by show aa _ _ (⟨lb,Sl.aO 5 1 (L.map U8).length lc (L.map U8),true⟩::M1) _;rw [List.length_map,hn];exact hw)
        have h2:=(h1.snd (n - 2) (by show n - 2≤L.length;omega)).reads
        have h3 : (aC.snd ⟨some ⟨lb,0,none⟩,lc,L⟩ (n - 2)).ad=some ⟨lb,n - 2,none⟩:=by
          have:=hv12
          unfold aC.v at this
          injection this
        rw [h3] at h2
        show Reads w1 _ _
        rw [← List.map_drop]
        exact h2
      let vs : Nat→Nat→Value:=fun j y=>match j with
        | 0=>Pt b 0
        | 1=>Pt b 0
        | 2=>Pt b 0
        | 3=>Pt b 3
        | 4=>.slice (some ⟨lb,0,none⟩) n lc
        | 5=>N 513
        | 6=>.slice (some ⟨lb,0,none⟩) 513 lc
        | 7=>Pt b 0
        | 8=>Pt b 0
        | 9=>Pt b 3
        | 10=>.slice (some ⟨lb,0,none⟩) n lc
        | 11=>N (n - 2)
        | 12=>.slice (some ⟨lb,n - 2,none⟩) 2 (lc - (n - 2))
        | 13=>.slice (some ⟨lb,0,none⟩) 515 lc
        | 14=>Pt b 0
        | 15=>Pt b 3
        | _=>N 0
      let Ms : Nat→Nat→List aF:=fun j y=>match j with
        | 13=>[⟨lb,Sl.aO 5 1 n lc ((L.map U8).take (513 * 1)++(L.map U8).drop (n - 2)++(L.map U8).drop (513 * 1+2 * 1)),true⟩]
        | 16=>[⟨b,Row 75 [N z.st,Z z.fr,ag z.qt z.to.length,ag (some (lb,lc)) 515,ag z.qd z.dt.length,ag z.qm z.zs.length],true⟩]
        | 17=>[⟨b,Row 75 [N z.st,Z z.fr,ag z.qt z.to.length,ag (some (lb,lc)) n,ag z.qd z.dt.length,ag z.qm z.zs.length],true⟩]
        | 18=>[⟨lb,Sl.aO 5 1 n lc (L.map U8),true⟩]
        | 19=>(z.T++(z.D++z.M))
        | _=>[]
      refine JC.grow (g:=⟨[(0,Pt b 0),(5,N 513),(8,N (n - 2)),(1,s.v),(6,y.v)],20,vs,Ms,(fun j=>match j with | 2=>[(1,44)] | 3=>[(2,45)] | 4=>[(3,46)] | 6=>[(4,47),(5,48)] | 8=>[(7,50)] | 9=>[(8,51)] | 10=>[(9,52)] | 12=>[(10,53),(11,54)] | 13=>[(6,49),(12,55)] | 14=>[(0,43)] | 15=>[(14,57)] | 16=>[(15,58),(13,56)] | _=>[]),(fun j=>match j with | 4=>[17] | 10=>[17] | 13=>[18] | 16=>[17] | _=>[]),(fun j=>match j with | 13=>[18] | 16=>[17] | _=>[]),(fun j=>match j with | _=>none)⟩) [] [16,13,19] ei (by repeat (first | exact af.nil | refine af.cons _ _ _ rfl ?_)) ?_ (by kernel_rfl) (by kernel_rfl) (by kernel_rfl) ?_ ?_
      · show av (⟨b,Row 75 [N z.st,Z z.fr,ag z.qt z.to.length,ag (some (lb,lc)) n,ag z.qd z.dt.length,ag z.qm z.zs.length],true⟩::(⟨lb,Sl.aO 5 1 n lc (L.map U8),true⟩::((z.T++(z.D++z.M))++[]))) _;rw [List.append_nil,← hn];show av _ (⟨b,Row 75 [N z.st,Z z.fr,ag z.qt z.to.length,ag (some (lb,lc)) L.length,ag z.qd z.dt.length,ag z.qm z.zs.length],true⟩::(⟨lb,Sl.aO 5 1 (L.map U8).length lc (L.map U8),true⟩::(z.T++(z.D++z.M))));rw [List.length_map];exact av.refl _
      · refine ⟨?_,?_,?_,?_,?_,?_,?_,?_,?_,?_,?_,?_,?_,?_,?_,?_,?_,trivial⟩
        · (intro xx EF MF Q kk;(try refine JL.aT rfl rfl ?_);exact JL.q (OQ.move rfl) rfl (JL.nil (kk default nofun)))
        · (intro xx EF MF Q kk;(try refine JL.aT rfl rfl ?_);exact JL.q (OQ.move rfl) rfl (JL.nil (kk default nofun)))
        · (intro xx EF MF Q kk;(try refine JL.aT rfl rfl ?_);exact JL.q (OQ.aJ rfl) rfl (JL.nil (kk default nofun)))
        · (intro xx EF MF Q kk;(try refine JL.aT rfl rfl ?_);exact JL.q (OQ.bA rfl rfl rfl (by decide) rfl) rfl (JL.nil (kk default nofun)))
        · (intro xx EF MF Q kk;(try refine JL.aT rfl rfl ?_);exact JL.q (OQ.load cW rfl .here (Row.cell (v:=.slice (some ⟨lb,0,none⟩) n lc) rfl)) rfl (JL.nil (kk default nofun)))
        · (intro xx EF MF Q kk;(try refine JL.aT rfl rfl ?_);exact JL.q (OQ.move rfl) rfl (JL.nil (kk default nofun)))
        · (intro xx EF MF Q kk;(try refine JL.aT rfl rfl ?_);exact JL.q (OQ.to (OQ.fst (s:=⟨some ⟨lb,0,none⟩,lc,L⟩) (m:=513) Tryz.underlying22 ec (by rw [hvL,hn];rfl) rfl (by show 513≤L.length;omega) (by show L.length≤lc;omega)) hv6) rfl (JL.nil (kk default nofun)))
        · (intro xx EF MF Q kk;(try refine JL.aT rfl rfl ?_);exact JL.q (OQ.move rfl) rfl (JL.nil (kk default nofun)))
        · (intro xx EF MF Q kk;(try refine JL.aT rfl rfl ?_);exact JL.q (OQ.aJ rfl) rfl (JL.nil (kk default nofun)))
        · (intro xx EF MF Q kk;(try refine JL.aT rfl rfl ?_);exact JL.q (OQ.bA rfl rfl rfl (by decide) rfl) rfl (JL.nil (kk default nofun)))
        · (intro xx EF MF Q kk;(try refine JL.aT rfl rfl ?_);exact JL.q (OQ.load cW rfl .here (Row.cell (v:=.slice (some ⟨lb,0,none⟩) n lc) rfl)) rfl (JL.nil (kk default nofun)))
        · (intro xx EF MF Q kk;(try refine JL.aT rfl rfl ?_);exact JL.q (OQ.move rfl) rfl (JL.nil (kk default nofun)))
        · (intro xx EF MF Q kk;(try refine JL.aT rfl rfl ?_);exact JL.q (OQ.to (OQ.snd (s:=⟨some ⟨lb,0,none⟩,lc,L⟩) (m:=n - 2) Tryz.underlying22 ec (by rw [hvL,hn];rfl) rfl (by show n - 2≤L.length;omega)) hv12) rfl (JL.nil (kk default nofun)))
        · (intro xx EF MF Q kk;exact JL.mc (b:=lb) (i:=513) (m:=2) (k:=n) (xs:=L.map U8) (cs:=(L.map U8).drop (n - 2)) Tryz.underlying22 cc rfl rfl .here hd2 (fun w1 hw1=>hrd hw1) (fun v hv=>b5 _ v (List.drop_subset _ _ hv)) (by decide) (by omega) rfl rfl (JL.nil (kk 0 nofun)))
        · (intro xx EF MF Q kk;(try refine JL.aT rfl rfl ?_);exact JL.q (OQ.aJ rfl) rfl (JL.nil (kk default nofun)))
        · (intro xx EF MF Q kk;(try refine JL.aT rfl rfl ?_);exact JL.q (OQ.bA rfl rfl rfl (by decide) rfl) rfl (JL.nil (kk default nofun)))
        · (intro xx EF MF Q kk;exact JL.bJ (b:=b) (v:=.slice (some ⟨lb,0,none⟩) 515 lc) (r:=[N z.st,Z z.fr,ag z.qt z.to.length,ag (some (lb,lc)) n,ag z.qd z.dt.length,ag z.qm z.zs.length]) (r':=[N z.st,Z z.fr,ag z.qt z.to.length,ag (some (lb,lc)) 515,ag z.qd z.dt.length,ag z.qm z.zs.length]) mh rfl rfl rfl rfl .here (show 3<6 by decide) rfl (JL.nil (kk 0 nofun)))
      · intro xx hx
        show JE _ _ _ _ _ [(0,Pt b 0),(5,N 513),(8,N (n - 2)),(1,s.v),(6,y.v)] (⟨b,Row 75 [N z.st,Z z.fr,ag z.qt z.to.length,ag (some (lb,lc)) 515,ag z.qd z.dt.length,ag z.qm z.zs.length],true⟩::(⟨lb,Sl.aO 5 1 n lc ((L.map U8).take (513 * 1)++(L.map U8).drop (n - 2)++(L.map U8).drop (513 * 1+2 * 1)),true⟩::((z.T++(z.D++z.M))++[])))
        rw [List.append_nil]
        clear hx xx vs Ms
        repeat (first | refine JL.q (by first|(apply OQ.len (k:=y.l.length) (ad:=y.ad) (cap:=y.cap);exact Tryz.underlying22;rfl)|(apply OQ.snd (s:=s) (m:=y.l.length);exact Tryz.underlying22;exact ec;rfl;rfl;exact (by omega))|(apply OQ.move;rfl)|(apply OQ.assign;rfl)) rfl ?_ | refine JC.seq ?_ | refine JC.region ?_ | refine JL.nil ?_ | refine JE.next ?_)
        rw [hyn]
        refine JC.ret ?_
        skip
        refine JE.aE rfl (RV.tmp rfl) fun w' hw=>⟨{ z with ql:=some (lb,lc),ln:=tr L },⟨⟨ok.t,nofun,ok.d,ok.m⟩,⟨hs.st,hs.fr,hs.to,?_,hs.dt,hs.ms⟩⟩,rfl,?_⟩
        · exact (hlx.2 h4)
        · have h515 : 515<L.length:=by omega
          have htl : (tr L).length=515:=by rw [show tr L=L.take 513++L.drop (L.length - 2) from if_pos h515,List.length_append,List.length_take,List.length_drop];omega
          have hwz:=hw.weak (.keep b (Row 75 [N z.st,Z z.fr,ag z.qt z.to.length,ag (some (lb,lc)) 515,ag z.qd z.dt.length,ag z.qm z.zs.length]) (Row 75 [N z.st,Z z.fr,ag z.qt z.to.length,ag (some (lb,lc)) 515,ag z.qd z.dt.length,ag z.qm z.zs.length]) true _ _ (fun _ h=>h) (.keep lb _ (Sl.aO 5 1 515 lc ((tr L).map U8)) true (z.T++(z.D++z.M)) (z.T++(z.D++z.M)) (tU h515 hn) (av.refl _)))
          refine hwz.perm' ?_
          unfold Pw.E
          have e1 : Pw.cs { z with ql:=some (lb,lc),ln:=tr L }=[N z.st,Z z.fr,ag z.qt z.to.length,ag (some (lb,lc)) 515,ag z.qd z.dt.length,ag z.qm z.zs.length]:=by show [_,_,_,ag (some (lb,lc)) (tr L).length,_,_]=_;rw [htl]
          have e2 : Pw.R { z with ql:=some (lb,lc),ln:=tr L }=z.T++([⟨lb,Sl.aO 5 1 515 lc ((tr L).map U8),true⟩]++(z.D++z.M)):=by
            show z.T++(ay 5 (some (lb,lc)) ((tr L).map U8)++(z.D++z.M))=_
            unfold ay
            rw [List.length_map,htl]
          rw [e1,e2]
          exact aM fun _ _ x=>by simp only [List.count_append,List.count_cons,List.count_nil];omega
    · have hno : decide ((M : Int)<((L.length : Nat) : Int) - 2)=false:=decide_eq_false (by omega)
      repeat (first | refine JL.q (by first|(apply OQ.load;exact cW;rfl;exact .here;exact (Row.cell (v:=ag q3 L.length) rfl))|(apply OQ.gw;exact Tryz.underlying22;exact (fun h=>congrArg List.length (hq3 h));rfl)|(apply OQ.qa (a:=((L.length : Nat) : Int)) (b:=2);rfl;rfl;exact (by omega);exact (by omega))|(apply OQ.eW (a:=((L.length : Nat) : Int) - 2) (b:=(M : Int));rfl;rfl;exact hno)|(apply OQ.move;rfl)|(apply OQ.assign;rfl)|(apply OQ.aJ;rfl)|(apply OQ.bA;rfl;rfl;rfl;exact (by decide);rfl)) rfl ?_ | refine JC.seq ?_ | refine JC.region ?_ | refine JL.nil ?_ | refine JE.next ?_)
      refine JC.cond_false rfl rfl ?_
      repeat (first | refine JL.q (by first|(apply OQ.len (k:=y.l.length) (ad:=y.ad) (cap:=y.cap);exact Tryz.underlying22;rfl)|(apply OQ.snd (s:=s) (m:=y.l.length);exact Tryz.underlying22;exact ec;rfl;rfl;exact (by omega))|(apply OQ.move;rfl)|(apply OQ.assign;rfl)) rfl ?_ | refine JC.seq ?_ | refine JC.region ?_ | refine JC.skip ?_ | refine JL.nil ?_ | refine JE.next ?_)
      rw [hyn]
      refine JC.ret ?_
      skip
      refine JE.aE rfl (RV.tmp rfl) fun w' hw=>⟨{ z with ql:=q3,ln:=L },⟨⟨ok.t,hq3,ok.d,ok.m⟩,⟨hs.st,hs.fr,hs.to,?_,hs.dt,hs.ms⟩⟩,rfl,?_⟩
      · show L=_
        by_cases h4 : S.st=4
        · exact hlx.1 h4
        · rw [← hlx.2 h4]
          have:=hM5 h4
          exact (if_neg (by omega)).symm
      · refine hw.perm' ?_
        exact aM fun _ _ x=>by simp only [Pw.E,Pw.R,Pw.L,List.count_append,List.count_cons,List.count_nil];simp only [Pw.T,Pw.D,Pw.M];omega
  · rw [if_neg hf] at hkd
    rw [show gI 10 y0.l=(-1 : Int) from if_neg hf] at hix0
    have hge : decide ((0 : Int)≤(-1 : Int))=false:=rfl
    repeat (first | refine JL.q (by first|(apply OQ.ak (vs:=[y0.v,U8 10]);exact jI;rfl;exact hix0)|(apply OQ.cJ (a:=(-1 : Int)) (b:=0);rfl;rfl;exact hge)|(apply OQ.move;rfl)|(apply OQ.assign;rfl)) rfl ?_ | refine JC.seq ?_ | refine JC.region ?_ | refine JL.nil ?_ | refine JE.next ?_)
    refine JC.cond_false rfl rfl ?_
    repeat (first | refine JL.q (by first|(apply OQ.move;rfl)|(apply OQ.aJ;rfl)|(apply OQ.bA;rfl;rfl;rfl;exact (by decide);rfl)) rfl ?_ | refine JC.seq ?_ | refine JC.region ?_ | refine JC.skip ?_ | refine JE.next ?_)
    have hy1:=hy0
    have hy1l : y0.l=s.l.take k:=by rw [hy0l,hkd,hfl]
    generalize y0=y at hy1 hy1l ⊢
    have hyn : y.l.length=k:=by rw [hy1l,List.length_take];omega
    repeat (refine JL.q (by first|(apply OQ.load;exact cW;rfl;exact .here;exact (Row.cell (v:=ag z.ql z.ln.length) rfl))|(apply OQ.move;rfl)) rfl ?_)
    refine JL.perm (M':=ay 5 z.ql (z.ln.map U8)++(⟨b,Row 75 z.cs,true⟩::(z.T++(z.D++z.M)))) ?_ (aM fun _ _ y=>by simp only [Pw.E,Pw.R,Pw.L,List.count_append,List.count_cons,List.count_nil];omega)
    refine JL.dj (cs:=y.l.map U8) (m:=y.l.length) (ad:=y.ad) (sc:=y.cap) z.ql Tryz.underlying22 cc (fun h=>by rw [ok.l h];rfl) (by rw [List.length_map];rfl) rfl (by rw [List.length_map]) (fun w' hw'=>(hy1 w' (vN hok hw' haw)).reads) (b5 _) rfl (by rw [List.length_map];omega) (by rw [List.length_map];omega) rfl fun q3 hq3=>?_
    have hq3' : q3=none→z.ln++y.l=[]:=fun h=>by
      have:=hq3 h
      rw [← List.map_append] at this
      exact List.map_eq_nil_iff.1 this
    clear hq3
    rw [← List.map_append,List.length_map]
    have hLl : (z.ln++y.l).length≤1000000:=by rw [List.length_append];omega
    have hlx:=hln y.l
    rw [hy1l] at hlx
    generalize hL : z.ln++y.l=L at hq3' hLl ⊢
    rw [← hy1l,hL,hy1l] at hlx
    have hq3:=hq3'
    refine JL.perm (M':=⟨b,Row 75 z.cs,true⟩::(ay 5 q3 (L.map U8)++(z.T++(z.D++z.M)))) ?_ (aM fun _ _ y=>by simp only [Pw.E,Pw.R,Pw.L,List.count_append,List.count_cons,List.count_nil];omega)
    repeat (refine JL.q (by first|(apply OQ.aJ;rfl)|(apply OQ.bA;rfl;rfl;rfl;exact (by decide);rfl)) rfl ?_)
    refine JL.sx q3 L rfl rfl ?_
    by_cases hbig : M<L.length - 2
    · have h4 : ¬ S.st=4:=fun h=>by have:=hM4 h;omega
      have hM:=hM5 h4
      subst hM
      repeat (first | refine JL.q (by first|(apply OQ.load;exact cW;rfl;exact .here;exact (Row.cell (v:=ag q3 L.length) rfl))|(apply OQ.gw;exact Tryz.underlying22;exact (fun h=>congrArg List.length (hq3 h));rfl)|(apply OQ.eP (a:=L.length) (b:=2);rfl;rfl;exact (by omega);exact (by omega))|(apply OQ.fh (a:=L.length - 2) (b:=513);rfl;rfl;exact hbig)|(apply OQ.move;rfl)|(apply OQ.assign;rfl)|(apply OQ.aJ;rfl)|(apply OQ.bA;rfl;rfl;rfl;exact (by decide);rfl)) rfl ?_ | refine JC.seq ?_ | refine JC.region ?_ | refine JL.nil ?_ | refine JE.next ?_)
      refine JC.cond_true rfl rfl ?_
      obtain ⟨⟨lb,lc⟩,rfl⟩ : ∃ p,q3=some p:=by
        cases q3 with
        | none=>rw [hq3 rfl] at hbig;simp at hbig
        | some p=>exact ⟨p,rfl⟩
      obtain ⟨n,hn⟩ : ∃ n,L.length=n:=⟨_,rfl⟩
      refine JC.lF (F:=n≤lc) (fun w' hw'=>?_) fun hlc=>?_
      · obtain ⟨o,_,sp,_,_,_,h3⟩:=hw'.get (b:=lb) (A:=Sl.aO 5 1 (L.map U8).length lc (L.map U8)) (wr:=true) (.there .here)
        rw [List.length_map,hn] at h3
        exact h3
      have hv6 : aC.v (aC.fst ⟨some ⟨lb,0,none⟩,lc,L⟩ 513)=.slice (some ⟨lb,0,none⟩) 513 lc:=tW lb lc L 513 (by omega)
      have hv12 : aC.v (aC.snd ⟨some ⟨lb,0,none⟩,lc,L⟩ (n - 2))=.slice (some ⟨lb,n - 2,none⟩) 2 (lc - (n - 2)):=by
        rw [tV lb lc L (n - 2) (by omega),hn,show n - (n - 2)=2 by omega]
      have hvL : aC.v ⟨some ⟨lb,0,none⟩,lc,L⟩=ag (some (lb,lc)) L.length:=rfl
      have hd2 : ((L.map U8).drop (n - 2)).length=2 * 1:=by rw [List.length_drop,List.length_map,hn];omega
      have hbn : 513<n - 2:=by omega
      rw [hn]
      have hrd : ∀ {u w1 : World} {S1 : List Nat} {M1 : List aF},aa u S1 (⟨lb,Sl.aO 5 1 n lc (L.map U8),true⟩::M1) w1→Reads w1 (some ⟨lb,n - 2,none⟩) ((L.map U8).drop (n - 2)):=fun {u w1 S1 M1} hw=>by
        have h1 : aC.ok w1 ⟨some ⟨lb,0,none⟩,lc,L⟩:=fW (q:=some (lb,lc)) (M:=M1) (by show aa _ _ (⟨lb,Sl.aO 5 1 (L.map U8).length lc (L.map U8),true⟩::M1) _;rw [List.length_map,hn];exact hw)
        have h2:=(h1.snd (n - 2) (by show n - 2≤L.length;omega)).reads
        have h3 : (aC.snd ⟨some ⟨lb,0,none⟩,lc,L⟩ (n - 2)).ad=some ⟨lb,n - 2,none⟩:=by
          have:=hv12
          unfold aC.v at this
          injection this
        rw [h3] at h2
        show Reads w1 _ _
        rw [← List.map_drop]
        exact h2
      let vs : Nat→Nat→Value:=fun j y=>match j with
        | 0=>Pt b 0
        | 1=>Pt b 0
        | 2=>Pt b 0
        | 3=>Pt b 3
        | 4=>.slice (some ⟨lb,0,none⟩) n lc
        | 5=>N 513
        | 6=>.slice (some ⟨lb,0,none⟩) 513 lc
        | 7=>Pt b 0
        | 8=>Pt b 0
        | 9=>Pt b 3
        | 10=>.slice (some ⟨lb,0,none⟩) n lc
        | 11=>N (n - 2)
        | 12=>.slice (some ⟨lb,n - 2,none⟩) 2 (lc - (n - 2))
        | 13=>.slice (some ⟨lb,0,none⟩) 515 lc
        | 14=>Pt b 0
        | 15=>Pt b 3
        | _=>N 0
      let Ms : Nat→Nat→List aF:=fun j y=>match j with
        | 13=>[⟨lb,Sl.aO 5 1 n lc ((L.map U8).take (513 * 1)++(L.map U8).drop (n - 2)++(L.map U8).drop (513 * 1+2 * 1)),true⟩]
        | 16=>[⟨b,Row 75 [N z.st,Z z.fr,ag z.qt z.to.length,ag (some (lb,lc)) 515,ag z.qd z.dt.length,ag z.qm z.zs.length],true⟩]
        | 17=>[⟨b,Row 75 [N z.st,Z z.fr,ag z.qt z.to.length,ag (some (lb,lc)) n,ag z.qd z.dt.length,ag z.qm z.zs.length],true⟩]
        | 18=>[⟨lb,Sl.aO 5 1 n lc (L.map U8),true⟩]
        | 19=>(z.T++(z.D++z.M))
        | _=>[]
      refine JC.grow (g:=⟨[(0,Pt b 0),(5,N 513),(8,N (n - 2)),(1,s.v),(6,y.v)],20,vs,Ms,(fun j=>match j with | 2=>[(1,44)] | 3=>[(2,45)] | 4=>[(3,46)] | 6=>[(4,47),(5,48)] | 8=>[(7,50)] | 9=>[(8,51)] | 10=>[(9,52)] | 12=>[(10,53),(11,54)] | 13=>[(6,49),(12,55)] | 14=>[(0,43)] | 15=>[(14,57)] | 16=>[(15,58),(13,56)] | _=>[]),(fun j=>match j with | 4=>[17] | 10=>[17] | 13=>[18] | 16=>[17] | _=>[]),(fun j=>match j with | 13=>[18] | 16=>[17] | _=>[]),(fun j=>match j with | _=>none)⟩) [] [16,13,19] ei (by repeat (first | exact af.nil | refine af.cons _ _ _ rfl ?_)) ?_ (by kernel_rfl) (by kernel_rfl) (by kernel_rfl) ?_ ?_
      · show av (⟨b,Row 75 [N z.st,Z z.fr,ag z.qt z.to.length,ag (some (lb,lc)) n,ag z.qd z.dt.length,ag z.qm z.zs.length],true⟩::(⟨lb,Sl.aO 5 1 n lc (L.map U8),true⟩::((z.T++(z.D++z.M))++[]))) _;rw [List.append_nil,← hn];show av _ (⟨b,Row 75 [N z.st,Z z.fr,ag z.qt z.to.length,ag (some (lb,lc)) L.length,ag z.qd z.dt.length,ag z.qm z.zs.length],true⟩::(⟨lb,Sl.aO 5 1 (L.map U8).length lc (L.map U8),true⟩::(z.T++(z.D++z.M))));rw [List.length_map];exact av.refl _
      · refine ⟨?_,?_,?_,?_,?_,?_,?_,?_,?_,?_,?_,?_,?_,?_,?_,?_,?_,trivial⟩
        · (intro xx EF MF Q kk;(try refine JL.aT rfl rfl ?_);exact JL.q (OQ.move rfl) rfl (JL.nil (kk default nofun)))
        · (intro xx EF MF Q kk;(try refine JL.aT rfl rfl ?_);exact JL.q (OQ.move rfl) rfl (JL.nil (kk default nofun)))
        · (intro xx EF MF Q kk;(try refine JL.aT rfl rfl ?_);exact JL.q (OQ.aJ rfl) rfl (JL.nil (kk default nofun)))
        · (intro xx EF MF Q kk;(try refine JL.aT rfl rfl ?_);exact JL.q (OQ.bA rfl rfl rfl (by decide) rfl) rfl (JL.nil (kk default nofun)))
        · (intro xx EF MF Q kk;(try refine JL.aT rfl rfl ?_);exact JL.q (OQ.load cW rfl .here (Row.cell (v:=.slice (some ⟨lb,0,none⟩) n lc) rfl)) rfl (JL.nil (kk default nofun)))
        · (intro xx EF MF Q kk;(try refine JL.aT rfl rfl ?_);exact JL.q (OQ.move rfl) rfl (JL.nil (kk default nofun)))
        · (intro xx EF MF Q kk;(try refine JL.aT rfl rfl ?_);exact JL.q (OQ.to (OQ.fst (s:=⟨some ⟨lb,0,none⟩,lc,L⟩) (m:=513) Tryz.underlying22 ec (by rw [hvL,hn];rfl) rfl (by show 513≤L.length;omega) (by show L.length≤lc;omega)) hv6) rfl (JL.nil (kk default nofun)))
        · (intro xx EF MF Q kk;(try refine JL.aT rfl rfl ?_);exact JL.q (OQ.move rfl) rfl (JL.nil (kk default nofun)))
        · (intro xx EF MF Q kk;(try refine JL.aT rfl rfl ?_);exact JL.q (OQ.aJ rfl) rfl (JL.nil (kk default nofun)))
        · (intro xx EF MF Q kk;(try refine JL.aT rfl rfl ?_);exact JL.q (OQ.bA rfl rfl rfl (by decide) rfl) rfl (JL.nil (kk default nofun)))
        · (intro xx EF MF Q kk;(try refine JL.aT rfl rfl ?_);exact JL.q (OQ.load cW rfl .here (Row.cell (v:=.slice (some ⟨lb,0,none⟩) n lc) rfl)) rfl (JL.nil (kk default nofun)))
        · (intro xx EF MF Q kk;(try refine JL.aT rfl rfl ?_);exact JL.q (OQ.move rfl) rfl (JL.nil (kk default nofun)))
        · (intro xx EF MF Q kk;(try refine JL.aT rfl rfl ?_);exact JL.q (OQ.to (OQ.snd (s:=⟨some ⟨lb,0,none⟩,lc,L⟩) (m:=n - 2) Tryz.underlying22 ec (by rw [hvL,hn];rfl) rfl (by show n - 2≤L.length;omega)) hv12) rfl (JL.nil (kk default nofun)))
        · (intro xx EF MF Q kk;exact JL.mc (b:=lb) (i:=513) (m:=2) (k:=n) (xs:=L.map U8) (cs:=(L.map U8).drop (n - 2)) Tryz.underlying22 cc rfl rfl .here hd2 (fun w1 hw1=>hrd hw1) (fun v hv=>b5 _ v (List.drop_subset _ _ hv)) (by decide) (by omega) rfl rfl (JL.nil (kk 0 nofun)))
        · (intro xx EF MF Q kk;(try refine JL.aT rfl rfl ?_);exact JL.q (OQ.aJ rfl) rfl (JL.nil (kk default nofun)))
        · (intro xx EF MF Q kk;(try refine JL.aT rfl rfl ?_);exact JL.q (OQ.bA rfl rfl rfl (by decide) rfl) rfl (JL.nil (kk default nofun)))
        · (intro xx EF MF Q kk;exact JL.bJ (b:=b) (v:=.slice (some ⟨lb,0,none⟩) 515 lc) (r:=[N z.st,Z z.fr,ag z.qt z.to.length,ag (some (lb,lc)) n,ag z.qd z.dt.length,ag z.qm z.zs.length]) (r':=[N z.st,Z z.fr,ag z.qt z.to.length,ag (some (lb,lc)) 515,ag z.qd z.dt.length,ag z.qm z.zs.length]) mh rfl rfl rfl rfl .here (show 3<6 by decide) rfl (JL.nil (kk 0 nofun)))
      · intro xx hx
        show JE _ _ _ _ _ [(0,Pt b 0),(5,N 513),(8,N (n - 2)),(1,s.v),(6,y.v)] (⟨b,Row 75 [N z.st,Z z.fr,ag z.qt z.to.length,ag (some (lb,lc)) 515,ag z.qd z.dt.length,ag z.qm z.zs.length],true⟩::(⟨lb,Sl.aO 5 1 n lc ((L.map U8).take (513 * 1)++(L.map U8).drop (n - 2)++(L.map U8).drop (513 * 1+2 * 1)),true⟩::((z.T++(z.D++z.M))++[])))
        rw [List.append_nil]
        clear hx xx vs Ms
        repeat (first | refine JL.q (by first|(apply OQ.len (k:=y.l.length) (ad:=y.ad) (cap:=y.cap);exact Tryz.underlying22;rfl)|(apply OQ.snd (s:=s) (m:=y.l.length);exact Tryz.underlying22;exact ec;rfl;rfl;exact (by omega))|(apply OQ.move;rfl)|(apply OQ.assign;rfl)) rfl ?_ | refine JC.seq ?_ | refine JC.region ?_ | refine JL.nil ?_ | refine JE.next ?_)
        rw [hyn]
        refine JC.ret ?_
        skip
        refine JE.aE rfl (RV.tmp rfl) fun w' hw=>⟨{ z with ql:=some (lb,lc),ln:=tr L },⟨⟨ok.t,nofun,ok.d,ok.m⟩,⟨hs.st,hs.fr,hs.to,?_,hs.dt,hs.ms⟩⟩,rfl,?_⟩
        · exact (hlx.2 h4)
        · have h515 : 515<L.length:=by omega
          have htl : (tr L).length=515:=by rw [show tr L=L.take 513++L.drop (L.length - 2) from if_pos h515,List.length_append,List.length_take,List.length_drop];omega
          have hwz:=hw.weak (.keep b (Row 75 [N z.st,Z z.fr,ag z.qt z.to.length,ag (some (lb,lc)) 515,ag z.qd z.dt.length,ag z.qm z.zs.length]) (Row 75 [N z.st,Z z.fr,ag z.qt z.to.length,ag (some (lb,lc)) 515,ag z.qd z.dt.length,ag z.qm z.zs.length]) true _ _ (fun _ h=>h) (.keep lb _ (Sl.aO 5 1 515 lc ((tr L).map U8)) true (z.T++(z.D++z.M)) (z.T++(z.D++z.M)) (tU h515 hn) (av.refl _)))
          refine hwz.perm' ?_
          unfold Pw.E
          have e1 : Pw.cs { z with ql:=some (lb,lc),ln:=tr L }=[N z.st,Z z.fr,ag z.qt z.to.length,ag (some (lb,lc)) 515,ag z.qd z.dt.length,ag z.qm z.zs.length]:=by show [_,_,_,ag (some (lb,lc)) (tr L).length,_,_]=_;rw [htl]
          have e2 : Pw.R { z with ql:=some (lb,lc),ln:=tr L }=z.T++([⟨lb,Sl.aO 5 1 515 lc ((tr L).map U8),true⟩]++(z.D++z.M)):=by
            show z.T++(ay 5 (some (lb,lc)) ((tr L).map U8)++(z.D++z.M))=_
            unfold ay
            rw [List.length_map,htl]
          rw [e1,e2]
          exact aM fun _ _ x=>by simp only [List.count_append,List.count_cons,List.count_nil];omega
    · have hno : decide ((M : Int)<((L.length : Nat) : Int) - 2)=false:=decide_eq_false (by omega)
      repeat (first | refine JL.q (by first|(apply OQ.load;exact cW;rfl;exact .here;exact (Row.cell (v:=ag q3 L.length) rfl))|(apply OQ.gw;exact Tryz.underlying22;exact (fun h=>congrArg List.length (hq3 h));rfl)|(apply OQ.qa (a:=((L.length : Nat) : Int)) (b:=2);rfl;rfl;exact (by omega);exact (by omega))|(apply OQ.eW (a:=((L.length : Nat) : Int) - 2) (b:=(M : Int));rfl;rfl;exact hno)|(apply OQ.move;rfl)|(apply OQ.assign;rfl)|(apply OQ.aJ;rfl)|(apply OQ.bA;rfl;rfl;rfl;exact (by decide);rfl)) rfl ?_ | refine JC.seq ?_ | refine JC.region ?_ | refine JL.nil ?_ | refine JE.next ?_)
      refine JC.cond_false rfl rfl ?_
      repeat (first | refine JL.q (by first|(apply OQ.len (k:=y.l.length) (ad:=y.ad) (cap:=y.cap);exact Tryz.underlying22;rfl)|(apply OQ.snd (s:=s) (m:=y.l.length);exact Tryz.underlying22;exact ec;rfl;rfl;exact (by omega))|(apply OQ.move;rfl)|(apply OQ.assign;rfl)) rfl ?_ | refine JC.seq ?_ | refine JC.region ?_ | refine JC.skip ?_ | refine JL.nil ?_ | refine JE.next ?_)
      rw [hyn]
      refine JC.ret ?_
      skip
      refine JE.aE rfl (RV.tmp rfl) fun w' hw=>⟨{ z with ql:=q3,ln:=L },⟨⟨ok.t,hq3,ok.d,ok.m⟩,⟨hs.st,hs.fr,hs.to,?_,hs.dt,hs.ms⟩⟩,rfl,?_⟩
      · show L=_
        by_cases h4 : S.st=4
        · exact hlx.1 h4
        · rw [← hlx.2 h4]
          have:=hM5 h4
          exact (if_neg (by omega)).symm
      · refine hw.perm' ?_
        exact aM fun _ _ x=>by simp only [Pw.E,Pw.R,Pw.L,List.count_append,List.count_cons,List.count_nil];simp only [Pw.T,Pw.D,Pw.M];omega
end dx
end
section
set_option maxRecDepth 10000
open Sl
namespace dx
theorem nt : aK Tryz.prog 34:=⟨_,Tryz.func34,rfl,by kernel_rfl⟩
theorem oE (S : Po) (l : List By) : (aX S l).2.length≤9:=by
  have h0 : ∀ y : List By,y.length≤9→(S,y).2.length≤9:=fun y h=>h
  unfold aX
  split
  · exact h0 _ (by decide)
  split
  · unfold cZ
    split
    · exact (by decide : er.length≤9)
    · exact h0 _ (by decide)
  split
  · unfold bM
    split
    · exact h0 _ (by decide)
    · split
      · exact (by decide : er.length≤9)
      · exact h0 _ (by decide)
  split
  · unfold c9
    split
    · exact h0 _ (by decide)
    · split
      · split
        · exact h0 _ (by decide)
        · exact (by decide : er.length≤9)
      · exact h0 _ (by decide)
  split
  · unfold cx
    split
    · split
      · exact (by decide : xU.length≤9)
      · exact h0 _ (by decide)
    · exact h0 _ (by decide)
  split
  · unfold ct
    split
    · split
      · exact h0 _ (by decide)
      · exact (by decide : er.length≤9)
    · exact h0 _ (by decide)
  split
  · unfold eK
    split
    · exact (by decide : oc.length≤9)
    · exact h0 _ (by decide)
  · exact h0 _ (by decide)
set_option maxHeartbeats 16000000 in
theorem oF (b : Nat) (z : Pw) (S : Po) (ok : z.ok) (hs : z.is S) (hn : S.ln=[]) (h10 : S.to.length≤10) (wf : Dl S.dt) (line : aC) (hsz : line.l.length+S.dt.length+S.ms.length≤999000) (w : World) (hm : gE w (keys (z.E b))) (hok : line.ok w) (haw : dS line (keys (z.E b))) (h0 : aa w (keys (z.E b)) (z.E b) w) : Calls Tryz.prog 34 [Pt b 0,line.v].toArray w (dP (keys (z.E b)) b (aV S line.l) w):=by
  have hob : ∀ w',aa w' (keys (z.E b)) (z.E b) w'→Calls Tryz.prog 72 [Pt b 0,Z line.l].toArray w' (dP (keys (z.E b)) b (aX S line.l) w'):=fun w' h=>s8 b z S ok hs hn h10 line.l (by omega) w' h
  have hta : ∀ w',gE w' (keys (z.E b))→aa w' (keys (z.E b)) (z.E b) w'→Calls Tryz.prog 73 [Pt b 0].toArray w' (dP (keys (z.E b)) b (fo S) w'):=fun w' hm h=>tO b z S ok hs hn (by omega) (pQ wf) w' hm h
  have hms : ∀ w',aa w (keys (z.E b)) (z.E b++[]) w'→gE w' (keys (z.E b)):=fun w' h=>hm.sub h (z.wr b)
  have hdl : z.dt.length=S.dt.length:=by rw [hs.dt]
  generalize hS : keys (z.E b)=S0 at h0 hm haw hob hta hms ⊢
  cases h4 : decide (z.st=4) with
  | false=>
    have e : aV S line.l=((aX S line.l).1,(aX S line.l).2++[13,10]):=if_neg (fun e=>of_decide_eq_false h4 (hs.st.trans e))
    have hol:=oE S line.l
    rw [e]
    generalize aX S line.l=r at hob hol ⊢
    refine enter (n:=44) Tryz.func34 rfl rfl rfl h0 ?_
    repeat (first | refine JL.q (by first|(apply OQ.load;exact bV;rfl;exact .here;exact (Row.cell (v:=N z.st) rfl))|(apply OQ.dI (b:=4);rfl;rfl;exact h4)|(apply OQ.move;rfl)|(apply OQ.assign;rfl)|(apply OQ.aJ;rfl)|(apply OQ.bA;rfl;rfl;rfl;exact (by decide);rfl)) rfl ?_ | refine JC.seq ?_ | refine JC.region ?_ | refine JL.nil ?_ | refine JE.next ?_)
    refine JC.cond_true rfl rfl ?_
    repeat (first | refine JL.q (by first|(apply OQ.nF (s:=line);exact Tryz.underlying22;exact Tryz.underlying5;exact Tryz.underlying9;rfl;exact (fun w' hw'=>vN hok hw' haw))|(apply OQ.move;rfl)) rfl ?_ | refine JC.seq ?_ | refine JC.region ?_)
    refine JL.perm ?_ (List.Perm.of_eq (List.append_nil _).symm)
    refine JL.fQ (ι:={y : Pw // y.ok∧y.is r.1}) (vs:=[Pt b 0,Z line.l]) (fun _=>Z r.2) (fun y=>y.1.E b) qS rfl rfl (z.wr b) (fun y=>Pw.wr b _) (fun w' _ hx=>by
      rw [hS] at hx ⊢
      exact (hob w' hx).mono fun e w2 ⟨y,h1,h2,h3⟩=>⟨⟨y,h1⟩,h2,h3⟩) fun y=>?_
    rw [List.append_nil]
    repeat (first | refine JL.q (by first|(apply OQ.kN (l:=r.2) (r:=[13,10]);rfl;rfl;exact (by show r.2.length+2<_;omega))|(apply OQ.assign;rfl)) rfl ?_ | refine JL.nil ?_ | refine JE.next ?_)
    refine JC.ret ?_
    repeat (refine JE.ah ?_)
    exact JE.aE rfl (RV.tmp rfl) fun w' hw=>⟨y.1,y.2,rfl,hw⟩
  | true=>
    have h4' : S.st=4:=hs.st.symm.trans (of_decide_eq_true h4)
    cases h46 : decide (line.l=[46]) with
    | true=>
      have e : aV S line.l=((fo S).1,(fo S).2++[13,10]):=(if_pos h4').trans (if_pos (of_decide_eq_true h46))
      have hol : (fo S).2.length≤9:=(by decide : er.length≤9)
      rw [e]
      generalize fo S=r at hta hol ⊢
      refine enter (n:=44) Tryz.func34 rfl rfl rfl h0 ?_
      repeat (first | refine JL.q (by first|(apply OQ.load;exact bV;rfl;exact .here;exact (Row.cell (v:=N z.st) rfl))|(apply OQ.dI (b:=4);rfl;rfl;exact h4)|(apply OQ.move;rfl)|(apply OQ.assign;rfl)|(apply OQ.aJ;rfl)|(apply OQ.bA;rfl;rfl;rfl;exact (by decide);rfl)) rfl ?_ | refine JC.seq ?_ | refine JC.region ?_ | refine JL.nil ?_ | refine JE.next ?_)
      refine JC.cond_false rfl rfl ?_
      repeat (first | refine JL.q (by first|(apply OQ.nF (s:=line);exact Tryz.underlying22;exact Tryz.underlying5;exact Tryz.underlying9;rfl;exact (fun w' hw'=>vN hok hw' haw))|(apply OQ.en (r:=[46]);rfl;rfl;exact h46)|(apply OQ.move;rfl)) rfl ?_ | refine JC.seq ?_ | refine JC.region ?_ | refine JC.skip ?_ | refine JL.nil ?_ | refine JE.next ?_)
      refine JC.cond_true rfl rfl ?_
      repeat (first | refine JL.q (by (apply OQ.move;rfl)) rfl ?_ | refine JC.seq ?_ | refine JC.region ?_)
      refine JL.perm ?_ (List.Perm.of_eq (List.append_nil _).symm)
      refine JL.fQ (ι:={y : Pw // y.ok∧y.is r.1}) (vs:=[Pt b 0]) (fun _=>Z r.2) (fun y=>y.1.E b) ri rfl rfl (z.wr b) (fun y=>Pw.wr b _) (fun w' hw' hx=>by
        rw [hS] at hx ⊢
        exact (hta w' (hms w' hw') hx).mono fun e w2 ⟨y,h1,h2,h3⟩=>⟨⟨y,h1⟩,h2,h3⟩) fun y=>?_
      rw [List.append_nil]
      repeat (first | refine JL.q (by first|(apply OQ.kN (l:=r.2) (r:=[13,10]);rfl;rfl;exact (by show r.2.length+2<_;omega))|(apply OQ.assign;rfl)) rfl ?_ | refine JL.nil ?_ | refine JE.next ?_)
      refine JC.ret ?_
      repeat (refine JE.ah ?_)
      exact JE.aE rfl (RV.tmp rfl) fun w' hw=>⟨y.1,y.2,rfl,hw⟩
    | false=>
      have e : aV S line.l=(⟨S.st,S.fr,S.to,S.ln,S.dt++(line.l++[13,10]),S.ms⟩,[]):=(if_pos h4').trans (if_neg (of_decide_eq_false h46))
      rw [e]
      refine enter (n:=44) Tryz.func34 rfl rfl rfl h0 ?_
      repeat (first | refine JL.q (by first|(apply OQ.load;exact bV;rfl;exact .here;exact (Row.cell (v:=N z.st) rfl))|(apply OQ.dI (b:=4);rfl;rfl;exact h4)|(apply OQ.move;rfl)|(apply OQ.assign;rfl)|(apply OQ.aJ;rfl)|(apply OQ.bA;rfl;rfl;rfl;exact (by decide);rfl)) rfl ?_ | refine JC.seq ?_ | refine JC.region ?_ | refine JL.nil ?_ | refine JE.next ?_)
      refine JC.cond_false rfl rfl ?_
      repeat (first | refine JL.q (by first|(apply OQ.nF (s:=line);exact Tryz.underlying22;exact Tryz.underlying5;exact Tryz.underlying9;rfl;exact (fun w' hw'=>vN hok hw' haw))|(apply OQ.en (r:=[46]);rfl;rfl;exact h46)|(apply OQ.move;rfl)) rfl ?_ | refine JC.seq ?_ | refine JC.region ?_ | refine JC.skip ?_ | refine JL.nil ?_ | refine JE.next ?_)
      refine JC.cond_false rfl rfl ?_
      repeat (first | refine JL.q (by first|(apply OQ.load;exact cW;rfl;exact .here;exact (Row.cell (v:=ag z.qd z.dt.length) rfl))|(apply OQ.gw;exact Tryz.underlying22;exact (fun h=>congrArg List.length (ok.d h));rfl)|(apply OQ.nM (a:=z.dt.length) (b:=4194304);rfl;rfl;exact (by omega))|(apply OQ.move;rfl)|(apply OQ.aJ;rfl)|(apply OQ.bA;rfl;rfl;rfl;exact (by decide);rfl)) rfl ?_ | refine JC.seq ?_ | refine JC.region ?_ | refine JC.skip ?_ | refine JL.nil ?_ | refine JE.next ?_)
      refine JC.cond_true rfl rfl ?_
      repeat (first | refine JL.q (by first|(apply OQ.load;exact cW;rfl;exact .here;exact (Row.cell (v:=ag z.qd z.dt.length) rfl))|(apply OQ.move;rfl)|(apply OQ.aJ;rfl)|(apply OQ.bA;rfl;rfl;rfl;exact (by decide);rfl)) rfl ?_ | refine JC.seq ?_ | refine JC.region ?_)
      refine JL.perm (M':=ay 5 z.qd (z.dt.map U8)++(⟨b,Row 75 z.cs,true⟩::(z.T++(z.L++z.M)))) ?_ (aM fun _ _ y=>by simp only [Pw.E,Pw.R,Pw.D,List.count_append,List.count_cons,List.count_nil];omega)
      refine JL.dj (cs:=line.l.map U8) (m:=line.l.length) (ad:=line.ad) (sc:=line.cap) z.qd Tryz.underlying22 cc (fun h=>by rw [ok.d h];rfl) (by rw [List.length_map];rfl) rfl (by rw [List.length_map]) (fun w' hw'=>(vN hok hw' haw).reads) (b5 _) rfl (by rw [List.length_map];omega) (by rw [List.length_map];omega) rfl fun q1 hq1=>?_
      rw [← List.map_append,List.length_map]
      rw [← List.map_append] at hq1
      refine JL.perm (M':=⟨b,Row 75 z.cs,true⟩::(ay 5 q1 ((z.dt++line.l).map U8)++(z.T++(z.L++z.M)))) ?_ (aM fun _ _ y=>by simp only [Pw.E,Pw.R,Pw.D,List.count_append,List.count_cons,List.count_nil];omega)
      repeat (refine JL.q (by first|(apply OQ.aJ;rfl)|(apply OQ.bA;rfl;rfl;rfl;exact (by decide);rfl)) rfl ?_)
      refine JL.pe q1 (z.dt++line.l) rfl rfl ?_
      have hl2 : (z.dt++line.l).length=z.dt.length+line.l.length:=List.length_append
      repeat (first | refine JL.q (by first|(apply OQ.load;exact cW;rfl;exact .here;exact (Row.cell (v:=ag q1 (z.dt++line.l).length) rfl))|(apply OQ.move;rfl)|(apply OQ.aJ;rfl)|(apply OQ.bA;rfl;rfl;rfl;exact (by decide);rfl)) rfl ?_ | refine JC.region ?_ | refine JL.nil ?_ | refine JE.next ?_)
      refine JL.perm (M':=ay 5 q1 ((z.dt++line.l).map U8)++(⟨b,Row 75 (Pw.cs { z with qd:=q1,dt:=z.dt++line.l }),true⟩::(z.T++(z.L++z.M)))) ?_ (aM fun _ _ y=>by simp only [Pw.E,Pw.R,Pw.D,List.count_append,List.count_cons,List.count_nil];omega)
      refine JL.fC (r:=[13,10]) q1 Tryz.underlying22 Tryz.underlying9 cc hq1 (by rw [List.length_map];rfl) rfl (by simp) (by rw [List.length_map];show _+2≤_;omega) rfl fun p4=>?_
      rw [← List.map_append,List.length_map]
      refine JL.perm (M':=⟨b,Row 75 (Pw.cs { z with qd:=q1,dt:=z.dt++line.l }),true⟩::(ay 5 (some p4) ((z.dt++line.l++[13,10]).map U8)++(z.T++(z.L++z.M)))) ?_ (aM fun _ _ y=>by simp only [Pw.E,Pw.R,Pw.D,List.count_append,List.count_cons,List.count_nil];omega)
      repeat (refine JL.q (by first|(apply OQ.aJ;rfl)|(apply OQ.bA;rfl;rfl;rfl;exact (by decide);rfl)) rfl ?_)
      refine JL.pe (z:={ z with qd:=q1,dt:=z.dt++line.l }) (some p4) (z.dt++line.l++[13,10]) rfl rfl ?_
      repeat (first | refine JL.q (by (apply OQ.assign;rfl)) rfl ?_ | refine JC.seq ?_ | refine JC.region ?_ | refine JL.nil ?_ | refine JE.next ?_)
      refine JC.ret ?_
      skip
      refine JE.aE rfl (RV.tmp rfl) fun w' hw=>⟨{ z with qd:=some p4,dt:=z.dt++line.l++[13,10] },⟨⟨ok.t,ok.l,nofun,ok.m⟩,⟨hs.st,hs.fr,hs.to,hG hn hs _ hn,?_,hs.ms⟩⟩,rfl,?_⟩
      · show z.dt++line.l++[13,10]=S.dt++(line.l++[13,10])
        rw [hs.dt,List.append_assoc]
      · refine hw.perm' ?_
        exact aM fun _ _ x=>by simp only [Pw.E,Pw.R,Pw.D,List.count_append,List.count_cons,List.count_nil];simp only [Pw.T,Pw.L,Pw.M];omega
end dx
end
section
set_option maxRecDepth 10000
open Sl
namespace dx
theorem ru : aK Tryz.prog 10:=⟨_,Tryz.func10,rfl,by kernel_rfl⟩
theorem jJ : aK Tryz.prog 33:=⟨_,Tryz.func33,rfl,by kernel_rfl⟩
theorem tZ (l : List Bt) : oz l [13,10]=ends l:=by
  cases he : ends l with
  | true=>
    have h1:=iI he
    have h2:=fu he
    unfold oz
    rw [show ([13,10] : List Bt).length=2 from rfl,decide_eq_true (by omega),Bool.true_and,decide_eq_true_iff]
    have h3 : l.length - 2=l.dropLast.dropLast.length:=by omega
    rw [h3]
    exact (congrArg (List.drop l.dropLast.dropLast.length) h1).trans List.drop_left
  | false=>
    cases hs : oz l [13,10] with
    | false=>rfl
    | true=>
      unfold oz at hs
      rw [Bool.and_eq_true,decide_eq_true_iff,decide_eq_true_iff] at hs
      have h1 : l=l.take (l.length - 2)++[13,10]:=by
        have:=(List.take_append_drop (l.length - 2) l).symm
        rw [show ([13,10] : List Bt).length=2 from rfl] at hs
        rw [hs.2] at this
        exact this
      rw [h1,fq] at he
      cases he
theorem ry (s d : aC) (w : World) (hs : s.ok w) (hd : d.ok w) (hdl : d.l=[13,10]) (hl : s.l.length≤4611686018427387904) :
    Calls Tryz.prog 33 [s.v,d.v].toArray w fun e w'=>e=.returned (.tuple #[(if ends s.l=true then s.fst (s.l.length - 2) else s).v,.bool (ends s.l)])∧Ext w w':=by
  have hsf:=fun (w' : World) (h1 : s.ok w') (h2 : d.ok w')=>vc s d w' h1 h2 hl
  rw [hdl,tZ] at hsf
  have hdn : d.l.length=2:=by rw [hdl];rfl
  refine enter (n:=18) Tryz.func33 rfl rfl rfl (aa.start w []) ?_
  cases h : ends s.l
  · rw [h] at hsf
    rw [if_neg (by simp)]
    repeat (first | refine JL.q (by first|(apply OQ.ak (vs:=[s.v,d.v]);exact mY;rfl;exact (fun w' hw'=>hsf w' (hs.holds hw' rfl) (hd.holds hw' rfl)))|(apply OQ.not;rfl)|(apply OQ.move;rfl)|(apply OQ.assign;rfl)) rfl ?_ | refine JC.seq ?_ | refine JC.region ?_ | refine JL.nil ?_ | refine JE.next ?_)
    refine JC.cond_true rfl rfl ?_
    repeat (first | refine JL.q (by first|(apply OQ.move;rfl)|(apply OQ.assign;rfl)) rfl ?_ | refine JC.seq ?_ | refine JC.region ?_ | refine JL.nil ?_ | refine JE.next ?_)
    refine JC.ret ?_
    repeat (refine JE.ah ?_)
    exact JE.bI rfl (RV.tmp rfl) (RV.tmp rfl) fun w' hw=>⟨rfl,hw.aS⟩
  · rw [h] at hsf
    have hpos:=fu h
    rw [if_pos rfl]
    have he : s.l.length - d.l.length=s.l.length - 2:=by rw [hdn]
    rw [← he]
    repeat (first | refine JL.q (by first|(apply OQ.ak (vs:=[s.v,d.v]);exact mY;rfl;exact (fun w' hw'=>hsf w' (hs.holds hw' rfl) (hd.holds hw' rfl)))|(apply OQ.not;rfl)|(apply OQ.move;rfl)|(apply OQ.assign;rfl)) rfl ?_ | refine JC.seq ?_ | refine JC.region ?_ | refine JL.nil ?_ | refine JE.next ?_)
    refine JC.cond_false rfl rfl ?_
    repeat (first | refine JL.q (by first|(apply OQ.len (k:=s.l.length) (ad:=s.ad) (cap:=s.cap);exact Tryz.underlying22;rfl)|(apply OQ.len (k:=d.l.length) (ad:=d.ad) (cap:=d.cap);exact Tryz.underlying22;rfl)|(apply OQ.eP (a:=s.l.length) (b:=d.l.length);rfl;rfl;exact (by omega);exact (by omega))|(apply OQ.fst (s:=s) (m:=s.l.length - d.l.length);exact Tryz.underlying22;exact ec;rfl;rfl;exact (by omega);exact hs.len)|(apply OQ.move;rfl)|(apply OQ.assign;rfl)) rfl ?_ | refine JC.seq ?_ | refine JC.region ?_ | refine JC.skip ?_ | refine JL.nil ?_ | refine JE.next ?_)
    refine JC.ret ?_
    skip
    exact JE.bI rfl (RV.tmp rfl) (RV.tmp rfl) fun w' hw=>⟨rfl,hw.aS⟩
theorem pS (l : List Bt) : ends (tr l)=ends l:=by
  unfold tr
  split
  · rename_i h
    have hl : l=l.take (l.length - 2)++l.drop (l.length - 2):=(List.take_append_drop _ _).symm
    have h2 : (l.drop (l.length - 2)).length=2:=by rw [List.length_drop];omega
    generalize l.drop (l.length - 2)=q at hl h2 ⊢
    obtain ⟨a,c,rfl⟩ : ∃ a c,q=[a,c]:=by
      match q,h2 with
      | [a,c],_=>exact ⟨a,c,rfl⟩
    have key : ∀ p : List Bt,ends (p++[a,c])=(decide (c=10) && decide (a=13)):=fun p=>by
      unfold ends
      rw [show p++[a,c]=(p++[a])++[c] by simp,List.dropLast_concat,List.getLast?_concat,List.getLast?_concat]
      simp
    conv=>rhs;rw [hl]
    rw [key,key]
  · rfl
theorem rz {S : Po} {l : List Bt} (he : ends l=true) (h4 : ¬ S.st=4) : aV S (tr l).dropLast.dropLast=aV S l.dropLast.dropLast:=by
  by_cases h : 515<l.length
  · have h1 : (tr l).length=515:=by
      unfold tr
      rw [if_pos h,List.length_append,List.length_take,List.length_drop];omega
    have h2 : (tr l).dropLast.dropLast.length=513:=by rw [List.length_dropLast,List.length_dropLast,h1]
    have h3 : 513<l.dropLast.dropLast.length:=by rw [List.length_dropLast,List.length_dropLast];omega
    unfold aV
    rw [if_neg h4,if_neg h4]
    have e : ∀ x : List Bt,512<x.length→aX S x=(S,dG):=fun x hx=>if_pos hx
    rw [e _ (by omega),e _ (by omega)]
  · rw [show tr l=l from if_neg h]
theorem rA {w0 w : World} {S : List Nat} {X M : List aF} {s : aC} (hw : aa w0 S (X++M) w) (hX : ∀ e ∈ X,e.wr=true) (hs : s.ok w0) (ha : dS s S) : dS s (keys X):=by
  intro h0 a e hm
  obtain ⟨y,he,hb⟩:=List.mem_map.1 hm
  have h1:=hs.lt h0 a e
  rcases (hw.all y (List.mem_append_left _ he)).2 (hX y he) with h | h
  · exact ha h0 a e (hb ▸ h)
  · omega
theorem rB {s : aC} {S : List Nat} (ha : dS s S) (m : Nat) : dS (s.snd m) S:=by
  intro h0 a e
  have h1 : s.l≠[]:=fun h=>h0 (by show s.l.drop m=[];rw [h];simp)
  have e' : (if s.cap=m then s.ad else s.ad.map (·.add (m * 1)))=some a:=e
  split at e'
  · exact ha h1 a e'
  · cases had : s.ad with
    | none=>rw [had] at e';cases e'
    | some a2=>
      rw [had] at e'
      have:=ha h1 a2 had
      obtain rfl:=Option.some.inj e'
      have hb : (a2.add (m * 1)).block=a2.block:=by unfold Addr.add;split <;> rfl
      show ¬ (a2.add (m * 1)).block ∈ S
      rw [hb]
      exact this
end dx
end
section
set_option maxRecDepth 10000
open Sl
section
variable {P : Program} {n : Nat} {E : Env} {C : World→Prop} {dst : Option Tmp} {t t' ty : TypeId} {pos : String} {aft : Array Edge} {g : Option (Nat × Bool)} {x y : Operand}
end
end
section
namespace Sl
section
variable {P : Program} {n : Nat} {w0 : World} {S : List Nat} {ops : Array Oper} {Q : Exit→Act→World→Prop} {l : List Oper} {E : Env} {M : List aF} {d : Nat} {t tx e ty : TypeId} {pos : String} {aft : Array Edge} {x y : Operand}
theorem lG {w : World} {i : TypeInfo} (hu : P.underlying t=some (.slice e)) (hk : P.underlying tx=some .string) (hi : P.info? e=some i) :
    (Builtin.append_ #[t,tx] ty #[.slice none 0 0,Z []]).run P w=.ok (.slice none 0 0) w:=by
  simp [Builtin.append_,Z,bu,run_underlying hu,run_underlying hk,sizeOf,typeInfo,hi,Builtin.lenOf,Builtin.firstCells,storeCells]
  rw [if_pos (show (⟨#[]⟩ : ByteArray)=ByteArray.empty from rfl)]
  rfl
theorem JL.ua {r : List Bt} {xs : List Value} (q : Acc) (hu : P.underlying t=some (.slice e)) (hk : P.underlying tx=some .string) (hi : EI P e (.int .u8 0) 1 1) (hq : q=none→xs=[]) (hx : ev E x=some (ag q xs.length)) (hy : ev E y=some (Z r))
    (hsm : (xs.length+r.length)≤140737488355328) (hd : Nat.blt d n=true)
    (kk : ∀ q' : Acc,(q'=none→xs++r.map U8=[])→JL P n w0 S ops Q l ((d,ag q' (xs++r.map U8).length)::E) (ay e q' (xs++r.map U8)++M)) : JL P n w0 S ops Q (⟨some d,.call ⟨.builtin .append,#[x,y],#[t,tx]⟩,ty,pos,aft,none⟩::l) E (ay e q xs++M):=by
  by_cases h0 : r=[]
  · subst h0
    cases q with
    | none=>
      obtain rfl:=hq rfl
      refine ⟨fun a w ha hw=>wpList_plain rfl fun K hK=>?_⟩
      obtain ⟨i,hi1,_⟩:=hi.get
      have hx' : a.eval x=.slice none 0 0:=ha.eval hx
      unfold Oper.wp
      simp only [execOp,resolve,invoke,builtin,Sem.run_bind,Sem.run_pure,Result.andThen_ok,List.map_toArray,List.map_cons,List.map_nil,hx',ha.eval hy]
      rw [lG hu hk hi1]
      exact hK _ _ ((kk none fun _=>rfl).go _ _ (ha.put d _ hd) hw)
    | some p=>
      have e1 : (xs++([] : List Bt).map U8).length=xs.length+([] : List Bt).length:=by simp
      refine JL.o3 (b:=p.1) (cap:=p.2) (k:=xs.length) (xs:=xs) (fun b' cap'=>ay e (some (b',cap')) (xs++([] : List Bt).map U8)++M) hu hk hi hx hy (fun b' cap'=>?_) hsm hd fun b' cap'=>?_
      · show aL (⟨p.1,Sl.aO e 1 xs.length p.2 xs,true⟩::M) _ _ _ _ (⟨b',Sl.aO e 1 (xs++([] : List Bt).map U8).length cap' (xs++([] : List Bt).map U8),true⟩::M)
        rw [e1]
        exact .here
      · have:=kk (some (b',cap')) nofun
        rw [e1] at this
        exact this
  · exact JL.fC q hu hk hi hq hx hy h0 hsm hd fun p=>kk (some p) nofun
end
end Sl
end
section
set_option maxRecDepth 10000
open Sl
namespace dx
theorem JC.wL {P : Program} {n : Nat} {w0 : World} {S : List Nat} {Q : Exit→Act→World→Prop} {E : Env} {M : List aF} {ι : Type} (l : Nat) (Ei : ι→Env) (Mi : ι→List aF) (μ : ι→Nat) (I : ι→Prop) {c rest : Code} (hf : findLabel c l=some (.seq .skip rest))
    (pass : ∀ i,I i→JC P n w0 S (Exit.jump l (uI n w0 S Ei Mi fun j=>I j∧μ j<μ i) Q) rest (Ei i) (Mi i))
    (first : (∀ i,I i→JC P n w0 S (Exit.jump l (uI n w0 S Ei Mi I) Q) rest (Ei i) (Mi i))→JC P n w0 S (Exit.jump l (uI n w0 S Ei Mi I) Q) c E M) : JC P n w0 S Q (.scope c) E M:=
  JC.scope l Ei Mi μ I hf (first fun i hi=>(pass i hi).mono fun e a w hq=>by
    cases e with
    | goto l'=>exact ⟨hq.1,let ⟨j,h1,h2⟩:=hq.2;⟨j,h1.1,h2⟩⟩
    | _=>exact hq) fun i hi=>JC.seq (JC.skip (JE.next (pass i hi)))
structure Fd where
  z : Pw
  S : Po
  r : aC
  q : Acc
  o : List Bt
def uc (b : Nat) (S : Po) (l : List Bt) (S0 : List Nat) (w : World) : Ending→World→Prop:=fun e w'=>∃ i : {p : Pw × Acc // (p.1.ok∧p.1.is (an S l).1)∧(p.2=none→(an S l).2=[])},e=.returned (ag i.1.2 (an S l).2.length)∧aa w S0 (i.1.1.E b++ay 5 i.1.2 ((an S l).2.map U8)) w'
theorem lH {S S1 : Po} {l r o : List Bt} (h : an S l=((an S1 r).1,o++(an S1 r).2)) (h2 : an S1 r=(S1,[])) : an S l=(S1,o):=by
  rw [h,h2,List.append_nil]
theorem ud : ∀ v ∈ ([U8 13,U8 10] : List Value),v.cells=#[v]:=by
  intro v hv
  simp only [List.mem_cons,List.not_mem_nil,or_false] at hv
  rcases hv with rfl | rfl <;> rfl
theorem nu (S : Po) (l : List By) : (aV S l).2.length≤11:=by
  unfold aV
  split
  · split
    · show ((fo S).2++[13,10]).length≤11
      exact (by decide : (er++[13,10]).length≤11)
    · exact Nat.zero_le _
  · have:=oE S l
    show ((aX S l).2++[13,10]).length≤11
    rw [List.length_append]
    show _+2≤11
    omega
set_option maxHeartbeats 32000000 in
theorem ue (b : Nat) (z : Pw) (S : Po) (ok : z.ok) (hs : z.is S) (wf : S.wf) (s : aC) (hsl : s.l.length≤900000) (hft : S.fit (900000 - s.l.length)) (w : World) (hm : gE w (keys (z.E b))) (hok : s.ok w) (haw : dS s (keys (z.E b))) (h0 : aa w (keys (z.E b)) (z.E b) w) : Calls Tryz.prog 10 [Pt b 0,s.v].toArray w (uc b S s.l (keys (z.E b)) w):=by
  generalize hS : keys (z.E b)=S0 at h0 hm haw ⊢
  unfold uc
  refine enter (n:=38) Tryz.func10 rfl rfl rfl h0 ?_
  repeat (first | refine JL.q (by (apply OQ.assign;rfl)) rfl ?_ | refine JC.seq ?_ | refine JC.region ?_ | refine JL.nil ?_ | refine JE.next ?_)
  refine JC.wL (ι:=Fd) 0 (fun i=>[(0,Pt b 0),(1,i.r.v),(5,ag i.q i.o.length)]) (fun i=>i.z.E b++ay 5 i.q (i.o.map U8)) (fun i=>i.r.l.length)
    (fun i=>(i.z.ok∧i.z.is i.S)∧(i.S.wf∧i.S.fit (900000 - i.r.l.length))∧i.r.l.length≤900000∧(i.r.ok w∧dS i.r S0)∧(i.q=none→i.o=[])∧i.o.length+11 * i.r.l.length≤9900000∧an S s.l=((an i.S i.r.l).1,i.o++(an i.S i.r.l).2)) rfl ?_ ?_
  · rintro ⟨z,T,r,q,o⟩ ⟨⟨zok,zis⟩,⟨Twf,Tfit⟩,hrl,⟨rok,raw⟩,hq,hol,hfe⟩
    dsimp only at zok zis Twf Tfit hrl rok raw hq hol hfe ⊢
    have ccl : ∀ w',aa w S0 (z.E b++ay 5 q (o.map U8)) w'→Calls Tryz.prog 13 [Pt b 0].toArray w' fun e w2=>e=.returned (.bool (decide (z.st=5)))∧Ext w' w2:=fun w' hw'=>jz b z w' ((gu hw').weak (.keep _ _ _ _ _ _ (fun _ h=>h) (.nil _)))
    cases h5 : decide (z.st=5) with
    | true=>
      rw [h5] at ccl
      have h5' : T.st=5:=zis.st.symm.trans (of_decide_eq_true h5)
      have hfe2:=lH hfe (fZ h5' r.l)
      rw [hfe2]
      repeat (first | refine JL.q (by first|(apply OQ.ak (vs:=[Pt b 0]);exact dQ;rfl;exact (fun w' hw'=>ccl w' hw'))|(apply OQ.az;rfl;rfl)|(apply OQ.move;rfl)) rfl ?_ | refine JC.seq ?_ | refine JC.region ?_ | refine JL.nil ?_ | refine JE.next ?_ | refine JL.aU rfl rfl rfl rfl ?_)
      refine JC.cond_true rfl rfl ?_
      repeat (first | refine JL.q (by first|(apply OQ.move;rfl)|(apply OQ.assign;rfl)) rfl ?_ | refine JC.seq ?_ | refine JC.region ?_ | refine JL.nil ?_ | refine JE.next ?_)
      refine JC.ret (JE.ah (JE.fm ?_))
      exact JE.aE rfl (RV.tmp rfl) fun w' hw=>⟨⟨(z,q),⟨zok,zis⟩,hq⟩,rfl,hw⟩
    | false=>
      rw [h5] at ccl
      have h5' : T.st≠5:=fun e=>of_decide_eq_false h5 (zis.st.trans e)
      cases hr0 : decide (r.l.length=0) with
      | true=>
        have hrn : r.l=[]:=List.eq_nil_of_length_eq_zero (of_decide_eq_true hr0)
        have hfe2:=lH hfe (by rw [hrn];rfl)
        rw [hfe2]
        repeat (first | refine JL.q (by first|(apply OQ.ak (vs:=[Pt b 0]);exact dQ;rfl;exact (fun w' hw'=>ccl w' hw'))|(apply OQ.aB;rfl;rfl)|(apply OQ.len (k:=r.l.length) (ad:=r.ad) (cap:=r.cap);exact Tryz.underlying22;rfl)|(apply OQ.eX (b:=0);rfl;rfl;exact hr0)|(apply OQ.move;rfl)) rfl ?_ | refine JC.seq ?_ | refine JC.region ?_ | refine JL.nil ?_ | refine JE.next ?_ | refine JL.aT rfl rfl ?_)
        refine JC.cond_true rfl rfl ?_
        repeat (first | refine JL.q (by first|(apply OQ.move;rfl)|(apply OQ.assign;rfl)) rfl ?_ | refine JC.seq ?_ | refine JC.region ?_ | refine JL.nil ?_ | refine JE.next ?_)
        refine JC.ret (JE.ah (JE.fm ?_))
        exact JE.aE rfl (RV.tmp rfl) fun w' hw=>⟨⟨(z,q),⟨zok,zis⟩,hq⟩,rfl,hw⟩
      | false=>
        have hrp : 0<r.l.length:=Nat.pos_of_ne_zero (of_decide_eq_false hr0)
        repeat (first | refine JL.q (by first|(apply OQ.ak (vs:=[Pt b 0]);exact dQ;rfl;exact (fun w' hw'=>ccl w' hw'))|(apply OQ.aB;rfl;rfl)|(apply OQ.len (k:=r.l.length) (ad:=r.ad) (cap:=r.cap);exact Tryz.underlying22;rfl)|(apply OQ.eX (b:=0);rfl;rfl;exact hr0)|(apply OQ.move;rfl)) rfl ?_ | refine JC.seq ?_ | refine JC.region ?_ | refine JL.nil ?_ | refine JE.next ?_ | refine JL.aT rfl rfl ?_)
        refine JC.cond_false rfl rfl ?_
        repeat (first | refine JL.q (by (apply OQ.move;rfl)) rfl ?_ | refine JC.seq ?_ | refine JC.region ?_ | refine JC.skip ?_ | refine JE.next ?_)
        obtain ⟨k,hk⟩ : ∃ k,kw (mo T.st) r.l=k:=⟨_,rfl⟩
        have hkp : 0<k:=hk ▸ wK hrp (by unfold mo;split <;> omega)
        have hkl : k≤r.l.length:=hk ▸ vP _ _
        have hkn : ∀ c ∈ (r.l.take k).dropLast,c≠10:=hk ▸ xK _ _
        have hx0 : r.l.take k≠[]:=fun h=>by
          have:=congrArg List.length h
          rw [List.length_take,List.length_nil] at this
          omega
        have hTsz : T.ln.length+r.l.length≤1000000:=by
          have:=Tfit.sz
          unfold Po.sz at this
          omega
        have hpf:=gT T (r.l.take k) _ Tfit
        have hpw:=nk Twf Tfit.to hx0 hkn
        have hpc:=jf (r.l.take k) T h5' hx0 hkn
        have hrs : (r.snd k).l=r.l.drop k:=rfl
        have hrsl : (r.snd k).l.length=r.l.length - k:=by rw [hrs,List.length_drop]
        have hfe3 : an T r.l=((an (bg T (r.l.take k)).1 (r.snd k).l).1,(bg T (r.l.take k)).2++(an (bg T (r.l.take k)).1 (r.snd k).l).2):=by
          rw [← hpc,hrs,← dc,List.take_append_drop]
        have hpf' : (bg T (r.l.take k)).1.fit (900000 - (r.snd k).l.length):=by
          have e1 : 900000 - r.l.length+(r.l.take k).length=900000 - (r.snd k).l.length:=by rw [hrsl,List.length_take];omega
          exact e1 ▸ hpf
        have hfe4 : an S s.l=((an (bg T (r.l.take k)).1 (r.snd k).l).1,(o++(bg T (r.l.take k)).2)++(an (bg T (r.l.take k)).1 (r.snd k).l).2):=by
          rw [hfe,hfe3,List.append_assoc]
        have rok2 : (r.snd k).ok w:=rok.snd k hkl
        have raw2 : dS (r.snd k) S0:=rB raw k
        obtain ⟨x,hx⟩ : ∃ x,r.l.take k=x:=⟨_,rfl⟩
        rw [hx] at hpf' hpw hfe4
        refine JL.fQ (X:=z.E b) (M0:=ay 5 q (o.map U8)) (ι:={y : Pw // y.ok∧y.is ⟨T.st,T.fr,T.to,T.ln++x,T.dt,T.ms⟩}) (vs:=[Pt b 0,r.v]) (fun _=>(r.snd k).v) (fun y=>y.1.E b) rq rfl rfl (z.wr b) (fun y=>Pw.wr b _) (fun w' hw' hx'=>by
          refine (tY b z T zok zis r hrp hTsz w' (vN rok hw' raw) (rA hw' (z.wr b) rok raw) hx').mono fun e w2 ⟨y,h1,h2,h3⟩=>?_
          rw [hk] at h1 h2
          rw [hx] at h1
          exact ⟨⟨y,h1⟩,h2,h3⟩) fun y=>?_
        obtain ⟨y,yok,yis⟩:=y
        dsimp only
        repeat (first | refine JL.q (by first|(apply OQ.load;exact cW;rfl;exact .here;exact (Row.cell (v:=ag y.ql y.ln.length) rfl))|(apply OQ.move;rfl)|(apply OQ.assign;rfl)|(apply OQ.aJ;rfl)|(apply OQ.bA;rfl;rfl;rfl;exact (by decide);rfl)) rfl ?_ | refine JC.seq ?_ | refine JC.region ?_ | refine JL.nil ?_ | refine JE.next ?_)
        refine JL.uC (xs:=[.const (U8 13),.const (U8 10)]) (vs:=[U8 13,U8 10]) Tryz.underlying22 cc rfl rfl rfl rfl ud rfl (by decide) (by decide) rfl fun bl _=>?_
        refine JL.mark (r:=[U8 13,U8 10]) (te:=5) Tryz.underlying22 Tryz.underlying5 rfl .here rfl ?_
        have hlv : aC.v (bR y.ql y.ln)=ag y.ql y.ln.length:=dW _ _
        have hll : (bR y.ql y.ln).l=y.ln:=dX yok.l
        have hyl : y.ln.length≤1000000:=by
          have h1:=yis.ln
          have h2 : (oe ⟨T.st,T.fr,T.to,T.ln++x,T.dt,T.ms⟩).length≤(T.ln++x).length:=by
            unfold oe
            split
            · exact Nat.le_refl _
            · exact tT _
          rw [h1]
          rw [List.length_append] at h2
          have : x.length≤r.l.length:=by rw [← hx,List.length_take];omega
          omega
        have hlo : ∀ {w' : World} {N1 : List aF},aa w S0 (N1++((y.E b)++ay 5 q (o.map U8))) w'→(bR y.ql y.ln).ok w':=fun {w' N1} hw'=>by
          refine fW (e:=5) (q:=y.ql) (l:=y.ln) (M:=N1++(⟨b,Row 75 y.cs,true⟩::(y.T++(y.D++(y.M++ay 5 q (o.map U8)))))) (w0:=w) (S:=S0) (hw'.perm' ?_)
          exact aM fun _ _ v=>by simp only [Pw.E,Pw.R,Pw.L,List.count_append,List.count_cons];omega
        have hcs : ∀ w',aa w S0 (⟨bl,lY 5 [U8 13,U8 10],true⟩::(y.E b++ay 5 q (o.map U8))) w'→Calls Tryz.prog 33 [ag y.ql y.ln.length,aC.v ⟨some ⟨bl,0,none⟩,2,[13,10]⟩].toArray w' fun e w2=>e=.returned (.tuple #[(if ends y.ln=true then (bR y.ql y.ln).fst (y.ln.length - 2) else bR y.ql y.ln).v,.bool (ends y.ln)])∧Ext w' w2:=fun w' hw'=>by
          have h1:=hlo (N1:=[_]) hw'
          have h2:=ry (bR y.ql y.ln) ⟨some ⟨bl,0,none⟩,2,[13,10]⟩ w' h1 (jC (l:=[13,10]) hw' .here (Nat.le_refl _)) rfl (by rw [hll];omega)
          rw [hlv,hll] at h2
          exact h2
        cases hen : ends y.ln with
        | false=>
          rw [hen,if_neg (by simp)] at hcs
          have heT : ends (T.ln++x)=false:=by
            rw [← hen,yis.ln]
            unfold oe
            split
            · rfl
            · exact (pS _).symm
          have hpn : bg T x=(⟨T.st,T.fr,T.to,T.ln++x,T.dt,T.ms⟩,[]):=by unfold bg;rw [heT];rfl
          rw [hpn] at hpf' hpw hfe4
          repeat (first | refine JL.q (by first|(apply OQ.ak (vs:=[ag y.ql y.ln.length,aC.v ⟨some ⟨bl,0,none⟩,2,[13,10]⟩]);exact jJ;rfl;exact hcs)|(apply OQ.extract;rfl;rfl)|(apply OQ.move;rfl)|(apply OQ.assign;rfl)) rfl ?_ | refine JC.seq ?_ | refine JC.region ?_ | refine JL.nil ?_ | refine JE.next ?_)
          refine JC.cond_false rfl rfl ?_
          repeat (first | refine JC.skip ?_ | refine JE.next ?_)
          refine JC.goto ?_
          refine JE.fD ⟨y,_,r.snd k,q,o⟩ ⟨⟨⟨yok,yis⟩,⟨hpw,hpf'⟩,by show (r.snd k).l.length≤_;omega,⟨rok2,raw2⟩,hq,?_,?_⟩,?_⟩ (by repeat (first | exact af.nil | refine af.cons _ _ _ rfl ?_)) (.drop _ _ _ (av.refl _))
          · show o.length+11 * (r.snd k).l.length≤_
            omega
          · rw [hfe4,List.append_nil]
          · show (r.snd k).l.length<r.l.length
            omega
        | true=>
          have hle:=fu hen
          rw [hen,if_pos rfl] at hcs
          have heT : ends (T.ln++x)=true:=by
            rw [← hen,yis.ln]
            unfold oe
            split
            · rfl
            · exact (pS _).symm
          have hlineq : aV ⟨T.st,T.fr,T.to,[],T.dt,T.ms⟩ y.ln.dropLast.dropLast=aV ⟨T.st,T.fr,T.to,[],T.dt,T.ms⟩ (T.ln++x).dropLast.dropLast:=by
            rw [yis.ln]
            unfold oe
            split
            · rfl
            · rename_i h4
              exact rz heT h4
          have hpn : bg T x=aV ⟨T.st,T.fr,T.to,[],T.dt,T.ms⟩ y.ln.dropLast.dropLast:=by unfold bg;rw [heT,if_pos rfl,hlineq]
          rw [hpn] at hpf' hpw hfe4
          obtain ⟨⟨lb,lc⟩,hql⟩ : ∃ p,y.ql=some p:=by
            cases hq2 : y.ql with
            | none=>rw [yok.l hq2] at hen;cases hen
            | some p=>exact ⟨p,rfl⟩
          obtain ⟨line,hline⟩ : ∃ line,(bR y.ql y.ln).fst (y.ln.length - 2)=line:=⟨_,rfl⟩
          have hlnl : line.l=y.ln.dropLast.dropLast:=by
            rw [← hline]
            show (bR y.ql y.ln).l.take (y.ln.length - 2)=_
            rw [hll,List.dropLast_eq_take,List.dropLast_eq_take,List.length_take,List.take_take]
            congr 1
            omega
          have hlad : ∀ a,line.ad=some a→a.block=lb:=fun a ha=>by
            rw [← hline,hql] at ha
            have ha' : (if lc=0 then (some ⟨lb,0,none⟩ : Option Addr) else (some ⟨lb,0,none⟩ : Option Addr).map (·.add 0))=some a:=ha
            split at ha'
            · cases ha';rfl
            · cases ha';rfl
          rw [hline] at hcs
          repeat (first | refine JL.q (by first|(apply OQ.ak (vs:=[ag y.ql y.ln.length,aC.v ⟨some ⟨bl,0,none⟩,2,[13,10]⟩]);exact jJ;rfl;exact hcs)|(apply OQ.extract;rfl;rfl)|(apply OQ.move;rfl)|(apply OQ.assign;rfl)) rfl ?_ | refine JC.seq ?_ | refine JC.region ?_ | refine JL.nil ?_ | refine JE.next ?_)
          refine JC.cond_true rfl rfl ?_
          refine JC.pR (M':=⟨b,Row 75 y.cs,true⟩::(y.R++(⟨bl,lY 5 [U8 13,U8 10],true⟩::ay 5 q (o.map U8)))) ?_ (by exact aM fun _ _ v=>by simp only [Pw.E,List.count_append,List.count_cons];omega)
          repeat (first | refine JL.q (by first|(apply OQ.move;rfl)|(apply OQ.aJ;rfl)|(apply OQ.bA;rfl;rfl;rfl;exact (by decide);rfl)) rfl ?_ | refine JC.seq ?_ | refine JC.region ?_)
          refine JL.sx none [] rfl rfl ?_
          repeat (first | refine JL.q (by (apply OQ.move;rfl)) rfl ?_ | refine JC.region ?_ | refine JL.nil ?_ | refine JE.next ?_)
          obtain ⟨y0,hy0⟩ : ∃ y0 : Pw,y0={ y with ql:=none,ln:=[] }:=⟨_,rfl⟩
          have hy0ok : y0.ok:=by rw [hy0];exact ⟨yok.t,fun _=>rfl,yok.d,yok.m⟩
          have hy0is : y0.is ⟨T.st,T.fr,T.to,[],T.dt,T.ms⟩:=by rw [hy0];exact ⟨yis.st,yis.fr,yis.to,(gy rfl).symm,yis.dt,yis.ms⟩
          have hy0R : y0.R=y.T++(y.D++y.M):=by rw [hy0];rfl
          refine JL.perm (M':=y0.E b++(ay 5 y.ql (y.ln.map U8)++(⟨bl,lY 5 [U8 13,U8 10],true⟩::ay 5 q (o.map U8)))) ?_ ?_
          rotate_left
          · unfold Pw.E
            rw [hy0R,hy0]
            exact aM fun _ _ v=>by simp only [Pw.R,Pw.L,List.count_append,List.count_cons];omega
          have hao:=nu ⟨T.st,T.fr,T.to,[],T.dt,T.ms⟩ y.ln.dropLast.dropLast
          have hTs:=Tfit.sz
          have hans : ∀ w',gE w' (keys (y0.E b))→line.ok w'→dS line (keys (y0.E b))→aa w' (keys (y0.E b)) (y0.E b) w'→Calls Tryz.prog 34 [Pt b 0,line.v].toArray w' (dP (keys (y0.E b)) b (aV ⟨T.st,T.fr,T.to,[],T.dt,T.ms⟩ y.ln.dropLast.dropLast) w'):=fun w' h1 h2 h3 h4=>by
            have:=oF b y0 ⟨T.st,T.fr,T.to,[],T.dt,T.ms⟩ hy0ok hy0is rfl Tfit.to Twf.dl line (by
              rw [hlnl]
              show _+T.dt.length+T.ms.length≤_
              unfold Po.sz at hTs
              have hyl2 : y.ln.length≤(T.ln++x).length:=by
                rw [yis.ln]
                unfold oe
                split
                · exact Nat.le_refl _
                · exact tT _
              rw [List.length_append] at hyl2
              have : x.length≤r.l.length:=by rw [← hx,List.length_take];omega
              omega) w' h1 h2 h3 h4
            rw [hlnl] at this
            exact this
          generalize aV ⟨T.st,T.fr,T.to,[],T.dt,T.ms⟩ y.ln.dropLast.dropLast=ar at hpf' hpw hfe4 hao hans
          refine JL.fQ (ι:={v : Pw // v.ok∧v.is ar.1}) (vs:=[Pt b 0,line.v]) (fun _=>Z ar.2) (fun v=>v.1.E b) nt rfl rfl (y0.wr b) (fun v=>Pw.wr b _) (fun w' hw' hx'=>by
            have hlk : line.ok w':=by
              have h1 : (bR y.ql y.ln).ok w':=fW (e:=5) (q:=y.ql) (l:=y.ln) (M:=y0.E b++(⟨bl,lY 5 [U8 13,U8 10],true⟩::ay 5 q (o.map U8))) (w0:=w) (S:=S0) (hw'.perm' (aM fun _ _ v=>by simp only [List.count_append,List.count_cons];omega))
              rw [← hline]
              exact h1.fst _
            have hla : dS line (keys (y0.E b)):=fun _ a ha=>by
              rw [hlad a ha]
              refine mj (b:=lb) (A:=Sl.aO 5 1 (y.ln.map U8).length lc (y.ln.map U8)) (M:=ay 5 y.ql (y.ln.map U8)++(⟨bl,lY 5 [U8 13,U8 10],true⟩::ay 5 q (o.map U8))) (wr:=true) hw' ?_
              rw [hql]
              exact .here
            exact (hans w' (hm.sub hw' (y0.wr b)) hlk hla hx').mono fun e w2 ⟨v,h1,h2,h3⟩=>⟨⟨v,h1⟩,h2,h3⟩) fun v=>?_
          obtain ⟨v,vok,vis⟩:=v
          dsimp only
          refine JL.ek (M':=v.E b++ay 5 q (o.map U8)) ?_ (dF (av.refl _) (bZ _ (.drop _ _ _ (av.refl _))))
          refine JL.perm (M':=ay 5 q (o.map U8)++v.E b) ?_ List.perm_append_comm
          refine JL.ua (r:=ar.2) q Tryz.underlying22 Tryz.underlying9 cc (fun h=>by rw [hq h];rfl) (by rw [List.length_map];rfl) rfl (by rw [List.length_map];omega) rfl fun q2 hq2=>?_
          rw [← List.map_append] at hq2 ⊢
          rw [List.length_map]
          refine JL.perm (M':=v.E b++ay 5 q2 ((o++ar.2).map U8)) ?_ List.perm_append_comm
          repeat (first | refine JL.q (by (apply OQ.assign;rfl)) rfl ?_ | refine JL.nil ?_ | refine JE.next ?_)
          refine JC.goto ?_
          refine JE.fD ⟨v,ar.1,r.snd k,q2,o++ar.2⟩ ⟨⟨⟨vok,vis⟩,⟨hpw,hpf'⟩,by show (r.snd k).l.length≤_;omega,⟨rok2,raw2⟩,(fun h=>List.map_eq_nil_iff.1 (hq2 h)),?_,hfe4⟩,?_⟩ (by repeat (first | exact af.nil | refine af.cons _ _ _ rfl ?_)) (av.refl _)
          · show (o++ar.2).length+11 * (r.snd k).l.length≤_
            rw [List.length_append]
            omega
          · show (r.snd k).l.length<r.l.length
            omega
  · intro hp
    refine JC.seq (JC.region ?_)
    repeat (refine JL.q (by (apply OQ.assign;rfl)) rfl ?_)
    refine JL.nil (JE.next ?_)
    refine JC.seq (JC.label (JE.next ?_))
    refine (hp ⟨z,S,s,none,[]⟩ ⟨⟨ok,hs⟩,⟨wf,hft⟩,hsl,⟨hok,haw⟩,fun _=>rfl,?_,?_⟩).weak (by repeat (first | exact af.nil | refine af.cons _ _ _ rfl ?_)) ?_
    · show 0+11 * s.l.length≤_
      omega
    · show an S s.l=((an S s.l).1,[]++(an S s.l).2)
      rw [List.nil_append]
    · show av (z.E b++[]) (z.E b)
      rw [List.append_nil]
      exact av.refl _
end dx
end
section
set_option maxRecDepth 10000
open Sl
namespace dx
theorem gF : aK Tryz.prog 9:=⟨_,Tryz.func9,rfl,by kernel_rfl⟩
theorem nv : aK Tryz.prog 35:=⟨_,Tryz.func35,rfl,by kernel_rfl⟩
theorem nw : aK Tryz.prog 36:=⟨_,Tryz.func36,rfl,by kernel_rfl⟩
theorem oG : aK Tryz.prog 12:=⟨_,Tryz.func12,rfl,by kernel_rfl⟩
theorem jU : aK Tryz.prog 7:=⟨_,Tryz.func7,rfl,by kernel_rfl⟩
def pT : Pw:=⟨0,[],none,[],none,[],none,[],none,[]⟩
theorem uf : pT.ok:=⟨fun _=>rfl,fun _=>rfl,fun _=>rfl,fun _=>rfl⟩
theorem ug : pT.is new:=⟨rfl,rfl,rfl,rfl,rfl,rfl⟩
theorem oH : Program.built Tryz.prog 75 []=some pT.cs.toArray:=by kernel_rfl
theorem iA (w : World) : Calls Tryz.prog 9 ([] : List Value).toArray w fun e w'=>∃ b : Nat,e=.returned (Pt b 0)∧aa w [] (pT.E b) w':=by
  refine enter (n:=3) Tryz.func9 rfl rfl rfl (aa.start w []) ?_
  repeat (first | refine JL.q (by first|(apply OQ.dY (cs:=pT.cs) (vs:=[]) (is:=[]) (xs:=[]);rfl;rfl;exact oH)|(apply OQ.assign;rfl)) rfl ?_ | refine JC.seq ?_ | refine JC.region ?_ | refine JL.nil ?_ | refine JE.next ?_)
  refine JL.box (r:=pT.cs) rfl rfl rfl fun b _=>?_
  repeat (first | refine JL.q (by (apply OQ.assign;rfl)) rfl ?_ | refine JL.nil ?_ | refine JE.next ?_)
  refine JC.ret ?_
  skip
  exact JE.aE rfl (RV.tmp rfl) fun w' hw=>⟨b,rfl,hw⟩
def iB (w : World) (q : Acc) (cs : List Value) : Prop:=∀ p,q=some p→Reads w (some ⟨p.1,0,none⟩) cs
theorem iB.ext {w w' : World} {q : Acc} {cs : List Value} (h : iB w q cs) (hx : Ext w w') : iB w' q cs:=fun p hp=>by
  have : aa w [] [] w':=⟨hx,by simp,by simp⟩
  exact this.reads (h p hp) (fun _ a _=>by simp)
set_option maxHeartbeats 4000000 in
theorem oI (q : Acc) (css : List (List Value)) (h3 : ∀ c ∈ css,c.length=3) (h1 : ∀ v ∈ css.flatten,v.oneCell'=true) (hq : q=none→css=[]) (w : World) (hr : iB w q css.flatten) (hl : css.length≤1000000) : Calls Tryz.prog 35 [ag q css.length].toArray w fun e w'=>∃ q' : {q' : Acc // q'=none→css=[]},e=.returned (ag q'.1 css.length)∧aa w [] (cg 38 3 q'.1 css) w':=by
  have hfl:=cY h3
  refine enter (n:=8) Tryz.func35 rfl rfl rfl (aa.start w []) ?_
  cases q with
  | none=>
    obtain rfl:=hq rfl
    repeat (first | refine JL.q (by first|(apply OQ.kU (ad:=none) (k:=0) (cap:=0);exact Tryz.underlying31;rfl;rfl)|(apply OQ.move;rfl)|(apply OQ.assign;rfl)) rfl ?_ | refine JC.seq ?_ | refine JC.region ?_ | refine JL.nil ?_ | refine JE.next ?_)
    refine JC.cond_true rfl rfl ?_
    repeat (first | refine JL.q (by (apply OQ.assign;rfl)) rfl ?_ | refine JC.seq ?_ | refine JC.region ?_ | refine JL.nil ?_ | refine JE.next ?_)
    refine JC.ret ?_
    repeat (refine JE.ah ?_)
    exact JE.aE rfl (RV.tmp rfl) fun w' hw=>⟨⟨none,fun _=>rfl⟩,rfl,hw⟩
  | some p=>
    have hrp:=hr p rfl
    repeat (first | refine JL.q (by first|(apply OQ.kU (ad:=some ⟨p.1,0,none⟩) (k:=css.length) (cap:=p.2);exact Tryz.underlying31;rfl;rfl)|(apply OQ.move;rfl)|(apply OQ.assign;rfl)) rfl ?_ | refine JC.seq ?_ | refine JC.region ?_ | refine JL.nil ?_ | refine JE.next ?_)
    refine JC.cond_false rfl rfl ?_
    repeat (first | refine JC.seq ?_ | refine JC.region ?_ | refine JC.skip ?_ | refine JE.next ?_)
    refine JL.qe Tryz.underlying31 wV rfl fun b0 _=>?_
    repeat (refine JL.q (by (apply OQ.move;rfl)) rfl ?_)
    refine JL.append (cs:=css.flatten) (m:=css.length) (ad:=some ⟨p.1,0,none⟩) (sc:=p.2) (xs:=[]) (fun b' cap'=>[⟨b',Sl.aO 38 3 (0+css.length) cap' ([]++css.flatten),true⟩]) Tryz.underlying31 wV rfl rfl (by intro _ _;repeat (first | exact aL.here | apply aL.there)) hfl (fun w' hw'=>hw'.reads hrp (fun _ a _=>by simp)) h1 rfl (by decide) (by omega) (by omega) rfl fun b1 cap1=>?_
    rw [Nat.zero_add,List.nil_append]
    repeat (first | refine JL.q (by (apply OQ.assign;rfl)) rfl ?_ | refine JL.nil ?_ | refine JE.next ?_)
    refine JC.ret (JE.aE rfl (RV.tmp rfl) fun w' hw=>⟨⟨some (b1,cap1),nofun⟩,rfl,hw⟩)
set_option maxHeartbeats 4000000 in
theorem oJ (q : Acc) (l : List (List Bt)) (hq : q=none→l=[]) (w : World) (hr : iB w q (l.map Z)) (hl : l.length≤1000000) : Calls Tryz.prog 36 [ag q l.length].toArray w fun e w'=>∃ q' : {q' : Acc // q'=none→l=[]},e=.returned (ag q'.1 l.length)∧aa w [] (ay 9 q'.1 (l.map Z)) w':=by
  have hlm : (l.map Z).length=l.length * 1:=by rw [List.length_map,Nat.mul_one]
  refine enter (n:=8) Tryz.func36 rfl rfl rfl (aa.start w []) ?_
  cases q with
  | none=>
    obtain rfl:=hq rfl
    repeat (first | refine JL.q (by first|(apply OQ.kU (ad:=none) (k:=0) (cap:=0);exact Tryz.underlying30;rfl;rfl)|(apply OQ.move;rfl)|(apply OQ.assign;rfl)) rfl ?_ | refine JC.seq ?_ | refine JC.region ?_ | refine JL.nil ?_ | refine JE.next ?_)
    refine JC.cond_true rfl rfl ?_
    repeat (first | refine JL.q (by (apply OQ.assign;rfl)) rfl ?_ | refine JC.seq ?_ | refine JC.region ?_ | refine JL.nil ?_ | refine JE.next ?_)
    refine JC.ret ?_
    repeat (refine JE.ah ?_)
    exact JE.aE rfl (RV.tmp rfl) fun w' hw=>⟨⟨none,fun _=>rfl⟩,rfl,hw⟩
  | some p=>
    have hrp:=hr p rfl
    repeat (first | refine JL.q (by first|(apply OQ.kU (ad:=some ⟨p.1,0,none⟩) (k:=l.length) (cap:=p.2);exact Tryz.underlying30;rfl;rfl)|(apply OQ.move;rfl)|(apply OQ.assign;rfl)) rfl ?_ | refine JC.seq ?_ | refine JC.region ?_ | refine JL.nil ?_ | refine JE.next ?_)
    refine JC.cond_false rfl rfl ?_
    repeat (first | refine JC.seq ?_ | refine JC.region ?_ | refine JC.skip ?_ | refine JE.next ?_)
    refine JL.qe Tryz.underlying30 kQ rfl fun b0 _=>?_
    repeat (refine JL.q (by (apply OQ.move;rfl)) rfl ?_)
    refine JL.append (cs:=l.map Z) (m:=l.length) (ad:=some ⟨p.1,0,none⟩) (sc:=p.2) (xs:=[]) (fun b' cap'=>[⟨b',Sl.aO 9 1 (0+l.length) cap' ([]++l.map Z),true⟩]) Tryz.underlying30 kQ rfl rfl (by intro _ _;repeat (first | exact aL.here | apply aL.there)) hlm (fun w' hw'=>hw'.reads hrp (fun _ a _=>by simp)) (fun v hv=>by obtain ⟨x,_,rfl⟩:=List.mem_map.1 hv;rfl) rfl (by decide) (by omega) (by omega) rfl fun b1 cap1=>?_
    rw [Nat.zero_add,List.nil_append]
    repeat (first | refine JL.q (by (apply OQ.assign;rfl)) rfl ?_ | refine JL.nil ?_ | refine JE.next ?_)
    refine JC.ret (JE.aE rfl (RV.tmp rfl) fun w' hw=>⟨⟨some (b1,cap1),nofun⟩,rfl,?_⟩)
    show aa w [] [⟨b1,Sl.aO 9 1 (l.map Z).length cap1 (l.map Z),true⟩] w'
    rw [List.length_map]
    exact hw
end dx
end
section
set_option maxRecDepth 10000
open Sl aA Tok
namespace dx
theorem wM {s : List Bt} {i : Nat} (h : i<s.length) {n : Nat} {E : Env} {C : World→Prop} {dst : Option Tmp} {ty : TypeId} {pos : String} {aft : Array Edge} {g : Option (Nat × Bool)} {x y : Operand} (hx : ev E x=some (Z s)) (hy : ev E y=some (N i)) : OQ Tryz.prog n E C ⟨dst,.index 9 x y,ty,pos,aft,g⟩ (U8 (s.getD i 0)):=OQ.jR Tryz.underlying9 hx hy h
set_option maxHeartbeats 8000000 in
theorem ny (s : List Bt) (w : World) (hl : s.length<140737488351233) : Calls Tryz.prog 27 [Z s].toArray w fun e w'=>e=.returned (Z (s.map dZ))∧Ext w w':=by
  refine enter (n:=30) Tryz.func27 rfl rfl rfl (aa.start w []) ?_
  repeat (first | refine JL.q (by (apply OQ.assign;rfl)) rfl ?_ | refine JC.seq ?_ | refine JC.region ?_ | refine JL.nil ?_ | refine JE.next ?_)
  refine JL.oW Tryz.underlying22 cc rfl fun b0 _=>?_
  repeat (first | refine JL.q (by (apply OQ.assign;rfl)) rfl ?_ | refine JC.seq ?_ | refine JC.region ?_ | refine JC.block ?_ | refine JL.nil ?_ | refine JE.next ?_)
  refine JC.loop (fun q : Nat × Nat × Nat=>[(0,Z s),(3,.slice (some ⟨q.2.1,0,none⟩) q.1 q.2.2),(4,N q.1)]) (fun q=>[⟨q.2.1,Sl.aO 5 1 q.1 q.2.2 (((s.take q.1).map dZ).map U8),true⟩]) (fun q=>s.length - q.1) (fun q=>q.1≤s.length) (0,b0,0) (Nat.zero_le _) (by repeat (first | exact af.nil | refine af.cons _ _ _ rfl ?_)) (av.refl _) ?_
  rintro ⟨i,b,cap⟩ hi
  simp only at hi
  dsimp only
  repeat (first | refine JL.q (by first|(apply OQ.bw;exact Tryz.underlying9;rfl)|(apply OQ.move;rfl)|(apply OQ.dV;rfl;rfl)) rfl ?_ | refine JC.seq ?_ | refine JC.region ?_ | refine JL.nil ?_ | refine JE.next ?_)
  refine JC.cond rfl (fun h=>?_) (fun h=>?_)
  · have hi' : i<s.length:=of_decide_eq_true h
    clear h hi
    have hx:=bO s hi'
    have hlen : ((s.take i).map dZ).length=i:=by rw [List.length_map,List.length_take];omega
    have hidx:=fun {n : Nat} {E : Env} {C : World→Prop} {dst : Option Tmp} {ty : TypeId} {pos : String} {aft : Array Edge} {g : Option (Nat × Bool)} {x y : Operand}=>wM hi' (n:=n) (E:=E) (C:=C) (dst:=dst) (ty:=ty) (pos:=pos) (aft:=aft) (g:=g) (x:=x) (y:=y)
    generalize s.getD i 0=c at hx hidx
    have hs : dZ c=if decide ((97 : Int)≤(c.toNat : Int)) && decide ((c.toNat : Int)≤122) then c - 32 else c:=by
      unfold dZ
      by_cases h : 97≤c.toNat∧c.toNat≤122
      · rw [if_pos h,if_pos (by simp;omega)]
      · rw [if_neg h,if_neg (by simp;omega)]
    generalize hT : (s.take i).map dZ=T at hlen ⊢
    have hT2 : (s.take (i+1)).map dZ=T++[dZ c]:=by rw [hx,List.map_append,hT];rfl
    generalize dZ c=d at hs hT2
    cases h1 : decide ((97 : Int)≤(c.toNat : Int)) <;> cases h2 : decide ((c.toNat : Int)≤122)
    all_goals (
      rw [h1,h2] at hs
      (repeat (first | refine JL.q (by first|(apply hidx;rfl;rfl)|(apply OQ.cJ (b:=97);rfl;rfl;exact h1)|(apply OQ.qh (b:=122);rfl;rfl;exact h2)|(apply OQ.az;rfl;rfl)|(apply OQ.aB;rfl;rfl)|(apply OQ.move;rfl)|(apply OQ.assign;rfl)) rfl ?_ | refine JC.seq ?_ | refine JC.region ?_ | refine JC.block ?_ | refine JC.skip ?_ | refine JL.nil ?_ | refine JE.next ?_ | refine JL.aT rfl rfl ?_ | refine JL.aU rfl rfl rfl rfl ?_))
      refine JC.join (ι:=Unit) (fun _=>[(0,Z s),(3,.slice (some ⟨b,0,none⟩) i cap),(4,N i),(5,U8 d)]) (fun _=>[⟨b,Sl.aO 5 1 i cap (T.map U8),true⟩]) (fun _=>True) ?_ ?_
      · subst hs
        refine JC.cond rfl (fun h=>?_) (fun h=>?_)
        all_goals first|(exfalso;revert h;decide) | skip
        all_goals (clear h;repeat (first | refine JL.q (by first|(apply OQ.xG (b:=32#8);rfl;rfl;exact (by have:=of_decide_eq_true h1;show 32≤_;omega))|(apply OQ.move;rfl)|(apply OQ.assign;rfl)) rfl ?_ | refine JC.region ?_ | refine JC.skip ?_ | refine JL.nil ?_))
        all_goals exact JE.mid () trivial (by repeat (first | exact af.nil | refine af.cons _ _ _ rfl ?_)) (av.refl _)
      · rintro ⟨⟩ _
        (repeat (first | refine JL.q (by (apply OQ.move;rfl)) rfl ?_ | refine JC.region ?_))
        refine JL.fj (xs:=T.map U8) (fun b' cap'=>[⟨b',Sl.aO 5 1 (i+1) cap' (T.map U8++[U8 d]),true⟩]) Tryz.underlying22 cc rfl rfl rfl rfl (fun _=>rfl) (by intro _ _;repeat (first | exact aL.here | apply aL.there)) (by omega) (by omega) rfl rfl fun bl b' cap'=>?_
        (repeat (first | refine JL.q (by first|(apply OQ.move;rfl)|(apply OQ.assign;rfl)|(apply OQ.bh;rfl;rfl;exact (by (try simp only []);omega))) rfl ?_ | refine JC.region ?_ | refine JL.nil ?_ | refine JE.next ?_ | refine JE.ai ?_))
        refine JE.again (i:=(i,b,cap)) (i+1,b',cap') hi' (by show s.length - (i+1)<s.length - i;omega) (by repeat (first | exact af.nil | refine af.cons _ _ _ rfl ?_)) (.keep _ _ _ _ _ _ (fun o h=>?_) (.nil _))
        dsimp only
        rw [hT2,List.map_append]
        exact h)
  · have hi' : ¬ i<s.length:=of_decide_eq_false h
    obtain rfl : i=s.length:=by omega
    clear h hi hi'
    rw [List.take_length]
    have hY : s.length=(s.map dZ).length:=(List.length_map _).symm
    generalize s.map dZ=Y at hY ⊢
    rw [hY]
    repeat (first | refine JL.q (by first|(apply OQ.nF (s:=⟨some ⟨b,0,none⟩,cap,Y⟩);exact Tryz.underlying22;exact Tryz.underlying5;exact Tryz.underlying9;rfl;exact (fun w' hw'=>dM hw' .here))|(apply OQ.move;rfl)|(apply OQ.assign;rfl)) rfl ?_ | refine JC.seq ?_ | refine JC.region ?_ | refine JC.exit ?_ | refine JL.nil ?_ | refine JE.next ?_ | refine JE.ax ?_ | refine JE.aI ?_)
    refine JC.ret ?_
    skip
    exact JE.aE rfl (RV.tmp rfl) fun w' hw=>⟨rfl,hw.aS⟩
theorem JL.feed {n : Nat} {w0 : World} {S : List Nat} {ops : Array Oper} {Q : Exit→Act→World→Prop} {l : List Oper} {E : Env} {d : Nat} {ty : TypeId} {pos : String} {aft : Array Edge} {x1 x2 : Operand} {ats : Array TypeId} {b : Nat} {M0 : List aF} (z : Pw) (T : Po) (s : aC) (ok : z.ok) (hs : z.is T) (wf : T.wf) (hsl : s.l.length≤900000) (hft : T.fit (900000 - s.l.length)) (hm : gE w0 S)
    (hso : ∀ w',aa w0 S (z.E b++M0) w'→s.ok w'∧dS s (keys (z.E b))) (e1 : ev E x1=some (Pt b 0)) (e2 : ev E x2=some s.v) (hd : Nat.blt d n=true)
    (kk : ∀ (z' : Pw) (q : Acc),z'.ok→z'.is (an T s.l).1→(q=none→(an T s.l).2=[])→JL Tryz.prog n w0 S ops Q l ((d,ag q (an T s.l).2.length)::E) (z'.E b++(ay 5 q ((an T s.l).2.map U8)++M0))) :
    JL Tryz.prog n w0 S ops Q (⟨some d,.call ⟨.value (.func 10),#[x1,x2],ats⟩,ty,pos,aft,none⟩::l) E (z.E b++M0):=by
  refine JL.fQ (xs:=[x1,x2]) (ι:={p : Pw × Acc // (p.1.ok∧p.1.is (an T s.l).1)∧(p.2=none→(an T s.l).2=[])}) (vs:=[Pt b 0,s.v]) (fun i=>ag i.1.2 (an T s.l).2.length) (fun i=>i.1.1.E b++ay 5 i.1.2 ((an T s.l).2.map U8)) ru (by simp [eO,e1,e2]) hd (z.wr b) ?_ ?_ ?_
  · intro i e he
    rcases List.mem_append.1 he with h | h
    · exact Pw.wr b _ e h
    · exact b8 _ _ _ e h
  · intro w' hw' hx
    exact ue b z T ok hs wf s hsl hft w' (hm.sub hw' (z.wr b)) (hso w' hw').1 (hso w' hw').2 hx
  · rintro ⟨⟨z',q⟩,⟨h1,h2⟩,h3⟩
    dsimp only
    rw [List.append_assoc]
    exact kk z' q h1 h2 h3
theorem pU (n : Nat) : new.fit n:=⟨Nat.zero_le _,Nat.zero_le _⟩
theorem yf : an new [100,97,116,97,13,10]=(new,bQ++[13,10]):=by
  rw [show ([100,97,116,97,13,10] : List By)=[100,97,116,97]++[13,10] from rfl,kD (by decide) (by decide) rfl _ (by decide)]
  have : aX new [100,97,116,97]=(new,bQ):=by
    unfold aX
    rw [if_neg (by decide),if_neg (by decide),if_neg (by decide),if_neg (by decide),if_pos (by decide)]
    rfl
  rw [this]
theorem jK {w0 w : World} {S : List Nat} {X M : List aF} {b k cap : Nat} {l : List Bt} {A : Obj→Prop} {wr : Bool} (hw : aa w0 S (X++M) w) (hM : Has M b A wr) : dS ⟨some ⟨b,k,none⟩,cap,l⟩ (keys X):=by
  intro _ a ha
  cases ha
  exact mj hw hM
set_option maxHeartbeats 8000000 in
theorem lI (w : World) (hm : fA w) : Calls Tryz.prog 7 ([] : List Value).toArray w fun e w'=>e=.returned (.bool true)∧Ext w w':=by
  refine enter (n:=7) Tryz.func7 rfl rfl rfl (aa.start w []) ?_
  repeat (first | refine JL.q (by (apply OQ.assign;rfl)) rfl ?_ | refine JC.seq ?_ | refine JC.region ?_ | refine JL.nil ?_ | refine JE.next ?_)
  refine JL.dD (ι:=Nat) (vs:=[]) (fun b=>Pt b 0) (fun b=>pT.E b) gF rfl rfl (fun b=>Pw.wr b _) (fun w' _=>iA w') fun b=>?_
  refine JL.uC (xs:=[.const (U8 100),.const (U8 97),.const (U8 116),.const (U8 97),.const (U8 13),.const (U8 10)]) (vs:=[U8 100,U8 97,U8 116,U8 97,U8 13,U8 10]) Tryz.underlying22 cc rfl rfl rfl rfl (by
    intro v hv
    simp only [List.mem_cons,List.not_mem_nil,or_false] at hv
    rcases hv with rfl | rfl | rfl | rfl | rfl | rfl <;> rfl) rfl (by decide) (by decide) rfl fun bl _=>?_
  refine JL.mark (r:=[U8 100,U8 97,U8 116,U8 97,U8 13,U8 10]) (te:=5) Tryz.underlying22 Tryz.underlying5 rfl .here rfl ?_
  refine JL.perm (M':=pT.E b++[⟨bl,lY 5 [U8 100,U8 97,U8 116,U8 97,U8 13,U8 10],true⟩]) ?_ (aM fun _ _ v=>by simp only [List.count_append,List.count_cons,List.count_nil];omega)
  refine JL.feed pT new ⟨some ⟨bl,0,none⟩,6,[100,97,116,97,13,10]⟩ uf ug tL (show 6≤900000 by decide) (pU _) ⟨hm,by simp⟩ (fun w' hw'=>⟨?_,?_⟩) rfl rfl rfl fun z' q h1 h2 h3=>?_
  · exact jC (l:=[100,97,116,97,13,10]) hw' (x4 .here) (Nat.le_refl _)
  · exact jK hw' .here
  rw [show (⟨some ⟨bl,0,none⟩,6,[100,97,116,97,13,10]⟩ : aC).l=[100,97,116,97,13,10] from rfl,yf] at h3 ⊢
  dsimp only at h3 ⊢
  have hlv:=dW q (bQ++[13,10])
  have hll:=dX h3
  have hb2 : ∀ w',aa w [] (z'.E b++(ay 5 q ((bQ++[13,10]).map U8)++[⟨bl,lY 5 [U8 100,U8 97,U8 116,U8 97,U8 13,U8 10],true⟩])) w'→(bR q (bQ++[13,10])).ok w':=fun w' hw'=>fW (e:=5) (M:=[⟨bl,lY 5 [U8 100,U8 97,U8 116,U8 97,U8 13,U8 10],true⟩]++z'.E b) (hw'.perm' (aM fun _ _ v=>by simp only [List.count_append,List.count_cons,List.count_nil];omega))
  rw [← hlv]
  repeat (first | refine JL.q (by first|(apply OQ.nF (s:=bR q (bQ++[13,10]));exact Tryz.underlying22;exact Tryz.underlying5;exact Tryz.underlying9;rfl;exact hb2)|(apply OQ.vt (l:=(bR q (bQ++[13,10])).l) (r:=bQ++[13,10]);rfl;rfl;exact hll)|(apply OQ.assign;rfl)) rfl ?_ | refine JL.nil ?_ | refine JE.next ?_)
  refine JC.ret ?_
  skip
  exact JE.aE rfl (RV.tmp rfl) fun w' hw=>⟨rfl,hw.aS⟩
end dx
end
section
set_option maxRecDepth 10000
open Sl
namespace dx
structure Pw.rd (z : Pw) (w : World) : Prop where
  c : iB w z.qm (z.zs.map Mz.cs).flatten
  t : ∀ m ∈ z.zs,iB w m.qt (m.m.to.map Z)
  b : ∀ m ∈ z.zs,(bR m.qb m.m.b).ok w
theorem rV {u w : World} {S : List Nat} {X : List aF} {e : TypeId} {q : Acc} {xs : List Value} (hw : aa u S X w) (h : ∀ x ∈ ay e q xs,x ∈ X) : iB w q xs:=by
  intro p hp
  subst hp
  obtain ⟨⟨o,ho,hA⟩,_⟩:=hw.all ⟨p.1,Sl.aO e 1 xs.length p.2 xs,true⟩ (h _ List.mem_cons_self)
  exact Reads.block ho (Sl.aO.cells o hA)
theorem eH {u w : World} {S : List Nat} {X : List aF} {e : TypeId} {q : Acc} {l : List Bt} (hw : aa u S X w) (h : ∀ x ∈ ay e q (l.map U8),x ∈ X) : (bR q l).ok w:=by
  cases q with
  | none=>exact iF w
  | some p=>
    obtain ⟨⟨o,ho,hA⟩,_⟩:=hw.all ⟨p.1,Sl.aO e 1 (l.map U8).length p.2 (l.map U8),true⟩ (h _ List.mem_cons_self)
    refine ⟨?_,Reads.block ho (Sl.aO.cells o hA)⟩
    obtain ⟨_,_,_,_,h3⟩:=hA
    rw [List.length_map] at h3
    exact h3
theorem uh {zs : List Mz} {m : Mz} (h : m ∈ zs) : ∀ x ∈ m.E,x ∈ zs.flatMap Mz.E:=fun x hx=>List.mem_flatMap.2 ⟨m,h,hx⟩
theorem Pw.xL {u w : World} {S : List Nat} {X : List aF} {z : Pw} (hw : aa u S X w) (h : ∀ x ∈ z.M,x ∈ X) : z.rd w:=by
  have hM : ∀ m ∈ z.zs,∀ x ∈ m.E,x ∈ X:=fun m hm x hx=>h x (List.mem_append_right _ (uh hm x hx))
  refine ⟨?_,fun m hm=>?_,fun m hm=>?_⟩
  · intro p hp
    obtain ⟨⟨o,ho,hA⟩,_⟩:=hw.all ⟨p.1,Sl.aO 38 3 (z.zs.map Mz.cs).length p.2 (z.zs.map Mz.cs).flatten,true⟩ (h _ (List.mem_append_left _ (by rw [hp];exact List.mem_cons_self)))
    exact Reads.block ho (Sl.aO.cells o hA)
  · exact rV (e:=9) hw fun x hx=>hM m hm x (List.mem_append_left _ hx)
  · exact eH (e:=5) hw fun x hx=>hM m hm x (List.mem_append_right _ hx)
theorem oK {sz i off : Nat} {L : List (List Value)} {v : Value} (h : ∀ c ∈ L,c.length=sz) (hi : i<L.length) (ho : off<sz) : L.flatten.set (i * sz+off) v=(L.set i ((L.getD i []).set off v)).flatten:=by
  have hfl:=cY h
  have hle : i * sz+sz≤L.flatten.length:=by rw [hfl,← Nat.succ_mul];exact Nat.mul_le_mul_right _ (by omega)
  have hci : (L.getD i []).length=sz:=h _ (by rw [List.getD_eq_getElem?_getD,List.getElem?_eq_getElem hi];exact List.getElem_mem _)
  have:=nY (sz':=1) (off:=off) (c:=[v]) h hi (by omega)
  rw [List.set_eq_take_append_cons_drop,if_pos (by omega),List.set_eq_take_append_cons_drop (l:=L.getD i []),if_pos (by omega)]
  simpa using this
section
variable {P : Program} {n : Nat} {w0 : World} {S : List Nat} {ops : Array Oper} {Q : Exit→Act→World→Prop} {l : List Oper} {E : Env} {M M' : List aF} {b k cap o off i sz : Nat} {t e ty : TypeId} {pos : String} {aft : Array Edge} {v : Value} {x y : Operand} {L : List (List Value)}
theorem JL.pV (hz : e6 P t=some 1) (hx : ev E x=some (.pointer (some ⟨b,o,none⟩))) (ho : o=i * sz+off) (hy : ev E y=some v) (hv : v.oneCell'=true) (hcl : v.cells=#[v]) (hL : ∀ c ∈ L,c.length=sz) (hi : i<L.length) (hof : off<sz)
    (hu : kK M b (Sl.aO e sz k cap L.flatten) (Sl.aO e sz k cap (L.set i ((L.getD i []).set off v)).flatten) M') (kk : JL P n w0 S ops Q l E M') : JL P n w0 S ops Q (⟨none,.store t x y,ty,pos,aft,none⟩::l) E M:=by
  subst ho
  have hle : i * sz+off<L.flatten.length:=by
    have : i * sz+sz≤L.flatten.length:=by rw [cY hL,← Nat.succ_mul];exact Nat.mul_le_mul_right _ (by omega)
    omega
  have he:=oK (v:=v) hL hi hof
  exact JL.store hx hy hz hv hcl hu (by
    rintro ob ⟨sp,rfl,h2,h3,h4⟩
    refine ⟨_,_,rfl,by simp only [List.size_toArray,List.length_append];omega,sp,?_,?_,?_,h4⟩
    · rw [← he]
      simp only [List.setIfInBounds_toArray]
      rw [List.set_append_left _ _ hle]
    · rw [← he,List.length_append,List.length_set,← List.length_append]
      exact h2
    · rw [← he,List.length_set]
      exact h3) kk
end
theorem lJ (zs : List Mz) : ∀ c ∈ zs.map Mz.cs,c.length=3:=by
  intro c hc
  obtain ⟨m,_,rfl⟩:=List.mem_map.1 hc
  rfl
theorem vk (zs : List Mz) : ∀ v ∈ (zs.map Mz.cs).flatten,v.oneCell'=true:=by
  intro v hv
  obtain ⟨c,hc,hv⟩:=List.mem_flatten.1 hv
  obtain ⟨m,_,rfl⟩:=List.mem_map.1 hc
  exact lE m v hv
theorem nA : aK Tryz.prog 37:=⟨_,Tryz.func37,rfl,by kernel_rfl⟩
theorem pW {A B : List (List Value)} {i : Nat} (hA : A.length=i) (x y : List Value) : (A++x::B).set i y=A++y::B:=by
  subst hA
  simp
theorem lK {A B : List (List Value)} {i : Nat} (hA : A.length=i) (x : List Value) : (A++x::B).getD i []=x:=by
  subst hA
  simp
theorem JE.vQ {n : Nat} {w0 : World} {S : List Nat} {Q : Exit→Act→World→Prop} {e : Exit} {E : Env} {M M' : List aF} (h : JE n w0 S Q e E M') (hp : M.Perm M') : JE n w0 S Q e E M:=⟨fun a w ha hw=>h.go a w ha (hw.perm' hp)⟩
def lM (z : Pw) (w : World) : Ending→World→Prop:=fun e w'=>∃ y : {y : Acc × List Mz // (y.1=none→y.2=[])∧y.2.map Mz.m=z.zs.map Mz.m},e=.returned (ag y.1.1 z.zs.length)∧aa w [] (cg 38 3 y.1.1 (y.1.2.map Mz.cs)++y.1.2.flatMap Mz.E) w'
set_option maxHeartbeats 16000000 in
theorem rC (b : Nat) (z : Pw) (ok : z.ok) (hb : ∀ m ∈ z.zs,m.m.to.length≤1000000∧m.m.b.length≤4000000) (hn : z.zs.length≤1000000) (w : World) (rd : z.rd w) (h0 : aa w [] [⟨b,Row 75 z.cs,false⟩] w) : Calls Tryz.prog 12 [Pt b 0].toArray w (lM z w):=by
  unfold lM
  have hmn : (z.zs.map Mz.cs).length=z.zs.length:=List.length_map _
  have hcl : ∀ w',Ext w w'→Calls Tryz.prog 35 [ag z.qm z.zs.length].toArray w' fun e w2=>∃ q' : {q' : Acc // q'=none→z.zs.map Mz.cs=[]},e=.returned (ag q'.1 z.zs.length)∧aa w' [] (cg 38 3 q'.1 (z.zs.map Mz.cs)) w2:=fun w' hx=>by
    have:=oI z.qm (z.zs.map Mz.cs) (lJ _) (vk _) (fun h=>by rw [ok.m h];rfl) w' (rd.c.ext hx) (by omega)
    rw [hmn] at this
    exact this
  refine enter (n:=34) Tryz.func12 rfl rfl rfl h0 ?_
  repeat (first | refine JL.q (by first|(apply OQ.load;exact o8;rfl;exact .here;exact (Row.cell (v:=ag z.qm z.zs.length) rfl))|(apply OQ.move;rfl)|(apply OQ.assign;rfl)|(apply OQ.aJ;rfl)|(apply OQ.bA;rfl;rfl;rfl;exact (by decide);rfl)) rfl ?_ | refine JC.seq ?_ | refine JC.region ?_ | refine JL.nil ?_ | refine JE.next ?_)
  refine JL.dD (ι:={q' : Acc // q'=none→z.zs.map Mz.cs=[]}) (vs:=[ag z.qm z.zs.length]) (fun q=>ag q.1 z.zs.length) (fun q=>cg 38 3 q.1 (z.zs.map Mz.cs)) nv rfl rfl (fun q=>iG _ _ _ _) (fun w' hw'=>hcl w' hw'.aS) ?_
  rintro ⟨q,hq⟩
  dsimp only
  have hq0 : q=none→z.zs.length=0:=fun h=>by rw [← hmn,hq h];rfl
  repeat (first | refine JL.q (by first|(apply OQ.gw;exact Tryz.underlying31;exact hq0;rfl)|(apply OQ.move;rfl)|(apply OQ.assign;rfl)) rfl ?_ | refine JC.seq ?_ | refine JC.region ?_ | refine JC.block ?_ | refine JL.nil ?_ | refine JE.next ?_)
  refine JC.loop (ι:=List Mz) (fun ys=>[(3,ag q z.zs.length),(11,ag q z.zs.length),(12,N z.zs.length),(13,N ys.length)]) (fun ys=>cg 38 3 q (ys.map Mz.cs++(z.zs.drop ys.length).map Mz.cs)++ys.flatMap Mz.E) (fun ys=>z.zs.length - ys.length) (fun ys=>ys.length≤z.zs.length∧ys.map Mz.m=(z.zs.take ys.length).map Mz.m) [] ⟨Nat.zero_le _,rfl⟩ (by repeat (first | exact af.nil | refine af.cons _ _ _ rfl ?_)) (by show av (cg _ 3 q ([]++(z.zs.drop 0).map Mz.cs)++[]) _;rw [List.append_nil,List.nil_append,List.drop_zero];exact c6 _ _) ?_
  rintro ys ⟨hle,hms⟩
  obtain ⟨i,hi⟩ : ∃ i,ys.length=i:=⟨_,rfl⟩
  rw [hi] at hle hms ⊢
  repeat (first | refine JL.q (by (apply OQ.dV (a:=i) (b:=z.zs.length);rfl;rfl)) rfl ?_ | refine JC.seq ?_ | refine JC.region ?_ | refine JL.nil ?_ | refine JE.next ?_)
  refine JC.cond rfl (fun hh=>?_) (fun hh=>?_)
  · have hi' : i<z.zs.length:=of_decide_eq_true hh
    clear hh
    obtain ⟨⟨lb,lc⟩,rfl⟩ : ∃ p,q=some p:=by
      cases q with
      | none=>have:=hq0 rfl;omega
      | some p=>exact ⟨p,rfl⟩
    obtain ⟨m,hmd⟩ : ∃ m,z.zs[i]?=some m:=⟨_,List.getElem?_eq_getElem hi'⟩
    have hmem : m ∈ z.zs:=List.mem_of_getElem? hmd
    obtain ⟨hb1,hb2⟩:=hb m hmem
    have hdr : z.zs.drop i=m::z.zs.drop (i+1):=by
      rw [List.drop_eq_getElem_cons hi']
      congr 1
      exact (List.getElem?_eq_some_iff.1 hmd).2
    have htk : z.zs.take (i+1)=z.zs.take i++[m]:=by
      rw [List.take_succ_eq_append_getElem hi']
      congr 2
      exact (List.getElem?_eq_some_iff.1 hmd).2
    obtain ⟨A,hA⟩ : ∃ A,ys.map Mz.cs=A:=⟨_,rfl⟩
    have hAl : A.length=i:=by rw [← hA,List.length_map,hi]
    obtain ⟨B,hB⟩ : ∃ B,(z.zs.drop (i+1)).map Mz.cs=B:=⟨_,rfl⟩
    have hBl : B.length=z.zs.length - (i+1):=by rw [← hB,List.length_map,List.length_drop]
    have hA3 : ∀ c ∈ A,c.length=3:=hA ▸ lJ ys
    have hB3 : ∀ c ∈ B,c.length=3:=hB ▸ lJ _
    rw [hdr,List.map_cons,hA,hB]
    have hL3 : ∀ x : List Value,x.length=3→∀ c ∈ A++x::B,c.length=3:=fun x hx c hc=>by
      rcases List.mem_append.1 hc with h | h
      · exact hA3 c h
      · rcases List.mem_cons.1 h with rfl | h
        · exact hx
        · exact hB3 c h
    have hLl : ∀ x : List Value,(A++x::B).length=z.zs.length:=fun x=>by rw [List.length_append,List.length_cons];omega
    have hga : (.agg ((A++m.cs::B).getD i []).toArray : Value)=.agg m.cs.toArray:=by rw [lK hAl]
    have hzi : Pt lb (0+i * 3)=Pt lb (i * 3):=by rw [Nat.zero_add]
    have hown : cg 38 3 (some (lb,lc)) (A++m.cs::B)=[⟨lb,Sl.aO 38 3 z.zs.length lc (A++m.cs::B).flatten,true⟩]:=by
      unfold cg
      rw [hLl]
    rw [hown]
    have hzc : ∀ w',Ext w w'→Calls Tryz.prog 36 [ag m.qt m.m.to.length].toArray w' fun e w2=>∃ q' : {q' : Acc // q'=none→m.m.to=[]},e=.returned (ag q'.1 m.m.to.length)∧aa w' [] (ay 9 q'.1 (m.m.to.map Z)) w2:=fun w' hx=>oJ m.qt m.m.to m.ht w' ((rd.t m hmem).ext hx) hb1
    have hbc : ∀ w',Ext w w'→Calls Tryz.prog 37 [ag m.qb m.m.b.length].toArray w' fun e w2=>∃ q' : {q' : Acc // q'=none→m.m.b=[]},e=.returned (ag q'.1 m.m.b.length)∧aa w' [] (ay 5 q'.1 (m.m.b.map U8)) w2:=fun w' hx=>by
      have h1:=ku (bR m.qb m.m.b) w' ((rd.b m hmem).ext hx) (by rw [dX m.hb];omega)
      rw [dW,dX m.hb] at h1
      exact h1.mono fun e w2 ⟨q',h1,h2,h3⟩=>⟨⟨q',h2⟩,h1,h3⟩
    repeat (first | refine JL.q (by first|(apply OQ.to;exact (OQ.cX (k:=.i64) (i:=i) (sz:=3) Tryz.underlying31 rL rfl rfl hi');exact hzi)|(apply OQ.to;exact (OQ.xj (L:=A++m.cs::B) (i:=i) xp rL rfl rfl .here (hL3 _ rfl) (by rw [hLl];exact hi'));exact hga)|(apply OQ.move;rfl)) rfl ?_ | refine JC.seq ?_ | refine JC.region ?_ | refine JC.block ?_ | refine JC.skip ?_ | refine JE.next ?_)
    refine JL.alloc (r:=[Z [],.slice none 0 0,.slice none 0 0]) yx rfl fun bc _=>?_
    repeat (refine JL.q (by (apply OQ.assign;rfl)) rfl ?_)
    refine JL.gL (cs:=m.cs) rL rfl rfl rfl (tN m) .here rfl ?_
    repeat (first | refine JL.q (by first|(apply OQ.load;exact de;rfl;exact .here;exact (Row.cell (v:=ag m.qt m.m.to.length) rfl))|(apply OQ.move;rfl)|(apply OQ.bA;rfl;rfl;rfl;exact (by decide);rfl)) rfl ?_ | refine JC.seq ?_ | refine JC.region ?_ | refine JL.nil ?_ | refine JE.next ?_)
    refine JL.dD (ι:={q' : Acc // q'=none→m.m.to=[]}) (vs:=[ag m.qt m.m.to.length]) (fun q=>ag q.1 m.m.to.length) (fun q=>ay 9 q.1 (m.m.to.map Z)) nw rfl rfl (fun q=>b8 _ _ _) (fun w' hw'=>hzc w' hw'.aS) ?_
    rintro ⟨q1,hq1⟩
    dsimp only
    refine JL.perm (M':=⟨lb,Sl.aO 38 3 z.zs.length lc (A++m.cs::B).flatten,true⟩::(⟨bc,Row 38 m.cs,true⟩::(ay 9 q1 (m.m.to.map Z)++ys.flatMap Mz.E))) ?_ (aM fun _ _ v=>by simp only [List.count_append,List.count_cons,List.count_nil];omega)
    repeat (refine JL.q (by first|(apply OQ.to;exact (OQ.cX (k:=.i64) (i:=i) (sz:=3) Tryz.underlying31 rL rfl rfl hi');exact hzi)|(apply OQ.bA;rfl;rfl;rfl;exact (by decide);rfl)) rfl ?_)
    refine JL.pV (L:=A++m.cs::B) (i:=i) (sz:=3) (off:=1) (v:=ag q1 m.m.to.length) su rfl rfl rfl (dN _ _) (dz _ _) (hL3 _ rfl) (by rw [hLl];exact hi') (by decide) .here ?_
    rw [lK hAl,pW hAl]
    show JL _ _ _ _ _ _ _ _ (⟨lb,Sl.aO 38 3 z.zs.length lc (A++[Z m.m.fr,ag q1 m.m.to.length,ag m.qb m.m.b.length]::B).flatten,true⟩::(⟨bc,Row 38 m.cs,true⟩::(ay 9 q1 (m.m.to.map Z)++ys.flatMap Mz.E)))
    repeat (first | refine JL.q (by first|(apply OQ.load;exact cW;rfl;exact (.there .here);exact (Row.cell (v:=ag m.qb m.m.b.length) rfl))|(apply OQ.move;rfl)|(apply OQ.bA;rfl;rfl;rfl;exact (by decide);rfl)) rfl ?_ | refine JC.region ?_ | refine JL.nil ?_ | refine JE.next ?_)
    refine JL.dD (ι:={q' : Acc // q'=none→m.m.b=[]}) (vs:=[ag m.qb m.m.b.length]) (fun q=>ag q.1 m.m.b.length) (fun q=>ay 5 q.1 (m.m.b.map U8)) nA rfl rfl (fun q=>b8 _ _ _) (fun w' hw'=>hbc w' hw'.aS) ?_
    rintro ⟨q2,hq2⟩
    dsimp only
    refine JL.perm (M':=⟨lb,Sl.aO 38 3 z.zs.length lc (A++[Z m.m.fr,ag q1 m.m.to.length,ag m.qb m.m.b.length]::B).flatten,true⟩::(⟨bc,Row 38 m.cs,true⟩::(ay 5 q2 (m.m.b.map U8)++(ay 9 q1 (m.m.to.map Z)++ys.flatMap Mz.E)))) ?_ (aM fun _ _ v=>by simp only [List.count_append,List.count_cons,List.count_nil];omega)
    repeat (refine JL.q (by first|(apply OQ.to;exact (OQ.cX (k:=.i64) (i:=i) (sz:=3) Tryz.underlying31 rL rfl rfl hi');exact hzi)|(apply OQ.bA;rfl;rfl;rfl;exact (by decide);rfl)) rfl ?_)
    refine JL.pV (L:=A++[Z m.m.fr,ag q1 m.m.to.length,ag m.qb m.m.b.length]::B) (i:=i) (sz:=3) (off:=2) (v:=ag q2 m.m.b.length) mh rfl rfl rfl (dN _ _) (dz _ _) (hL3 _ rfl) (by rw [hLl];exact hi') (by decide) .here ?_
    rw [lK hAl,pW hAl]
    show JL _ _ _ _ _ _ _ _ (⟨lb,Sl.aO 38 3 z.zs.length lc (A++[Z m.m.fr,ag q1 m.m.to.length,ag q2 m.m.b.length]::B).flatten,true⟩::(⟨bc,Row 38 m.cs,true⟩::(ay 5 q2 (m.m.b.map U8)++(ay 9 q1 (m.m.to.map Z)++ys.flatMap Mz.E))))
    repeat (first | refine JL.q (by first|(apply OQ.move;rfl)|(apply OQ.bh;rfl;rfl;exact (by (try simp only []);omega))) rfl ?_ | refine JC.region ?_ | refine JL.nil ?_ | refine JE.next ?_ | refine JE.ai ?_)
    obtain ⟨m2,hm2⟩ : ∃ m2 : Mz,m2=⟨q1,q2,m.m,hq1,hq2⟩:=⟨_,rfl⟩
    have hL2 : (ys++[m2]).map Mz.cs++(z.zs.drop (i+1)).map Mz.cs=A++[Z m.m.fr,ag q1 m.m.to.length,ag q2 m.m.b.length]::B:=by
      rw [List.map_append,hA,hB,hm2,List.append_assoc]
      rfl
    have hE2 : (ys++[m2]).flatMap Mz.E=ys.flatMap Mz.E++(ay 9 q1 (m.m.to.map Z)++ay 5 q2 (m.m.b.map U8)):=by
      rw [List.flatMap_append,hm2]
      show _++(_++[])=_
      rw [List.append_nil]
      rfl
    have hyl : (ys++[m2]).length=i+1:=by rw [List.length_append,List.length_singleton,hi]
    refine JE.vQ (M':=⟨bc,Row 38 m.cs,true⟩::(cg 38 3 (some (lb,lc)) ((ys++[m2]).map Mz.cs++(z.zs.drop (ys++[m2]).length).map Mz.cs)++(ys++[m2]).flatMap Mz.E)) ?_ ?_
    · subst hi
      refine JE.again (i:=ys) (ys++[m2]) ⟨?_,?_⟩ ?_ ?_ (.drop _ _ _ (av.refl _))
      · rw [hyl];omega
      · rw [hyl,htk,List.map_append,List.map_append,hms,hm2]
        rfl
      · rw [hyl];omega
      · rw [hyl];exact (by repeat (first | exact af.nil | refine af.cons _ _ _ rfl ?_))
    · rw [hyl,hL2,hE2]
      unfold cg
      rw [hLl]
      exact aM fun _ _ v=>by simp only [List.count_append,List.count_cons,List.count_nil];omega
  · have hi' : i=z.zs.length:=by have:=of_decide_eq_false hh;omega
    subst hi'
    rw [List.take_length] at hms
    rw [List.drop_length,List.map_nil,List.append_nil]
    repeat (first | refine JL.q (by first|(apply OQ.move;rfl)|(apply OQ.assign;rfl)) rfl ?_ | refine JC.seq ?_ | refine JC.region ?_ | refine JC.exit ?_ | refine JL.nil ?_ | refine JE.next ?_ | refine JE.ax ?_ | refine JE.aI ?_)
    refine JC.ret ?_
    skip
    exact JE.aE rfl (RV.tmp rfl) fun w' hw=>⟨⟨(q,ys),(fun h=>List.eq_nil_of_length_eq_zero (by rw [hi];exact hq0 h)),hms⟩,rfl,hw⟩
end dx
end
section
namespace dx
theorem lN {w v l : List By} (h : au w l=true) (h2 : au v l=true) : aA.eo (w.take v.length) (v.take w.length)=true:=by
  unfold au at h h2
  rw [Bool.and_eq_true,decide_eq_true_iff] at h h2
  have e1:=of_decide_eq_true h.2
  have e2:=of_decide_eq_true h2.2
  unfold aA.eo
  rw [decide_eq_true_iff,List.map_take,List.map_take,← e1,← e2,← List.map_take,← List.map_take,List.take_take,List.take_take,Nat.min_comm]
theorem dg {w v l : List By} (h : au w l=true) (hd : aA.eo (w.take v.length) (v.take w.length)=false) : au v l=false:=by
  cases h2 : au v l with
  | false=>rfl
  | true=>rw [lN h h2] at hd;cases hd
def rD : List By:=[72,69,76,79,32]
def fS (w : List By) : Prop:=∀ d ∈ w,d ∈ ([32,58,65,67,68,69,70,72,73,76,77,79,80,81,82,83,84,85] : List By)
theorem iC {w : List By} (hw : fS w) (l : List By) : au w l=(decide (w.length≤l.length) && decide ((l.take w.length).map dZ=w)):=by
  unfold au
  rw [tI _ _ hw]
theorem oL {w : List By} (hw : fS w) (l : List By) : l.map dZ=w↔au w l=true∧l.drop w.length=[]:=by
  rw [iC hw,Bool.and_eq_true,decide_eq_true_iff,decide_eq_true_iff]
  constructor
  · intro h
    have hl : l.length=w.length:=by rw [← h,List.length_map]
    refine ⟨⟨by omega,?_⟩,?_⟩
    · rw [List.take_of_length_le (by omega)];exact h
    · exact List.drop_eq_nil_of_le (by omega)
  · rintro ⟨⟨h1,h2⟩,h3⟩
    have hl : l.length≤w.length:=List.drop_eq_nil_iff.1 h3
    rw [List.take_of_length_le hl] at h2
    exact h2
theorem xM : fS bT:=by show ∀ d ∈ bT,_;decide
theorem xN : fS bU:=by show ∀ d ∈ bU,_;decide
theorem xO : fS cm:=by show ∀ d ∈ cm,_;decide
theorem vR : fS bP:=by show ∀ d ∈ bP,_;decide
theorem vS : fS cq:=by show ∀ d ∈ cq,_;decide
theorem vT : fS cr:=by show ∀ d ∈ cr,_;decide
theorem yN : fS rD:=by show ∀ d ∈ rD,_;decide
theorem vl : ∀ c : By,aA.small c=aA.small 32↔c=32:=by
  have h : ∀ c : Fin 256,aA.small (BitVec.ofNat 8 c.val)=aA.small 32↔BitVec.ofNat 8 c.val=(32 : By):=by decide +kernel
  intro c
  simpa using h ⟨c.toNat,c.isLt⟩
theorem xP (l : List By) : au rD l=true↔au bT l=true∧(l.drop 4).head?=some 32:=by
  match l with
  | []=>decide
  | [_]=>simp [au,rD,bT]
  | [_,_]=>simp [au,rD,bT]
  | [_,_,_]=>simp [au,rD,bT]
  | [_,_,_,_]=>simp [au,rD,bT]
  | a::b::c::d::e::r=>
    have h5:=vl e
    simp only [au,rD,bT,aA.eo,List.length_cons,List.length_nil,List.take_succ_cons,List.take_zero,List.map_cons,List.map_nil,Bool.and_eq_true,decide_eq_true_iff,List.cons.injEq,and_true,List.drop_succ_cons,List.drop_zero,List.head?_cons,Option.some.injEq]
    constructor
    · rintro ⟨_,h1,h2,h3,h4,h⟩
      exact ⟨⟨by simp,h1,h2,h3,h4⟩,h5.1 h⟩
    · rintro ⟨⟨_,h1,h2,h3,h4⟩,h⟩
      exact ⟨by simp,h1,h2,h3,h4,h5.2 h⟩
def jL (S : Po) (l : List By) : Po × List By:=
  if 512<l.length then (S,dG)
  else if au bU l=true then bM S (l.drop 10)
  else if au cm l=true then c9 S (l.drop 8)
  else if au rD l=true then (bL S 1,er)
  else if l.map dZ=cr then (bL S 5,oc)
  else if l.map dZ=cq then ct S []
  else if l.map dZ=bP then cx S []
  else if au bT l=true∨au cr l=true∨au cq l=true∨au bP l=true then (S,cV)
  else (S,dG)
theorem uk (S : Po) (l : List By) : jL S l=aX S l:=by
  unfold jL aX
  by_cases h5 : 512<l.length
  · rw [if_pos h5,if_pos h5]
  rw [if_neg h5,if_neg h5]
  have aQ:=oL vT l
  have aR:=oL vS l
  have aD:=oL vR l
  have aH:=xP l
  rw [show cr.length=4 from rfl] at aQ
  rw [show cq.length=4 from rfl] at aR
  rw [show bP.length=4 from rfl] at aD
  cases hH : au bT l with
  | true=>
    have hM:=dg (v:=bU) hH (by decide)
    have hR:=dg (v:=cm) hH (by decide)
    have hD:=dg (v:=bP) hH (by decide)
    have hS:=dg (v:=cq) hH (by decide)
    have hQ:=dg (v:=cr) hH (by decide)
    rw [hH] at aH
    rw [hQ] at aQ
    rw [hS] at aR
    rw [hD] at aD
    simp only [hM,hR,hD,hS,hQ,Bool.false_eq_true,if_false,if_true,false_and,true_and] at aQ aR aD aH ⊢
    unfold cZ
    by_cases h32 : (l.drop 4).head?=some 32
    · rw [if_pos (aH.2 h32),if_pos h32]
    · rw [if_neg (fun e=>h32 (aH.1 e)),if_neg h32,if_neg (fun e=>aQ.1 e),if_neg (fun e=>aR.1 e),if_neg (fun e=>aD.1 e),if_pos (by simp)]
  | false=>
    rw [hH] at aH
    simp only [Bool.false_eq_true,false_and,iff_false] at aH
    cases hM : au bU l with
    | true=>simp only [if_true,Bool.false_eq_true,if_false]
    | false=>
      cases hR : au cm l with
      | true=>simp only [if_true,Bool.false_eq_true,if_false]
      | false=>
        simp only [Bool.false_eq_true,if_false,false_or]
        rw [if_neg aH]
        cases hD : au bP l with
        | true=>
          have hS:=dg (v:=cq) hD (by decide)
          have hQ:=dg (v:=cr) hD (by decide)
          rw [hQ] at aQ
          rw [hS] at aR
          rw [hD] at aD
          simp only [Bool.false_eq_true,false_and,iff_false,true_and] at aQ aR aD
          rw [if_neg aQ,if_neg aR,if_pos rfl]
          by_cases h0 : l.drop 4=[]
          · rw [if_pos (aD.2 h0),h0]
          · rw [if_neg (fun e=>h0 (aD.1 e)),if_pos (by simp)]
            unfold cx
            rw [if_neg h0]
        | false=>
          rw [hD] at aD
          simp only [Bool.false_eq_true,false_and,iff_false] at aD
          cases hS : au cq l with
          | true=>
            have hQ:=dg (v:=cr) hS (by decide)
            rw [hQ] at aQ
            rw [hS] at aR
            simp only [Bool.false_eq_true,false_and,iff_false,true_and] at aQ aR
            rw [if_neg aQ,if_neg (by simp : ¬ (false=true)),if_pos (rfl : true=true)]
            by_cases h0 : l.drop 4=[]
            · rw [if_pos (aR.2 h0),h0]
            · rw [if_neg (fun e=>h0 (aR.1 e)),if_neg aD,if_pos (by simp)]
              unfold ct
              rw [if_neg h0]
          | false=>
            rw [hS] at aR
            simp only [Bool.false_eq_true,false_and,iff_false] at aR
            cases hQ : au cr l with
            | true=>
              rw [hQ] at aQ
              simp only [true_and] at aQ
              simp only [Bool.false_eq_true,if_false,if_true]
              unfold eK
              by_cases h0 : l.drop 4=[]
              · rw [if_pos (aQ.2 h0),if_pos h0]
              · rw [if_neg (fun e=>h0 (aQ.1 e)),if_neg aR,if_neg aD,if_pos (by simp),if_neg h0]
            | false=>
              rw [hQ] at aQ
              simp only [Bool.false_eq_true,false_and,iff_false] at aQ
              rw [if_neg aQ,if_neg aR,if_neg aD]
              simp
end dx
end
section
set_option maxRecDepth 10000
open Sl aA Tok
theorem jM : aK Tryz.prog 111:=⟨_,Tryz.func111,rfl,by kernel_rfl⟩
structure BS where
  i : Nat
  d : Nat
  q : Bool
  o : List aA.By
  n : Nat
  b : Nat
  cap : Nat
theorem kI {c : aA.By} (k : aA.By) (h : decide ((c.toNat : Int)=(k.toNat : Int))=true) : c=k:=by rw [gX] at h;exact beq_iff_eq.1 h
theorem fB {c : aA.By} (k : aA.By) (h : decide ((c.toNat : Int)=(k.toNat : Int))=false) : ¬ c=k:=by rw [gX] at h;exact beq_eq_false_iff_ne.1 h
set_option maxHeartbeats 32000000 in
theorem rE (s : List aA.By) (w : World) (hl : s.length<1000000) : Calls Tryz.prog 111 [Z s].toArray w fun e w'=>e=.returned (.tuple #[Z (c8 s).1,N (c8 s).2])∧Ext w w':=by
  refine enter (n:=86) Tryz.func111 rfl rfl rfl (aa.start w []) ?_
  repeat (first | refine JL.q (by (apply OQ.assign;rfl)) rfl ?_ | refine JC.seq ?_ | refine JC.region ?_ | refine JL.nil ?_ | refine JE.next ?_)
  refine JL.oW Tryz.underlying22 cc rfl fun b0 _=>?_
  repeat (first | refine JL.q (by (apply OQ.assign;rfl)) rfl ?_ | refine JC.seq ?_ | refine JC.region ?_ | refine JC.block ?_ | refine JL.nil ?_ | refine JE.next ?_)
  refine JC.loop (fun z : BS=>[(0,Z s),(4,.slice (some ⟨z.b,0,none⟩) z.n z.cap),(5,N z.d),(6,.bool z.q),(7,N z.i)]) (fun z=>[⟨z.b,Sl.aO 5 1 z.n z.cap (z.o.map U8),true⟩]) (fun z=>s.length+1 - z.i) (fun z=>z.i≤s.length+1∧z.d≤9∧z.o.length=z.n∧z.n≤z.i∧c8 s=aN (s.drop z.i) z.d z.q z.o) ⟨0,0,false,[],0,b0,0⟩ ⟨by simp,by simp,rfl,by simp,rfl⟩ (by repeat (first | exact af.nil | refine af.cons _ _ _ rfl ?_)) (av.refl _) ?_
  rintro ⟨i,d,q,o,n,b,cap⟩ ⟨hi,hd,hon,hn,ha⟩
  simp only at hi hd hon hn ha
  dsimp only
  repeat (first | refine JL.q (by first|(apply OQ.bw;exact Tryz.underlying9;rfl)|(apply OQ.move;rfl)|(apply OQ.dV;rfl;rfl)) rfl ?_ | refine JC.seq ?_ | refine JC.region ?_ | refine JL.nil ?_ | refine JE.next ?_)
  refine JC.cond rfl (fun h=>?_) (fun h=>?_)
  · have hi' : i<s.length:=of_decide_eq_true h
    clear h hi
    rw [fH hi'] at ha
    have hidx:=fun {n : Nat} {E : Env} {C : World→Prop} {dst : Option Tmp} {ty : TypeId} {pos : String} {aft : Array Edge} {g : Option (Nat × Bool)} {x y : Operand}=>bY hi' (n:=n) (E:=E) (C:=C) (dst:=dst) (ty:=ty) (pos:=pos) (aft:=aft) (g:=g) (x:=x) (y:=y)
    generalize s.getD i 0=c at hidx ha
    cases h92 : decide ((c.toNat : Int)=92) <;> cases hq : q <;> cases h0 : decide ((0 : Int)<(d : Int))
    all_goals subst hq
    all_goals (repeat (first | refine JL.q (by first|(apply hidx;rfl;rfl)|(apply OQ.gH (b:=92);rfl;rfl;exact h92)|(apply OQ.eW (b:=0);rfl;rfl;exact h0)|(apply OQ.az;rfl;rfl)|(apply OQ.aB;rfl;rfl)|(apply OQ.move;rfl)|(apply OQ.assign;rfl)) rfl ?_ | refine JC.seq ?_ | refine JC.region ?_ | refine JC.block ?_ | refine JC.skip ?_ | refine JL.nil ?_ | refine JE.next ?_ | refine JL.aT rfl rfl ?_ | refine JL.aU rfl rfl rfl rfl ?_ | refine JL.iT rfl rfl rfl rfl ?_))
    all_goals refine JC.cond rfl (fun h=>?_) (fun h=>?_)
    all_goals first|(exfalso;revert h;decide) | skip
    all_goals clear h
    case refine_1.true.true.false.refine_1 | refine_1.true.true.true.refine_1=>
      obtain rfl : c=92:=kI 92 h92
      (repeat (first | refine JL.q (by (apply OQ.move;rfl)) rfl ?_ | refine JC.seq ?_ | refine JC.region ?_ | refine JL.nil ?_ | refine JE.next ?_))
      refine JC.cond rfl (fun _=>?_) (fun h=>by cases h)
      (repeat (first | refine JL.q (by (apply OQ.move;rfl)) rfl ?_ | refine JC.seq ?_ | refine JC.region ?_))
      refine JL.fj (xs:=o.map U8) (fun b' cap'=>[⟨b',Sl.aO 5 1 (n+1) cap' (o.map U8++[U8 92]),true⟩]) Tryz.underlying22 cc rfl rfl rfl rfl (fun _=>rfl) (by intro _ _;repeat (first | exact aL.here | apply aL.there)) (by omega) (by omega) rfl rfl fun bl b1 cap1=>?_
      cases h4 : decide (((i+1 : Nat) : Int)<(s.length : Int))
      · (repeat (first | refine JL.q (by first|(apply OQ.bw;exact Tryz.underlying9;rfl)|(apply OQ.cU;rfl;rfl;exact h4)|(apply OQ.move;rfl)|(apply OQ.assign;rfl)|(apply OQ.bh;rfl;rfl;exact (by (try simp only []);omega))) rfl ?_ | refine JC.seq ?_ | refine JC.region ?_ | refine JL.nil ?_ | refine JE.next ?_))
        refine JC.cond rfl (fun h=>by cases h) (fun _=>?_)
        (repeat (first | refine JL.q (by first|(apply OQ.move;rfl)|(apply OQ.assign;rfl)|(apply OQ.bh;rfl;rfl;exact (by (try simp only []);omega))) rfl ?_ | refine JC.seq ?_ | refine JC.region ?_ | refine JC.skip ?_ | refine JC.exit ?_ | refine JL.nil ?_ | refine JE.next ?_ | refine JE.ax ?_ | refine JE.aI ?_))
        have he : s.length≤i+1:=by have:=of_decide_eq_false h4;omega
        rw [List.drop_of_length_le he,gR] at ha
        refine JE.again (i:=BS.mk i d true o n b cap) (BS.mk (i+2) d true (o++[92]) (n+1) b1 cap1) ⟨by dsimp only;omega,hd,by simp [hon],by dsimp only;omega,by dsimp only;rw [List.drop_of_length_le (by omega),ha,cu];simp⟩ (by dsimp only;omega) (by repeat (first | exact af.nil | refine af.cons _ _ _ rfl ?_)) (.keep _ _ _ _ _ _ (fun o h=>by dsimp only;simp only [List.map_append];exact h) (.nil _))
      · have hi2 : i+1<s.length:=by have:=of_decide_eq_true h4;omega
        rw [fH hi2] at ha
        have hidx2:=fun {n : Nat} {E : Env} {C : World→Prop} {dst : Option Tmp} {ty : TypeId} {pos : String} {aft : Array Edge} {g : Option (Nat × Bool)} {x y : Operand}=>bY hi2 (n:=n) (E:=E) (C:=C) (dst:=dst) (ty:=ty) (pos:=pos) (aft:=aft) (g:=g) (x:=x) (y:=y)
        generalize s.getD (i+1) 0=c2 at hidx2 ha
        rw [jb] at ha
        (repeat (first | refine JL.q (by first|(apply OQ.bw;exact Tryz.underlying9;rfl)|(apply OQ.cU;rfl;rfl;exact h4)|(apply OQ.move;rfl)|(apply OQ.assign;rfl)|(apply OQ.bh;rfl;rfl;exact (by (try simp only []);omega))) rfl ?_ | refine JC.seq ?_ | refine JC.region ?_ | refine JL.nil ?_ | refine JE.next ?_))
        refine JC.cond rfl (fun _=>?_) (fun h=>by cases h)
        (repeat (first | refine JL.q (by first|(apply hidx2;rfl;rfl)|(apply OQ.move;rfl)|(apply OQ.bh;rfl;rfl;exact (by (try simp only []);omega))) rfl ?_ | refine JC.region ?_))
        refine JL.fj (xs:=o.map U8++[U8 92]) (fun b' cap'=>[⟨b',Sl.aO 5 1 (n+1+1) cap' (o.map U8++[U8 92]++[U8 c2]),true⟩]) Tryz.underlying22 cc rfl rfl rfl rfl (fun _=>rfl) (by intro _ _;repeat (first | exact aL.here | apply aL.there)) (by omega) (by omega) rfl rfl fun bl b2 cap2=>?_
        (repeat (first | refine JL.q (by first|(apply OQ.move;rfl)|(apply OQ.assign;rfl)|(apply OQ.bh;rfl;rfl;exact (by (try simp only []);omega))) rfl ?_ | refine JC.seq ?_ | refine JC.region ?_ | refine JC.exit ?_ | refine JL.nil ?_ | refine JE.next ?_ | refine JE.ax ?_ | refine JE.aI ?_))
        refine JE.again (i:=BS.mk i d true o n b cap) (BS.mk (i+2) d true (o++[92]++[c2]) (n+1+1) b2 cap2) ⟨by dsimp only;omega,hd,by simp [hon],by dsimp only;omega,ha⟩ (by dsimp only;omega) (by repeat (first | exact af.nil | refine af.cons _ _ _ rfl ?_)) (.keep _ _ _ _ _ _ (fun o h=>by dsimp only;simp only [List.map_append];exact h) (.nil _))
    case refine_1.true.false.true.refine_1=>
      obtain rfl : c=92:=kI 92 h92
      have hd0 : 0<d:=by have:=of_decide_eq_true h0;omega
      (repeat (first | refine JL.q (by (apply OQ.move;rfl)) rfl ?_ | refine JC.seq ?_ | refine JC.region ?_ | refine JL.nil ?_ | refine JE.next ?_))
      refine JC.cond rfl (fun h=>by cases h) (fun _=>?_)
      (repeat (first | refine JL.q (by first|(apply OQ.move;rfl)|(apply OQ.assign;rfl)|(apply OQ.bh;rfl;rfl;exact (by (try simp only []);omega))) rfl ?_ | refine JC.seq ?_ | refine JC.region ?_ | refine JC.skip ?_ | refine JC.exit ?_ | refine JL.nil ?_ | refine JE.next ?_ | refine JE.ax ?_ | refine JE.aI ?_))
      refine JE.again (i:=BS.mk i d false o n b cap) (BS.mk (i+2) d false o n b cap) ⟨by dsimp only;omega,hd,hon,by dsimp only;omega,?_⟩ (by dsimp only;omega) (by repeat (first | exact af.nil | refine af.cons _ _ _ rfl ?_)) (av.refl _)
      dsimp only
      by_cases h4 : i+1<s.length
      · rw [fH h4,jc hd0] at ha
        exact ha
      · rw [List.drop_of_length_le (by omega),gS hd0] at ha
        rw [List.drop_of_length_le (by omega),ha,cu,h0];rfl
    case refine_1.false.true.false.refine_2 | refine_1.false.true.true.refine_2=>
      rw [kS (fB 92 h92),eqc] at ha
      (repeat (first | refine JL.q (by (apply OQ.move;rfl)) rfl ?_ | refine JC.seq ?_ | refine JC.region ?_ | refine JC.skip ?_ | refine JL.nil ?_ | refine JE.next ?_))
      refine JC.cond rfl (fun _=>?_) (fun h=>by cases h)
      (repeat (first | refine JL.q (by (apply OQ.move;rfl)) rfl ?_ | refine JC.seq ?_ | refine JC.region ?_))
      refine JL.fj (xs:=o.map U8) (fun b' cap'=>[⟨b',Sl.aO 5 1 (n+1) cap' (o.map U8++[U8 c]),true⟩]) Tryz.underlying22 cc rfl rfl rfl rfl (fun _=>rfl) (by intro _ _;repeat (first | exact aL.here | apply aL.there)) (by omega) (by omega) rfl rfl fun bl b1 cap1=>?_
      cases h34 : decide ((c.toNat : Int)=34)
      all_goals (
        (repeat (first | refine JL.q (by first|(apply OQ.nG (b:=34);rfl;rfl;exact h34)|(apply OQ.move;rfl)|(apply OQ.assign;rfl)|(apply OQ.bh;rfl;rfl;exact (by (try simp only []);omega))) rfl ?_ | refine JC.seq ?_ | refine JC.region ?_ | refine JC.exit ?_ | refine JL.nil ?_ | refine JE.next ?_ | refine JE.ax ?_ | refine JE.aI ?_))
        rw [show decide ((c.toNat : Int)=((34 : aA.By).toNat : Int))=_ from h34] at ha
        refine JE.again (i:=BS.mk i d true o n b cap) (BS.mk (i+1) d _ (o++[c]) (n+1) b1 cap1) ⟨by dsimp only;omega,hd,by simp [hon],by dsimp only;omega,ha⟩ (by dsimp only;omega) (by repeat (first | exact af.nil | refine af.cons _ _ _ rfl ?_)) (.keep _ _ _ _ _ _ (fun o h=>by dsimp only;simp only [List.map_append];exact h) (.nil _)))
    all_goals (
      have hns : d=0∨¬ c=92:=by
        first
          | exact Or.inr (fB 92 h92)
          | exact Or.inl (by have:=of_decide_eq_false h0;omega)
      (repeat (first | refine JL.q (by (apply OQ.move;rfl)) rfl ?_ | refine JC.seq ?_ | refine JC.region ?_ | refine JC.skip ?_ | refine JL.nil ?_ | refine JE.next ?_))
      refine JC.cond rfl (fun h=>by cases h) (fun _=>?_)
      cases h40 : decide ((c.toNat : Int)=40)
      case true=>
        obtain rfl : c=40:=kI 40 h40
        rw [gx] at ha
        (repeat (first | refine JL.q (by first|(apply OQ.gH (b:=40);rfl;rfl;exact h40)|(apply OQ.move;rfl)) rfl ?_ | refine JC.seq ?_ | refine JC.region ?_ | refine JC.skip ?_ | refine JL.nil ?_ | refine JE.next ?_))
        refine JC.cond rfl (fun _=>?_) (fun h=>by cases h)
        cases h9 : decide ((9 : Int)<((d+1 : Nat) : Int))
        · rw [if_neg (by have:=of_decide_eq_false h9;omega)] at ha
          (repeat (first | refine JL.q (by first|(apply OQ.eW (b:=9);rfl;rfl;exact h9)|(apply OQ.move;rfl)|(apply OQ.assign;rfl)|(apply OQ.bh;rfl;rfl;exact (by (try simp only []);omega))) rfl ?_ | refine JC.seq ?_ | refine JC.region ?_ | refine JL.nil ?_ | refine JE.next ?_))
          refine JC.cond rfl (fun h=>by cases h) (fun _=>?_)
          (repeat (first | refine JL.q (by first|(apply OQ.move;rfl)|(apply OQ.assign;rfl)|(apply OQ.bh;rfl;rfl;exact (by (try simp only []);omega))) rfl ?_ | refine JC.region ?_ | refine JC.skip ?_ | refine JC.exit ?_ | refine JL.nil ?_ | refine JE.next ?_ | refine JE.ax ?_ | refine JE.aI ?_))
          exact JE.again (i:=BS.mk i d false o n b cap) (BS.mk (i+1) (d+1) false o n b cap) ⟨by dsimp only;omega,by have:=of_decide_eq_false h9;dsimp only;omega,hon,by dsimp only;omega,ha⟩ (by dsimp only;omega) (by repeat (first | exact af.nil | refine af.cons _ _ _ rfl ?_)) (av.refl _)
        · rw [if_pos (by have:=of_decide_eq_true h9;omega)] at ha
          rw [ha]
          (repeat (first | refine JL.q (by first|(apply OQ.eW (b:=9);rfl;rfl;exact h9)|(apply OQ.move;rfl)|(apply OQ.assign;rfl)|(apply OQ.bh;rfl;rfl;exact (by (try simp only []);omega))) rfl ?_ | refine JC.seq ?_ | refine JC.region ?_ | refine JL.nil ?_ | refine JE.next ?_))
          refine JC.cond rfl (fun _=>?_) (fun h=>by cases h)
          (repeat (first | refine JL.q (by (apply OQ.assign;rfl)) rfl ?_ | refine JC.seq ?_ | refine JC.region ?_ | refine JL.nil ?_ | refine JE.next ?_))
          refine JC.ret ?_
          (repeat (first | refine JE.ah ?_ | refine JE.aZ ?_))
          refine JE.bI rfl (RV.tmp rfl) (RV.tmp rfl) ?_
          exact fun w' hw=>⟨rfl,hw.aS⟩
      case false=>
        cases h41 : decide ((c.toNat : Int)=41)
        case true=>
          obtain rfl : c=41:=kI 41 h41
          rw [iH] at ha
          (repeat (first | refine JL.q (by first|(apply OQ.gH (b:=40);rfl;rfl;exact h40)|(apply OQ.move;rfl)) rfl ?_ | refine JC.seq ?_ | refine JC.region ?_ | refine JC.skip ?_ | refine JL.nil ?_ | refine JE.next ?_))
          refine JC.cond rfl (fun h=>by cases h) (fun _=>?_)
          (repeat (first | refine JL.q (by first|(apply OQ.gH (b:=41);rfl;rfl;exact h41)|(apply OQ.move;rfl)) rfl ?_ | refine JC.seq ?_ | refine JC.region ?_ | refine JC.skip ?_ | refine JL.nil ?_ | refine JE.next ?_))
          refine JC.cond rfl (fun _=>?_) (fun h=>by cases h)
          by_cases hd0 : d=0
          · rw [if_pos hd0] at ha
            rw [ha]
            subst hd0
            (repeat (first | refine JL.q (by first|(apply OQ.qa (b:=1);rfl;rfl;exact (by omega);exact (by omega))|(apply OQ.cU (b:=0) (c:=true);rfl;rfl;rfl)|(apply OQ.move;rfl)|(apply OQ.assign;rfl)) rfl ?_ | refine JC.seq ?_ | refine JC.region ?_ | refine JL.nil ?_ | refine JE.next ?_))
            refine JC.cond rfl (fun _=>?_) (fun h=>by cases h)
            (repeat (first | refine JL.q (by (apply OQ.assign;rfl)) rfl ?_ | refine JC.seq ?_ | refine JC.region ?_ | refine JL.nil ?_ | refine JE.next ?_))
            refine JC.ret ?_
            (repeat (first | refine JE.ah ?_ | refine JE.aZ ?_))
            refine JE.bI rfl (RV.tmp rfl) (RV.tmp rfl) ?_
            exact fun w' hw=>⟨rfl,hw.aS⟩
          · rw [if_neg hd0] at ha
            have hneg : decide (((d - 1 : Nat) : Int)<0)=false:=decide_eq_false (by omega)
            cases h1 : decide (((d - 1 : Nat) : Int)=0)
            · rw [if_neg (by have:=of_decide_eq_false h1;omega)] at ha
              (repeat (first | refine JL.q (by first|(apply OQ.cU (b:=0);rfl;rfl;exact hneg)|(apply OQ.move;rfl)|(apply OQ.assign;rfl)|(apply OQ.eP;rfl;rfl;exact (by (try simp only []);omega);exact (by (try simp only []);omega))) rfl ?_ | refine JC.seq ?_ | refine JC.region ?_ | refine JL.nil ?_ | refine JE.next ?_))
              refine JC.cond rfl (fun h=>by cases h) (fun _=>?_)
              (repeat (first | refine JL.q (by first|(apply OQ.gH (b:=0);rfl;rfl;exact h1)|(apply OQ.move;rfl)) rfl ?_ | refine JC.seq ?_ | refine JC.region ?_ | refine JC.skip ?_ | refine JL.nil ?_ | refine JE.next ?_))
              refine JC.cond rfl (fun h=>by cases h) (fun _=>?_)
              (repeat (first | refine JL.q (by first|(apply OQ.move;rfl)|(apply OQ.assign;rfl)|(apply OQ.bh;rfl;rfl;exact (by (try simp only []);omega))) rfl ?_ | refine JC.region ?_ | refine JC.skip ?_ | refine JC.exit ?_ | refine JL.nil ?_ | refine JE.next ?_ | refine JE.ax ?_ | refine JE.aI ?_))
              exact JE.again (i:=BS.mk i d false o n b cap) (BS.mk (i+1) (d - 1) false o n b cap) ⟨by dsimp only;omega,by dsimp only;omega,hon,by dsimp only;omega,ha⟩ (by dsimp only;omega) (by repeat (first | exact af.nil | refine af.cons _ _ _ rfl ?_)) (av.refl _)
            · rw [if_pos (by have:=of_decide_eq_true h1;omega)] at ha
              (repeat (first | refine JL.q (by first|(apply OQ.cU (b:=0);rfl;rfl;exact hneg)|(apply OQ.move;rfl)|(apply OQ.assign;rfl)|(apply OQ.eP;rfl;rfl;exact (by (try simp only []);omega);exact (by (try simp only []);omega))) rfl ?_ | refine JC.seq ?_ | refine JC.region ?_ | refine JL.nil ?_ | refine JE.next ?_))
              refine JC.cond rfl (fun h=>by cases h) (fun _=>?_)
              (repeat (first | refine JL.q (by first|(apply OQ.gH (b:=0);rfl;rfl;exact h1)|(apply OQ.move;rfl)) rfl ?_ | refine JC.seq ?_ | refine JC.region ?_ | refine JC.skip ?_ | refine JL.nil ?_ | refine JE.next ?_))
              refine JC.cond rfl (fun _=>?_) (fun h=>by cases h)
              (repeat (first | refine JL.q (by (apply OQ.move;rfl)) rfl ?_ | refine JC.region ?_))
              refine JL.fj (xs:=o.map U8) (fun b' cap'=>[⟨b',Sl.aO 5 1 (n+1) cap' (o.map U8++[U8 32]),true⟩]) Tryz.underlying22 cc rfl rfl rfl rfl (fun _=>rfl) (by intro _ _;repeat (first | exact aL.here | apply aL.there)) (by omega) (by omega) rfl rfl fun bl b1 cap1=>?_
              (repeat (first | refine JL.q (by first|(apply OQ.move;rfl)|(apply OQ.assign;rfl)|(apply OQ.bh;rfl;rfl;exact (by (try simp only []);omega))) rfl ?_ | refine JC.region ?_ | refine JC.exit ?_ | refine JL.nil ?_ | refine JE.next ?_ | refine JE.ax ?_ | refine JE.aI ?_))
              exact JE.again (i:=BS.mk i d false o n b cap) (BS.mk (i+1) (d - 1) false (o++[32]) (n+1) b1 cap1) ⟨by dsimp only;omega,by dsimp only;omega,by simp [hon],by dsimp only;omega,ha⟩ (by dsimp only;omega) (by repeat (first | exact af.nil | refine af.cons _ _ _ rfl ?_)) (.keep _ _ _ _ _ _ (fun o h=>by dsimp only;simp only [List.map_append];exact h) (.nil _))
        case false=>
          (repeat (first | refine JL.q (by first|(apply OQ.gH (b:=40);rfl;rfl;exact h40)|(apply OQ.move;rfl)) rfl ?_ | refine JC.seq ?_ | refine JC.region ?_ | refine JC.skip ?_ | refine JL.nil ?_ | refine JE.next ?_))
          refine JC.cond rfl (fun h=>by cases h) (fun _=>?_)
          (repeat (first | refine JL.q (by first|(apply OQ.gH (b:=41);rfl;rfl;exact h41)|(apply OQ.move;rfl)) rfl ?_ | refine JC.seq ?_ | refine JC.region ?_ | refine JC.skip ?_ | refine JL.nil ?_ | refine JE.next ?_))
          refine JC.cond rfl (fun h=>by cases h) (fun _=>?_)
          cases hd0 : decide ((d : Int)=0)
          · have hd1 : ¬ d=0:=by have:=of_decide_eq_false hd0;omega
            rw [sn (by rcases hns with h | h;exact absurd h hd1;exact h) (fB 40 h40) (fB 41 h41) hd1] at ha
            (repeat (first | refine JL.q (by first|(apply OQ.gH (b:=0);rfl;rfl;exact hd0)|(apply OQ.move;rfl)) rfl ?_ | refine JC.seq ?_ | refine JC.region ?_ | refine JC.skip ?_ | refine JL.nil ?_ | refine JE.next ?_))
            refine JC.cond rfl (fun h=>by cases h) (fun _=>?_)
            (repeat (first | refine JL.q (by first|(apply OQ.move;rfl)|(apply OQ.assign;rfl)|(apply OQ.bh;rfl;rfl;exact (by (try simp only []);omega))) rfl ?_ | refine JC.region ?_ | refine JC.skip ?_ | refine JL.nil ?_ | refine JE.next ?_ | refine JE.ai ?_))
            exact JE.again (i:=BS.mk i d false o n b cap) (BS.mk (i+1) d false o n b cap) ⟨by dsimp only;omega,hd,hon,by dsimp only;omega,ha⟩ (by dsimp only;omega) (by repeat (first | exact af.nil | refine af.cons _ _ _ rfl ?_)) (av.refl _)
          · obtain rfl : d=0:=by have:=of_decide_eq_true hd0;omega
            rw [jd (fB 40 h40) (fB 41 h41),eqc] at ha
            (repeat (first | refine JL.q (by first|(apply OQ.gH (b:=0);rfl;rfl;exact hd0)|(apply OQ.move;rfl)) rfl ?_ | refine JC.seq ?_ | refine JC.region ?_ | refine JC.skip ?_ | refine JL.nil ?_ | refine JE.next ?_))
            refine JC.cond rfl (fun _=>?_) (fun h=>by cases h)
            (repeat (first | refine JL.q (by (apply OQ.move;rfl)) rfl ?_ | refine JC.seq ?_ | refine JC.region ?_))
            refine JL.fj (xs:=o.map U8) (fun b' cap'=>[⟨b',Sl.aO 5 1 (n+1) cap' (o.map U8++[U8 c]),true⟩]) Tryz.underlying22 cc rfl rfl rfl rfl (fun _=>rfl) (by intro _ _;repeat (first | exact aL.here | apply aL.there)) (by omega) (by omega) rfl rfl fun bl b1 cap1=>?_
            cases h34 : decide ((c.toNat : Int)=34)
            all_goals (
              (repeat (first | refine JL.q (by first|(apply OQ.gH (b:=34);rfl;rfl;exact h34)|(apply OQ.move;rfl)|(apply OQ.assign;rfl)|(apply OQ.bh;rfl;rfl;exact (by (try simp only []);omega))) rfl ?_ | refine JC.region ?_ | refine JL.nil ?_ | refine JE.next ?_ | refine JE.ai ?_))
              rw [show decide ((c.toNat : Int)=((34 : aA.By).toNat : Int))=_ from h34] at ha
              refine JE.again (i:=BS.mk i 0 false o n b cap) (BS.mk (i+1) 0 _ (o++[c]) (n+1) b1 cap1) ⟨by dsimp only;omega,hd,by simp [hon],by dsimp only;omega,ha⟩ (by dsimp only;omega) (by repeat (first | exact af.nil | refine af.cons _ _ _ rfl ?_)) (.keep _ _ _ _ _ _ (fun o h=>by dsimp only;simp only [List.map_append];exact h) (.nil _))))
  · have hi' : ¬ i<s.length:=of_decide_eq_false h
    clear h hi
    rw [List.drop_of_length_le (by omega),cu] at ha
    cases h0 : decide ((0 : Int)<(d : Int)) <;> cases hq : q
    all_goals subst hq
    all_goals (rw [h0] at ha)
    all_goals (repeat (first | refine JL.q (by first|(apply OQ.eW (b:=0);rfl;rfl;exact h0)|(apply OQ.az;rfl;rfl)|(apply OQ.aB;rfl;rfl)|(apply OQ.move;rfl)) rfl ?_ | refine JC.seq ?_ | refine JC.region ?_ | refine JC.exit ?_ | refine JL.nil ?_ | refine JE.next ?_ | refine JE.ax ?_ | refine JE.aI ?_ | refine JL.aT rfl rfl ?_ | refine JL.aU rfl rfl rfl rfl ?_))
    all_goals refine JC.cond rfl (fun h=>?_) (fun h=>?_)
    all_goals first|(exfalso;revert h;decide) | skip
    all_goals clear h
    all_goals first
      | (have e : c8 s=([],3):=ha
         rw [e]
         (repeat (first | refine JL.q (by (apply OQ.assign;rfl)) rfl ?_ | refine JC.seq ?_ | refine JC.region ?_ | refine JL.nil ?_ | refine JE.next ?_))
         refine JC.ret ?_
         (repeat (refine JE.ah ?_))
         refine JE.bI rfl (RV.tmp rfl) (RV.tmp rfl) ?_
         exact fun w' hw=>⟨rfl,hw.aS⟩)
      | (have e : c8 s=(o,0):=ha
         rw [e]
         subst hon
         (repeat (first | refine JL.q (by first|(apply OQ.nF (s:=⟨some ⟨b,0,none⟩,cap,o⟩);exact Tryz.underlying22;exact Tryz.underlying5;exact Tryz.underlying9;rfl;exact (fun w' hw'=>dM hw' .here))|(apply OQ.move;rfl)|(apply OQ.assign;rfl)) rfl ?_ | refine JC.seq ?_ | refine JC.region ?_ | refine JC.skip ?_ | refine JL.nil ?_ | refine JE.next ?_))
         refine JC.ret ?_
         (skip)
         refine JE.bI rfl (RV.tmp rfl) (RV.tmp rfl) ?_
         exact fun w' hw=>⟨rfl,hw.aS⟩)
end
section
set_option maxRecDepth 10000
open Sl aA Tok
theorem um {p : aA.By→Bool} : ∀ {a b : List aA.By},a.all p=true→(∀ c ∈ b.head?,p c=false)→(a++b).takeWhile p=a
  | [],[],_,_=>rfl
  | [],c::b,_,h=>by
    rw [List.nil_append,List.takeWhile_cons,if_neg (by rw [h c rfl];decide)]
  | c::a,b,h,k=>by
    rw [List.all_cons,Bool.and_eq_true] at h
    rw [List.cons_append,List.takeWhile_cons,if_pos h.1,um h.2 k]
theorem wN {t : List aA.By} {n : Nat} (hn : n+1<t.length) (h : t.getD n 0=60) (hj : ∀ j : Nat,n<j→j<t.length→¬ t.getD j 0=60) : wU t.dropLast=(t.take (t.length - 1)).drop (n+1):=by
  rw [List.dropLast_eq_take]
  have hv : (t.take (t.length - 1))=(t.take n)++60::(t.take (t.length - 1)).drop (n+1):=by
    conv=>lhs;rw [← List.take_append_drop n (t.take (t.length - 1))]
    rw [List.take_take,Nat.min_eq_left (by omega)]
    congr 1
    rw [List.drop_eq_getElem_cons (by rw [List.length_take];omega),List.getElem_take]
    congr 1
    rw [← h,List.getD_eq_getElem?_getD,List.getElem?_eq_getElem (by omega)];rfl
  unfold wU
  conv=>lhs;rw [hv]
  rw [List.reverse_append,List.reverse_cons,List.append_assoc,um (b:=[60]++_),List.reverse_reverse]
  · rw [List.all_reverse,List.all_eq_true]
    intro x hx
    obtain ⟨k,hk,rfl⟩:=List.mem_iff_getElem.1 hx
    rw [List.length_drop,List.length_take] at hk
    have:=hj (n+1+k) (by omega) (by omega)
    rw [List.getD_eq_getElem?_getD,List.getElem?_eq_getElem (by omega)] at this
    rw [List.getElem_drop,List.getElem_take]
    simpa using this
  · intro c hc
    simp at hc
    subst hc
    rfl
set_option maxHeartbeats 32000000 in
theorem rF (s : List aA.By) (w : World) (hl : s.length<1000000) : Calls Tryz.prog 78 [Z s].toArray w fun e w'=>e=.returned (.tuple #[Z (b6 s).1,N (b6 s).2])∧Ext w w':=by
  refine enter (n:=92) Tryz.func78 rfl rfl rfl (aa.start w []) ?_
  have cB:=fun w'=>rE s w' hl
  have hbl:=j4 s
  unfold b6
  generalize (c8 s).1=x at cB hbl ⊢
  generalize (c8 s).2=k at cB ⊢
  cases hk : decide ((k : Int)=0)
  · rw [if_neg (by have:=of_decide_eq_false hk;omega)]
    repeat (first | refine JL.q (by first|(apply OQ.ak (vs:=[Z s]);exact jM;rfl;exact (fun w' _=>cB w'))|(apply OQ.extract;rfl;rfl)|(apply OQ.nG (b:=0);rfl;rfl;exact hk)|(apply OQ.move;rfl)|(apply OQ.assign;rfl)) rfl ?_ | refine JC.seq ?_ | refine JC.region ?_ | refine JL.nil ?_ | refine JE.next ?_)
    refine JC.cond rfl (fun _=>?_) (fun h=>by cases h)
    repeat (first | refine JL.q (by first|(apply OQ.move;rfl)|(apply OQ.assign;rfl)) rfl ?_ | refine JC.seq ?_ | refine JC.region ?_ | refine JL.nil ?_ | refine JE.next ?_)
    refine JC.ret ?_
    repeat (refine JE.ah ?_)
    refine JE.bI rfl (RV.tmp rfl) (RV.tmp rfl) ?_
    exact fun w' hw=>⟨rfl,hw.aS⟩
  rw [if_pos (by have:=of_decide_eq_true hk;omega)]
  have cT:=fun w'=>kn x w' (by omega)
  have htl:=eB x
  generalize trim x=t at cT htl ⊢
  have hidx : 0<t.length→∀ {n : Nat} {E : Env} {C : World→Prop} {dst : Option Tmp} {ty : TypeId} {pos : String} {aft : Array Edge} {g : Option (Nat × Bool)} {x y : Operand},ev E x=some (Z t)→ev E y=some (N (t.length - 1))→OQ Tryz.prog n E C ⟨dst,.index 9 x y,ty,pos,aft,g⟩ (U8 (t.getD (t.length - 1) 0)):=fun hp=>bY (s:=t) (i:=t.length - 1) (by omega)
  have hT : iZ t=if 0<t.length∧t.getD (t.length - 1) 0=62 then (if 60 ∈ t then dh (trim (wU t.dropLast)) else ([],3)) else dh t:=rfl
  generalize hc : t.getD (t.length - 1) 0=c at hidx hT
  cases h0 : decide ((0 : Int)<(t.length : Int)) <;> cases h62 : decide ((c.toNat : Int)=62)
  all_goals (try have hp : 0<t.length:=by (have:=of_decide_eq_true h0;omega))
  all_goals (try have hidx:=fun {n : Nat} {E : Env} {C : World→Prop} {dst : Option Tmp} {ty : TypeId} {pos : String} {aft : Array Edge} {g : Option (Nat × Bool)} {x y : Operand}=>hidx hp (n:=n) (E:=E) (C:=C) (dst:=dst) (ty:=ty) (pos:=pos) (aft:=aft) (g:=g) (x:=x) (y:=y))
  all_goals (repeat (first | refine JL.q (by first|(apply OQ.ak (vs:=[Z s]);exact jM;rfl;exact (fun w' _=>cB w'))|(apply OQ.extract;rfl;rfl)|(apply OQ.nG (b:=0);rfl;rfl;exact hk)|(apply OQ.move;rfl)|(apply OQ.assign;rfl)) rfl ?_ | refine JC.seq ?_ | refine JC.region ?_ | refine JL.nil ?_ | refine JE.next ?_))
  all_goals refine JC.cond rfl (fun h=>by cases h) (fun _=>?_)
  all_goals (repeat (first | refine JL.q (by first|(apply OQ.ak (vs:=[Z x]);exact ju;rfl;exact (fun w' _=>cT w'))|(apply OQ.bw;exact Tryz.underlying9;rfl)|(apply OQ.eW (b:=0);rfl;rfl;exact h0)|(apply hidx;rfl;rfl)|(apply OQ.gH (b:=62);rfl;rfl;exact h62)|(apply OQ.az;rfl;rfl)|(apply OQ.aB;rfl;rfl)|(apply OQ.move;rfl)|(apply OQ.assign;rfl)|(apply OQ.eP;rfl;rfl;exact (by (try simp only []);omega);exact (by (try simp only []);omega))) rfl ?_ | refine JC.seq ?_ | refine JC.region ?_ | refine JC.skip ?_ | refine JL.nil ?_ | refine JE.next ?_ | refine JL.aT rfl rfl ?_ | refine JL.aU rfl rfl rfl rfl ?_))
  all_goals (
    refine JC.join (ι:={u : List aA.By // iZ t=dh u∧u.length≤t.length}) (fun u=>[(0,Z u.1)]) (fun _=>[]) (fun _=>True) ?_ ?_
    · refine JC.cond rfl (fun h=>?_) (fun h=>?_)
      all_goals first|(exfalso;revert h;decide) | skip
      all_goals clear h
      all_goals first
        | (have hno : ¬ (0<t.length∧c=62):=by
             first
               | exact fun k=>(by have:=of_decide_eq_false h0;omega)
               | exact fun k=>fB 62 h62 k.2
           rw [if_neg hno] at hT
           (repeat (refine JC.skip ?_))
           exact JE.mid ⟨t,hT,Nat.le_refl _⟩ trivial (by repeat (first | exact af.nil | refine af.cons _ _ _ rfl ?_)) (av.refl _))
        | (rw [if_pos ⟨hp,kI 62 h62⟩] at hT
           (repeat (first | refine JL.q (by first|(apply OQ.bw;exact Tryz.underlying9;rfl)|(apply OQ.move;rfl)|(apply OQ.assign;rfl)|(apply OQ.eP;rfl;rfl;exact (by (try simp only []);omega);exact (by (try simp only []);omega))) rfl ?_ | refine JC.seq ?_ | refine JC.region ?_ | refine JC.block ?_ | refine JL.nil ?_ | refine JE.next ?_))
           refine JC.loop (fun a : Int=>[(0,Z t),(5,I a)]) (fun _=>[]) (fun a=>(a+1).toNat) (fun a=>-1≤a∧a<(t.length : Int)∧∀ j : Nat,a<(j : Int)→j<t.length→¬ t.getD j 0=60) ((t.length - 1 : Nat) : Int) ⟨by omega,by omega,fun j h1 h2=>by omega⟩ (by repeat (first | exact af.nil | refine af.cons _ _ _ rfl ?_)) (av.refl _) ?_
           rintro a ⟨ha1,ha2,hj⟩
           cases g0 : decide ((0 : Int)≤a)
           · obtain rfl : a=-1:=by have:=of_decide_eq_false g0;omega
             have hm : ¬ 60 ∈ t:=fun hm=>by
               obtain ⟨j,h1,h2⟩:=List.mem_iff_getElem.1 hm
               refine hj j (by omega) h1 ?_
               rw [List.getD_eq_getElem?_getD,List.getElem?_eq_getElem h1,h2];rfl
             rw [if_neg hm] at hT
             rw [hT]
             (repeat (first | refine JL.q (by first|(apply OQ.cJ (b:=0);rfl;rfl;exact g0)|(apply OQ.aB;rfl;rfl)|(apply OQ.move;rfl)) rfl ?_ | refine JC.seq ?_ | refine JC.region ?_ | refine JL.nil ?_ | refine JE.next ?_ | refine JL.aU rfl rfl rfl rfl ?_))
             refine JC.cond rfl (fun h=>by cases h) (fun _=>?_)
             (repeat (first | refine JL.q (by first|(apply OQ.cU (b:=0) (c:=true);rfl;rfl;rfl)|(apply OQ.move;rfl)) rfl ?_ | refine JC.seq ?_ | refine JC.region ?_ | refine JC.exit ?_ | refine JL.nil ?_ | refine JE.next ?_ | refine JE.ax ?_ | refine JE.aI ?_))
             refine JC.cond rfl (fun _=>?_) (fun h=>by cases h)
             (repeat (first | refine JL.q (by (apply OQ.assign;rfl)) rfl ?_ | refine JC.seq ?_ | refine JC.region ?_ | refine JL.nil ?_ | refine JE.next ?_))
             refine JC.ret ?_
             (repeat (refine JE.ah ?_))
             refine JE.bI rfl (RV.tmp rfl) (RV.tmp rfl) ?_
             exact fun w' hw=>⟨rfl,hw.aS⟩
           · obtain ⟨n,rfl⟩:=Int.eq_ofNat_of_zero_le (of_decide_eq_true g0)
             have hn : n<t.length:=by omega
             have hidxn:=fun {n : Nat} {E : Env} {C : World→Prop} {dst : Option Tmp} {ty : TypeId} {pos : String} {aft : Array Edge} {g : Option (Nat × Bool)} {x y : Operand}=>bY hn (n:=n) (E:=E) (C:=C) (dst:=dst) (ty:=ty) (pos:=pos) (aft:=aft) (g:=g) (x:=x) (y:=y)
             generalize hcn : t.getD n 0=e at hidxn
             cases g60 : decide ((e.toNat : Int)=60)
             · (repeat (first | refine JL.q (by first|(apply OQ.cJ (b:=0);rfl;rfl;exact g0)|(apply hidxn;rfl;rfl)|(apply OQ.nG (b:=60);rfl;rfl;exact g60)|(apply OQ.az;rfl;rfl)|(apply OQ.move;rfl)) rfl ?_ | refine JC.seq ?_ | refine JC.region ?_ | refine JL.nil ?_ | refine JE.next ?_ | refine JL.aT rfl rfl ?_))
               refine JC.cond rfl (fun _=>?_) (fun h=>by cases h)
               (repeat (first | refine JL.q (by first|(apply OQ.qa (b:=1);rfl;rfl;exact (by omega);exact (by omega))|(apply OQ.move;rfl)|(apply OQ.assign;rfl)) rfl ?_ | refine JC.region ?_ | refine JC.block ?_ | refine JC.skip ?_ | refine JL.nil ?_ | refine JE.next ?_ | refine JE.ai ?_))
               refine JE.again (i:=(n : Int)) ((n : Int) - 1) ⟨by omega,by omega,fun j h1 h2=>?_⟩ (by omega) (by repeat (first | exact af.nil | refine af.cons _ _ _ rfl ?_)) (av.refl _)
               by_cases hjn : j=n
               · subst hjn
                 rw [hcn]
                 exact fB 60 g60
               · exact hj j (by omega) h2
             · have he : e=60:=kI 60 g60
               have hn1 : n+1<t.length:=by
                 by_cases hh : n=t.length - 1
                 · subst hh
                   rw [hcn,he] at hc
                   rw [← hc] at h62
                   exact absurd h62 (by decide)
                 · omega
               have hm : 60 ∈ t:=by
                 rw [List.getD_eq_getElem?_getD,List.getElem?_eq_getElem hn] at hcn
                 exact List.mem_iff_getElem.2 ⟨n,hn,by rw [← he,← hcn];rfl⟩
               rw [if_pos hm,wN hn1 (hcn.trans he) (fun j h1 h2=>hj j (by omega) h2)] at hT
               have cT2:=fun w'=>kn ((t.take (t.length - 1)).drop (n+1)) w' (by rw [List.length_drop,List.length_take];omega)
               have hul:=eB ((t.take (t.length - 1)).drop (n+1))
               rw [List.length_drop,List.length_take] at hul
               have hneg : decide ((n : Int)<0)=false:=decide_eq_false (by omega)
               (repeat (first | refine JL.q (by first|(apply OQ.cJ (b:=0);rfl;rfl;exact g0)|(apply hidxn;rfl;rfl)|(apply OQ.nG (b:=60);rfl;rfl;exact g60)|(apply OQ.az;rfl;rfl)|(apply OQ.move;rfl)) rfl ?_ | refine JC.seq ?_ | refine JC.region ?_ | refine JL.nil ?_ | refine JE.next ?_ | refine JL.aT rfl rfl ?_))
               refine JC.cond rfl (fun h=>by cases h) (fun _=>?_)
               (repeat (first | refine JL.q (by first|(apply OQ.cU (b:=0);rfl;rfl;exact hneg)|(apply OQ.move;rfl)) rfl ?_ | refine JC.seq ?_ | refine JC.region ?_ | refine JC.exit ?_ | refine JL.nil ?_ | refine JE.next ?_ | refine JE.ax ?_ | refine JE.aI ?_))
               refine JC.cond rfl (fun h=>by cases h) (fun _=>?_)
               (repeat (first | refine JL.q (by first|(apply OQ.bw;exact Tryz.underlying9;rfl)|(apply OQ.wm (i:=n+1) (j:=t.length - 1);exact Tryz.underlying9;rfl;rfl;rfl;exact (by omega);exact (by omega))|(apply OQ.ak (vs:=[Z ((t.take (t.length - 1)).drop (n+1))]);exact ju;rfl;exact (fun w' _=>cT2 w'))|(apply OQ.move;rfl)|(apply OQ.assign;rfl)|(apply OQ.bh;rfl;rfl;exact (by (try simp only []);omega))|(apply OQ.eP;rfl;rfl;exact (by (try simp only []);omega);exact (by (try simp only []);omega))) rfl ?_ | refine JC.region ?_ | refine JC.skip ?_ | refine JL.nil ?_ | refine JE.next ?_))
               exact JE.mid ⟨_,hT,by omega⟩ trivial (by repeat (first | exact af.nil | refine af.cons _ _ _ rfl ?_)) (av.refl _))
    · rintro ⟨u,hu,hul⟩ _
      dsimp only
      rw [hu]
      have hul2 : u.length<1000000:=by omega
      clear hT hu hul
      (repeat (first | refine JL.q (by (apply OQ.assign;rfl)) rfl ?_ | refine JC.seq ?_ | refine JC.region ?_ | refine JC.block ?_ | refine JL.nil ?_ | refine JE.next ?_))
      refine JC.aG (ι:=Unit) (fun _=>[(0,Z u),(6,N (fst 64 u))]) (fun _=>[]) (fun _=>True) ?_ ?_
      · refine JC.loop (fun i : Nat=>[(0,Z u),(6,N i)]) (fun _=>[]) (fun i=>u.length - i) (fun i=>i≤u.length∧(u.take i).all (fun d=>!(d == 64))=true) 0 ⟨Nat.zero_le _,rfl⟩ (by repeat (first | exact af.nil | refine af.cons _ _ _ rfl ?_)) (av.refl _) ?_
        rintro i ⟨hi,ha⟩
        cases g0 : decide ((i : Int)<(u.length : Int))
        · obtain rfl : i=u.length:=by have:=of_decide_eq_false g0;omega
          rw [List.take_length] at ha
          rw [pH 64 u ha]
          (repeat (first | refine JL.q (by first|(apply OQ.bw;exact Tryz.underlying9;rfl)|(apply OQ.cU;rfl;rfl;exact g0)|(apply OQ.aB;rfl;rfl)|(apply OQ.move;rfl)) rfl ?_ | refine JC.seq ?_ | refine JC.region ?_ | refine JL.nil ?_ | refine JE.next ?_ | refine JL.aU rfl rfl rfl rfl ?_))
          refine JC.cond rfl (fun h=>by cases h) (fun h=>?_)
          (repeat (first | refine JC.exit ?_ | refine JE.ax ?_ | refine JE.aI ?_))
          exact JE.mid () trivial (by repeat (first | exact af.nil | refine af.cons _ _ _ rfl ?_)) (av.refl _)
        · have hi' : i<u.length:=by have:=of_decide_eq_true g0;omega
          have hf:=sU 64 u hi' ha
          have hx:=l9 (fun d=>!(d == (64 : aA.By))) u 0 hi'
          rw [ha,Bool.true_and] at hx
          have hidx:=fun {n : Nat} {E : Env} {C : World→Prop} {dst : Option Tmp} {ty : TypeId} {pos : String} {aft : Array Edge} {g : Option (Nat × Bool)} {x y : Operand}=>bY hi' (n:=n) (E:=E) (C:=C) (dst:=dst) (ty:=ty) (pos:=pos) (aft:=aft) (g:=g) (x:=x) (y:=y)
          generalize u.getD i 0=c at hidx hf hx
          rw [eqc] at hf
          rw [eqc] at hx
          cases h1 : decide ((c.toNat : Int)=64)
          · (repeat (first | refine JL.q (by first|(apply OQ.bw;exact Tryz.underlying9;rfl)|(apply OQ.cU;rfl;rfl;exact g0)|(apply hidx;rfl;rfl)|(apply OQ.nG (b:=64);rfl;rfl;exact h1)|(apply OQ.az;rfl;rfl)|(apply OQ.move;rfl)) rfl ?_ | refine JC.seq ?_ | refine JC.region ?_ | refine JL.nil ?_ | refine JE.next ?_ | refine JL.aT rfl rfl ?_))
            refine JC.cond rfl (fun h=>?_) (fun h=>by cases h)
            (repeat (first | refine JL.q (by first|(apply OQ.move;rfl)|(apply OQ.assign;rfl)|(apply OQ.bh;rfl;rfl;exact (by (try simp only []);omega))) rfl ?_ | refine JC.region ?_ | refine JC.block ?_ | refine JC.skip ?_ | refine JL.nil ?_ | refine JE.next ?_ | refine JE.ai ?_))
            exact JE.again (i:=i) (i+1) ⟨hi',by rw [hx];exact congrArg not h1⟩ (by omega) (by repeat (first | exact af.nil | refine af.cons _ _ _ rfl ?_)) (av.refl _)
          · rw [hf h1]
            (repeat (first | refine JL.q (by first|(apply OQ.bw;exact Tryz.underlying9;rfl)|(apply OQ.cU;rfl;rfl;exact g0)|(apply hidx;rfl;rfl)|(apply OQ.nG (b:=64);rfl;rfl;exact h1)|(apply OQ.az;rfl;rfl)|(apply OQ.move;rfl)) rfl ?_ | refine JC.seq ?_ | refine JC.region ?_ | refine JL.nil ?_ | refine JE.next ?_ | refine JL.aT rfl rfl ?_))
            refine JC.cond rfl (fun h=>by cases h) (fun h=>?_)
            (repeat (first | refine JC.exit ?_ | refine JE.ax ?_ | refine JE.aI ?_))
            exact JE.mid () trivial (by repeat (first | exact af.nil | refine af.cons _ _ _ rfl ?_)) (av.refl _)
      rintro ⟨⟩ _
      have hle:=wB 64 u
      have hS : dh u=if fst 64 u=u.length∨cK (u.take (fst 64 u))=false∨cK (u.drop (fst 64 u+1))=false then ([],3) else (u.take (fst 64 u+1)++(u.drop (fst 64 u+1)).map small,0):=rfl
      generalize fst 64 u=j at hle hS ⊢
      have c1:=fun w'=>iu (u.take j) w' (by rw [List.length_take];omega)
      have c2:=fun w'=>iu (u.drop (j+1)) w' (by rw [List.length_drop];omega)
      have c3:=fun w'=>oo (u.drop (j+1)) w' (by rw [List.length_drop];omega)
      have l3 : (u.take (j+1)).length+((u.drop (j+1)).map small).length<9223372036854775808:=by rw [List.length_take,List.length_map,List.length_drop];omega
      cases g0 : decide ((j : Int)=(u.length : Int))
      · have hk : j<u.length:=by have:=of_decide_eq_false g0;omega
        cases g1 : cK (u.take j) <;> cases g2 : cK (u.drop (j+1))
        all_goals (
          (repeat (first | refine JL.q (by first|(apply OQ.bw;exact Tryz.underlying9;rfl)|(apply OQ.gH;rfl;rfl;exact g0)|(apply OQ.cw;exact Tryz.underlying9;rfl;rfl;exact hle)|(apply OQ.bH (i:=j+1);exact Tryz.underlying9;rfl;rfl;exact hk)|(apply OQ.o4 (vs:=[Z (u.take j)]);exact gB;rfl;exact c1;exact g1)|(apply OQ.o4 (vs:=[Z (u.drop (j+1))]);exact gB;rfl;exact c2;exact g2)|(apply OQ.not;rfl)|(apply OQ.az;rfl;rfl)|(apply OQ.aB;rfl;rfl)|(apply OQ.move;rfl)|(apply OQ.bh;rfl;rfl;exact (by (try simp only []);omega))) rfl ?_ | refine JC.seq ?_ | refine JC.region ?_ | refine JL.nil ?_ | refine JE.next ?_ | refine JL.aT rfl rfl ?_ | refine JL.aU rfl rfl rfl rfl ?_))
          refine JC.cond rfl (fun h=>?_) (fun h=>?_)
          all_goals first|(exfalso;revert h;decide) | skip
          all_goals clear h
          all_goals first
            | (have e : dh u=([],3):=by
                 rw [hS,if_pos]
                 first
                   | exact Or.inr (Or.inl g1)
                   | exact Or.inr (Or.inr g2)
               rw [e]
               (repeat (first | refine JL.q (by (apply OQ.assign;rfl)) rfl ?_ | refine JC.seq ?_ | refine JC.region ?_ | refine JL.nil ?_ | refine JE.next ?_))
               refine JC.ret ?_
               (repeat (refine JE.ah ?_))
               refine JE.bI rfl (RV.tmp rfl) (RV.tmp rfl) ?_
               exact fun w' hw=>⟨rfl,hw.aS⟩)
            | (have e : dh u=(u.take (j+1)++(u.drop (j+1)).map small,0):=by
                 rw [hS,if_neg]
                 rintro (h | h | h)
                 · omega
                 · rw [g1] at h;cases h
                 · rw [g2] at h;cases h
               rw [e]
               (repeat (first | refine JC.seq ?_ | refine JC.skip ?_ | refine JE.next ?_))
               refine JC.quiet ei (by kernel_rfl) ?_
               (repeat (first | refine JQ.q (by first|(apply OQ.cw (j:=j+1);exact Tryz.underlying9;rfl;rfl;exact hk)|(apply OQ.bH (i:=j+1);exact Tryz.underlying9;rfl;rfl;exact hk)|(apply OQ.ak (vs:=[Z (u.drop (j+1))]);exact mG;rfl;exact (fun w' _=>c3 w'))|(apply OQ.kN;rfl;rfl;exact l3)|(apply OQ.move;rfl)|(apply OQ.assign;rfl)|(apply OQ.bh;rfl;rfl;exact (by (try simp only []);omega))) rfl ?_ | refine JQ.nil ?_ | refine JE.next ?_))
               refine JC.ret ?_
               (skip)
               refine JE.bI rfl (RV.tmp rfl) (RV.tmp rfl) ?_
               exact fun w' hw=>⟨rfl,hw.aS⟩))
      · rw [if_pos (Or.inl (by have:=of_decide_eq_true g0;omega))] at hS
        rw [hS]
        (repeat (first | refine JL.q (by first|(apply OQ.bw;exact Tryz.underlying9;rfl)|(apply OQ.gH;rfl;rfl;exact g0)|(apply OQ.az;rfl;rfl)|(apply OQ.move;rfl)) rfl ?_ | refine JC.seq ?_ | refine JC.region ?_ | refine JL.nil ?_ | refine JE.next ?_ | refine JL.aU rfl rfl rfl rfl ?_))
        refine JC.cond rfl (fun _=>?_) (fun h=>by cases h)
        (repeat (first | refine JL.q (by (apply OQ.assign;rfl)) rfl ?_ | refine JC.seq ?_ | refine JC.region ?_ | refine JL.nil ?_ | refine JE.next ?_))
        refine JC.ret ?_
        (repeat (refine JE.ah ?_))
        refine JE.bI rfl (RV.tmp rfl) (RV.tmp rfl) ?_
        exact fun w' hw=>⟨rfl,hw.aS⟩)
end
section
set_option maxRecDepth 10000
open Sl
namespace dx
structure Tw where
  st : Nat
  fr : List Bt
  qt : Acc
  to : List (List Bt)
  out : List Bt
  qm : Acc
  zs : List Mz
  cl : Bool
structure Tw.ok (z : Tw) : Prop where
  t : z.qt=none→z.to=[]
  m : z.qm=none→z.zs=[]
def Tw.cs (z : Tw) : List Value:=[N z.st,Z z.fr,ag z.qt z.to.length,Z z.out,ag z.qm z.zs.length,.bool z.cl]
def Tw.T (z : Tw) : List aF:=ay 9 z.qt (z.to.map Z)
def Tw.M (z : Tw) : List aF:=cg 38 3 z.qm (z.zs.map Mz.cs)++z.zs.flatMap Mz.E
def Tw.E (b : Nat) (z : Tw) : List aF:=⟨b,Row 33 z.cs,true⟩::(z.T++z.M)
theorem Tw.wr (b : Nat) (z : Tw) : ∀ e ∈ z.E b,e.wr=true:=by
  intro e he
  rcases List.mem_cons.1 he with rfl | he
  · rfl
  rcases List.mem_append.1 he with h | he
  · exact b8 _ _ _ e h
  rcases List.mem_append.1 he with h | he
  · exact iG _ _ _ _ e h
  · exact od _ e he
structure Tw.is (z : Tw) (S : Po) (O : List Bt) : Prop where
  out : z.out=O
  ms : z.zs.map Mz.m=S.ms
  cl : z.cl=decide (S.st=5)
  op : S.st≠5→z.st=(if S.st=4 then 3 else S.st)∧z.fr=S.fr∧z.to=S.to
theorem wO : e6 Tryz.prog 4=some 1:=by kernel_rfl
theorem oM : eu Tryz.prog 4=true:=by kernel_rfl
section
variable {n : Nat} {w0 : World} {S : List Nat} {ops : Array Oper} {Q : Exit→Act→World→Prop} {l : List Oper} {E : Env} {M : List aF} {pos : String} {aft : Array Edge} {ty : TypeId} {x y : Operand} {b : Nat} {z : Tw} {rest : List aF}
theorem JL.yg (k : Nat) (hx : ev E x=some (Pt b 0)) (hy : ev E y=some (N k)) (hk : JL Tryz.prog n w0 S ops Q l E (⟨b,Row 33 (Tw.cs { z with st:=k }),true⟩::rest)) : JL Tryz.prog n w0 S ops Q (⟨none,.store 3 x y,ty,pos,aft,none⟩::l) E (⟨b,Row 33 z.cs,true⟩::rest):=
  JL.bJ (b:=b) (r:=z.cs) sr hx hy rfl rfl .here (show 0<6 by decide) rfl hk
theorem JL.yy (s : List Bt) (hx : ev E x=some (Pt b 1)) (hy : ev E y=some (Z s)) (hk : JL Tryz.prog n w0 S ops Q l E (⟨b,Row 33 (Tw.cs { z with fr:=s }),true⟩::rest)) : JL Tryz.prog n w0 S ops Q (⟨none,.store 9 x y,ty,pos,aft,none⟩::l) E (⟨b,Row 33 z.cs,true⟩::rest):=
  JL.bJ (b:=b) (r:=z.cs) mg hx hy rfl rfl .here (show 1<6 by decide) rfl hk
theorem JL.yz (q : Acc) (to : List (List Bt)) (hx : ev E x=some (Pt b 2)) (hy : ev E y=some (ag q to.length)) (hk : JL Tryz.prog n w0 S ops Q l E (⟨b,Row 33 (Tw.cs { z with qt:=q,to:=to }),true⟩::rest)) : JL Tryz.prog n w0 S ops Q (⟨none,.store 30 x y,ty,pos,aft,none⟩::l) E (⟨b,Row 33 z.cs,true⟩::rest):=
  JL.bJ (b:=b) (r:=z.cs) su hx hy (dN _ _) (dz _ _) .here (show 2<6 by decide) rfl hk
theorem JL.yh (s : List Bt) (hx : ev E x=some (Pt b 3)) (hy : ev E y=some (Z s)) (hk : JL Tryz.prog n w0 S ops Q l E (⟨b,Row 33 (Tw.cs { z with out:=s }),true⟩::rest)) : JL Tryz.prog n w0 S ops Q (⟨none,.store 9 x y,ty,pos,aft,none⟩::l) E (⟨b,Row 33 z.cs,true⟩::rest):=
  JL.bJ (b:=b) (r:=z.cs) mg hx hy rfl rfl .here (show 3<6 by decide) rfl hk
theorem JL.yO (c : Bool) (hx : ev E x=some (Pt b 5)) (hy : ev E y=some (.bool c)) (hk : JL Tryz.prog n w0 S ops Q l E (⟨b,Row 33 (Tw.cs { z with cl:=c }),true⟩::rest)) : JL Tryz.prog n w0 S ops Q (⟨none,.store 4 x y,ty,pos,aft,none⟩::l) E (⟨b,Row 33 z.cs,true⟩::rest):=
  JL.bJ (b:=b) (r:=z.cs) wO hx hy rfl rfl .here (show 5<6 by decide) rfl hk
end
theorem uo : aK Tryz.prog 31:=⟨_,Tryz.func31,rfl,by kernel_rfl⟩
theorem rG : aK Tryz.prog 28:=⟨_,Tryz.func28,rfl,by kernel_rfl⟩
theorem aP : aK Tryz.prog 67:=⟨_,Tryz.func67,rfl,by kernel_rfl⟩
theorem b7 : aK Tryz.prog 42:=⟨_,Tryz.func42,rfl,by kernel_rfl⟩
theorem lO : aK Tryz.prog 78:=⟨_,Tryz.func78,rfl,by kernel_rfl⟩
theorem kJ : aK Tryz.prog 27:=⟨_,Tryz.func27,rfl,by kernel_rfl⟩
theorem vm (b : Nat) (z : Tw) (s : List Bt) (hl : z.out.length+s.length<1000000000) (w : World) (h0 : aa w [b] [⟨b,Row 33 z.cs,true⟩] w) : Calls Tryz.prog 31 [Pt b 0,Z s].toArray w fun e w'=>e=.returned (.tuple #[])∧aa w [b] [⟨b,Row 33 (Tw.cs { z with out:=z.out++(s++[13,10]) }),true⟩] w':=by
  refine enter (n:=13) Tryz.func31 rfl rfl rfl h0 ?_
  repeat (first | refine JL.q (by first|(apply OQ.load;exact fy;rfl;exact .here;exact (Row.cell (v:=Z z.out) rfl))|(apply OQ.kN (l:=s) (r:=[13,10]);rfl;rfl;exact (by show s.length+2<_;omega))|(apply OQ.kN (l:=z.out) (r:=s++[13,10]);rfl;rfl;exact (by rw [List.length_append];show _+(_+2)<_;omega))|(apply OQ.move;rfl)|(apply OQ.aJ;rfl)|(apply OQ.bA;rfl;rfl;rfl;exact (by decide);rfl)) rfl ?_ | refine JC.region ?_)
  refine JL.yh (z.out++(s++[13,10])) rfl rfl ?_
  repeat (refine JL.nil ?_)
  exact JE.uA rfl fun w' hw=>⟨rfl,hw⟩
theorem JL.nH {n : Nat} {w0 : World} {S : List Nat} {ops : Array Oper} {Q : Exit→Act→World→Prop} {l : List Oper} {E : Env} {d : Nat} {ty : TypeId} {pos : String} {aft : Array Edge} {x y : Operand} {ats : Array TypeId} {b : Nat} {z : Tw} {M0 : List aF} (s : List Bt)
    (hl : z.out.length+s.length<1000000000) (hx : ev E x=some (Pt b 0)) (hy : ev E y=some (Z s)) (hd : Nat.blt d n=true) (kk : JL Tryz.prog n w0 S ops Q l ((d,.tuple #[])::E) (⟨b,Row 33 (Tw.cs { z with out:=z.out++(s++[13,10]) }),true⟩::M0)) : JL Tryz.prog n w0 S ops Q (⟨some d,.call ⟨.value (.func 31),#[x,y],ats⟩,ty,pos,aft,none⟩::l) E (⟨b,Row 33 z.cs,true⟩::M0):=
  JL.fQ (X:=[⟨b,Row 33 z.cs,true⟩]) (M0:=M0) (xs:=[x,y]) (ι:=Unit) (vs:=[Pt b 0,Z s]) (fun _=>.tuple #[]) (fun _=>[⟨b,Row 33 (Tw.cs { z with out:=z.out++(s++[13,10]) }),true⟩]) uo (by simp [eO,hx,hy]) hd (fun e he=>by rw [List.mem_singleton.1 he]) (fun _ e he=>by rw [List.mem_singleton.1 he]) (fun w' _ hx=>(vm b z s hl w' hx).mono fun e w2 ⟨h1,h2⟩=>⟨(),h1,h2⟩) fun _=>kk
def Tw.bL (z : Tw) (k b2 : Nat) : Tw:={ z with st:=k,fr:=[],qt:=some (b2,0),to:=[] }
theorem uq (b : Nat) (z : Tw) (k : Nat) (w : World) (h0 : aa w [b] [⟨b,Row 33 z.cs,true⟩] w) : Calls Tryz.prog 28 [Pt b 0,N k].toArray w fun e w'=>∃ b2 : Nat,e=.returned (.tuple #[])∧aa w [b] [⟨b,Row 33 (z.bL k b2).cs,true⟩,⟨b2,Sl.aO 9 1 0 0 [],true⟩] w':=by
  refine enter (n:=15) Tryz.func28 rfl rfl rfl h0 ?_
  repeat (first | refine JL.q (by first|(apply OQ.move;rfl)|(apply OQ.aJ;rfl)|(apply OQ.bA;rfl;rfl;rfl;exact (by decide);rfl)) rfl ?_ | refine JC.seq ?_ | refine JC.region ?_)
  refine JL.yg k rfl rfl ?_
  repeat (first | refine JL.q (by first|(apply OQ.move;rfl)|(apply OQ.aJ;rfl)|(apply OQ.bA;rfl;rfl;rfl;exact (by decide);rfl)) rfl ?_ | refine JC.seq ?_ | refine JC.region ?_ | refine JL.nil ?_ | refine JE.next ?_)
  refine JL.yy [] rfl rfl ?_
  repeat (first | refine JL.q (by (apply OQ.move;rfl)) rfl ?_ | refine JC.region ?_ | refine JL.nil ?_ | refine JE.next ?_)
  refine JL.qe Tryz.underlying30 kQ rfl fun b2 _=>?_
  refine JL.perm (M':=⟨b,Row 33 (Tw.cs { z with st:=k,fr:=[] }),true⟩::[⟨b2,Sl.aO 9 1 0 0 [],true⟩]) ?_ (.swap _ _ _)
  repeat (refine JL.q (by first|(apply OQ.aJ;rfl)|(apply OQ.bA;rfl;rfl;rfl;exact (by decide);rfl)) rfl ?_)
  refine JL.yz (z:={ z with st:=k,fr:=[] }) (some (b2,0)) [] rfl rfl ?_
  repeat (refine JL.nil ?_)
  exact JE.uA rfl fun w' hw=>⟨b2,rfl,hw⟩
theorem JL.pX {n : Nat} {w0 : World} {S : List Nat} {ops : Array Oper} {Q : Exit→Act→World→Prop} {l : List Oper} {E : Env} {d : Nat} {ty : TypeId} {pos : String} {aft : Array Edge} {x y : Operand} {ats : Array TypeId} {b : Nat} {z : Tw} {M0 : List aF} (k : Nat)
    (hx : ev E x=some (Pt b 0)) (hy : ev E y=some (N k)) (hd : Nat.blt d n=true) (kk : ∀ b2,JL Tryz.prog n w0 S ops Q l ((d,.tuple #[])::E) (⟨b,Row 33 (z.bL k b2).cs,true⟩::(⟨b2,Sl.aO 9 1 0 0 [],true⟩::M0))) : JL Tryz.prog n w0 S ops Q (⟨some d,.call ⟨.value (.func 28),#[x,y],ats⟩,ty,pos,aft,none⟩::l) E (⟨b,Row 33 z.cs,true⟩::M0):=
  JL.fQ (X:=[⟨b,Row 33 z.cs,true⟩]) (M0:=M0) (xs:=[x,y]) (ι:=Nat) (vs:=[Pt b 0,N k]) (fun _=>.tuple #[]) (fun b2=>[⟨b,Row 33 (z.bL k b2).cs,true⟩,⟨b2,Sl.aO 9 1 0 0 [],true⟩]) rG (by simp [eO,hx,hy]) hd (fun e he=>by rw [List.mem_singleton.1 he]) (fun b2 e he=>by
    rcases List.mem_cons.1 he with rfl | he
    · rfl
    · rw [List.mem_singleton.1 he]) (fun w' _ hx=>(uq b z k w' hx).mono fun e w2 ⟨b2,h1,h2⟩=>⟨b2,h1,h2⟩) fun b2=>kk b2
set_option maxHeartbeats 4000000 in
theorem cy (l v : List Bt) (hv : fS v) (hl : l.length<1000000000) (w : World) : Calls Tryz.prog 67 [Z l,Z v].toArray w fun e w'=>e=.returned (.bool (au v l))∧Ext w w':=by
  rw [iC hv]
  refine enter (n:=19) Tryz.func67 rfl rfl rfl (aa.start w []) ?_
  cases hge : decide ((v.length : Int)≤(l.length : Int)) with
  | false=>
    rw [decide_eq_false (by have:=of_decide_eq_false hge;omega : ¬ v.length≤l.length),Bool.false_and]
    repeat (first | refine JL.q (by first|(apply OQ.bw;exact Tryz.underlying9;rfl)|(apply OQ.cJ;rfl;rfl;exact hge)|(apply OQ.aB;rfl;rfl)|(apply OQ.move;rfl)|(apply OQ.assign;rfl)) rfl ?_ | refine JC.seq ?_ | refine JC.region ?_ | refine JL.nil ?_ | refine JE.next ?_ | refine JL.aU rfl rfl rfl rfl ?_)
    refine JC.ret ?_
    skip
    exact JE.aE rfl (RV.tmp rfl) fun w' hw=>⟨rfl,hw.aS⟩
  | true=>
    have hge' : v.length≤l.length:=by have:=of_decide_eq_true hge;omega
    rw [decide_eq_true hge',Bool.true_and]
    have cB:=fun w'=>ny (l.take v.length) w' (by rw [List.length_take];omega)
    cases heq : decide ((l.take v.length).map dZ=v)
    all_goals (repeat (first | refine JL.q (by first|(apply OQ.bw;exact Tryz.underlying9;rfl)|(apply OQ.cJ;rfl;rfl;exact hge)|(apply OQ.az;rfl;rfl)|(apply OQ.cw (j:=v.length);exact Tryz.underlying9;rfl;rfl;exact hge')|(apply OQ.ak (vs:=[Z (l.take v.length)]);exact kJ;rfl;exact (fun w' _=>cB w'))|(apply OQ.en;rfl;rfl;exact heq)|(apply OQ.move;rfl)|(apply OQ.assign;rfl)) rfl ?_ | refine JC.seq ?_ | refine JC.region ?_ | refine JL.nil ?_ | refine JE.next ?_ | refine JL.aT rfl rfl ?_))
    all_goals refine JC.ret ?_
    all_goals (skip)
    all_goals exact JE.aE rfl (RV.tmp rfl) fun w' hw=>⟨rfl,hw.aS⟩
def ia (s : List Bt) : List Bt × Bool:=if s.length<2∨¬ s.getD 0 0=60∨¬ s.getD (s.length - 1) 0=62 then ([],false) else ((Tok.b6 ((s.take (s.length - 1)).drop 1)).1,decide ((Tok.b6 ((s.take (s.length - 1)).drop 1)).2=0) && decide ((Tok.b6 ((s.take (s.length - 1)).drop 1)).1=(s.take (s.length - 1)).drop 1))
theorem pY (s : List Bt) : match dH s with
    | none=>(ia s).2=false
    | some a=>ia s=(a,true):=by
  have hin : (s.take (s.length - 1)).drop 1=s.tail.dropLast:=by
    rw [List.dropLast_eq_take,List.length_tail,← List.drop_one,List.drop_take]
  by_cases h : s.length<2∨¬ s.getD 0 0=60∨¬ s.getD (s.length - 1) 0=62
  · have h1 : ia s=([],false):=if_pos h
    have h2 : dH s=none:=by
      unfold dH
      rw [if_neg]
      rintro ⟨g1,g2,_⟩
      match s,g1,g2,h with
      | [],g1,_,_=>cases g1
      | [_],_,g2,_=>cases g2
      | a::c::r,g1,g2,h=>
        rcases h with h | h | h
        · simp only [List.length_cons] at h;omega
        · exact h (by simpa using g1)
        · refine h ?_
          have : (c::r).getLast?=some 62:=g2
          rw [List.getLast?_eq_getElem?] at this
          have e : (a::c::r).length - 1=(c::r).length - 1+1:=by simp
          rw [e,List.getD_cons_succ,List.getD_eq_getElem?_getD,this]
          rfl
    rw [h2,h1]
  · have h1 : ia s=((Tok.b6 ((s.take (s.length - 1)).drop 1)).1,decide ((Tok.b6 ((s.take (s.length - 1)).drop 1)).2=0) && decide ((Tok.b6 ((s.take (s.length - 1)).drop 1)).1=(s.take (s.length - 1)).drop 1)):=if_neg h
    have hl : ¬ s.length<2:=fun e=>h (.inl e)
    have h60 : s.getD 0 0=60:=Decidable.byContradiction fun e=>h (.inr (.inl e))
    have h62 : s.getD (s.length - 1) 0=62:=Decidable.byContradiction fun e=>h (.inr (.inr e))
    have g1 : s.head?=some 60:=by
      rw [List.head?_eq_getElem?]
      rw [List.getD_eq_getElem?_getD,List.getElem?_eq_getElem (by omega)] at h60
      rw [List.getElem?_eq_getElem (by omega)]
      exact congrArg some h60
    have g2 : s.tail.getLast?=some 62:=by
      match s,hl,h62 with
      | [],hl,_=>simp at hl
      | [_],hl,_=>simp at hl
      | a::c::r,_,h62=>
        show (c::r).getLast?=some 62
        have e : (a::c::r).length - 1=(c::r).length - 1+1:=by simp
        rw [e,List.getD_cons_succ,List.getD_eq_getElem?_getD,List.getElem?_eq_getElem (by simp)] at h62
        rw [List.getLast?_eq_getElem?,List.getElem?_eq_getElem (by simp)]
        exact congrArg some h62
    rw [hin] at h1
    have h3 : (decide ((Tok.b6 s.tail.dropLast).2=0) && decide ((Tok.b6 s.tail.dropLast).1=s.tail.dropLast))=ig s.tail.dropLast:=rfl
    rw [h3] at h1
    unfold dH
    cases ha : ig s.tail.dropLast with
    | false=>
      rw [if_neg (by simp)]
      rw [h1,ha]
    | true=>
      rw [if_pos ⟨g1,g2,rfl⟩]
      unfold ig at ha
      rw [Bool.and_eq_true,decide_eq_true_iff,decide_eq_true_iff] at ha
      show ia s=(s.tail.dropLast,true)
      rw [h1,ha.2]
      unfold ig
      rw [ha.1,ha.2]
      simp
end dx
end
section
set_option maxRecDepth 10000
open Sl
namespace dx
set_option maxHeartbeats 4000000 in
theorem jN (s : List Bt) (hl : s.length<1000000) (w : World) : Calls Tryz.prog 42 [Z s].toArray w fun e w'=>e=.returned (.tuple #[Z (ia s).1,.bool (ia s).2])∧Ext w w':=by
  refine enter (n:=43) Tryz.func42 rfl rfl rfl (aa.start w []) ?_
  cases h2 : decide ((s.length : Int)<2) with
  | true=>
    have h2' : s.length<2:=by have:=of_decide_eq_true h2;omega
    rw [show ia s=([],false) from if_pos (.inl h2')]
    repeat (first | refine JL.q (by first|(apply OQ.bw;exact Tryz.underlying9;rfl)|(apply OQ.cU (b:=2);rfl;rfl;exact h2)|(apply OQ.az;rfl;rfl)|(apply OQ.move;rfl)|(apply OQ.assign;rfl)) rfl ?_ | refine JC.seq ?_ | refine JC.region ?_ | refine JL.nil ?_ | refine JE.next ?_ | refine JL.aU rfl rfl rfl rfl ?_)
    refine JC.cond_true rfl rfl ?_
    repeat (first | refine JL.q (by (apply OQ.assign;rfl)) rfl ?_ | refine JC.seq ?_ | refine JC.region ?_ | refine JL.nil ?_ | refine JE.next ?_)
    refine JC.ret ?_
    repeat (refine JE.ah ?_)
    exact JE.bI rfl (RV.tmp rfl) (RV.tmp rfl) fun w' hw=>⟨rfl,hw.aS⟩
  | false=>
    have h2' : ¬ s.length<2:=by have:=of_decide_eq_false h2;omega
    cases h60 : decide (s.getD 0 0=60) with
    | false=>
      rw [show ia s=([],false) from if_pos (.inr (.inl (of_decide_eq_false h60)))]
      repeat (first | refine JL.q (by first|(apply OQ.bw;exact Tryz.underlying9;rfl)|(apply OQ.cU (b:=2);rfl;rfl;exact h2)|(apply OQ.jR (i:=0);exact Tryz.underlying9;rfl;rfl;exact (by omega))|(apply OQ.nV (b:=60);rfl;rfl;exact h60)|(apply OQ.az;rfl;rfl)|(apply OQ.aB;rfl;rfl)|(apply OQ.move;rfl)|(apply OQ.assign;rfl)) rfl ?_ | refine JC.seq ?_ | refine JC.region ?_ | refine JL.nil ?_ | refine JE.next ?_ | refine JL.aT rfl rfl ?_ | refine JL.aU rfl rfl rfl rfl ?_)
      refine JC.cond_true rfl rfl ?_
      repeat (first | refine JL.q (by (apply OQ.assign;rfl)) rfl ?_ | refine JC.seq ?_ | refine JC.region ?_ | refine JL.nil ?_ | refine JE.next ?_)
      refine JC.ret ?_
      repeat (refine JE.ah ?_)
      exact JE.bI rfl (RV.tmp rfl) (RV.tmp rfl) fun w' hw=>⟨rfl,hw.aS⟩
    | true=>
      cases h62 : decide (s.getD (s.length - 1) 0=62) with
      | false=>
        rw [show ia s=([],false) from if_pos (.inr (.inr (of_decide_eq_false h62)))]
        repeat (first | refine JL.q (by first|(apply OQ.bw;exact Tryz.underlying9;rfl)|(apply OQ.cU (b:=2);rfl;rfl;exact h2)|(apply OQ.jR (i:=0);exact Tryz.underlying9;rfl;rfl;exact (by omega))|(apply OQ.nV (b:=60);rfl;rfl;exact h60)|(apply OQ.eP (a:=s.length) (b:=1);rfl;rfl;exact (by omega);exact (by omega))|(apply OQ.jR (i:=s.length - 1);exact Tryz.underlying9;rfl;rfl;exact (by omega))|(apply OQ.nV (b:=62);rfl;rfl;exact h62)|(apply OQ.aB;rfl;rfl)|(apply OQ.move;rfl)|(apply OQ.assign;rfl)) rfl ?_ | refine JC.seq ?_ | refine JC.region ?_ | refine JL.nil ?_ | refine JE.next ?_ | refine JL.aT rfl rfl ?_)
        refine JC.cond_true rfl rfl ?_
        repeat (first | refine JL.q (by (apply OQ.assign;rfl)) rfl ?_ | refine JC.seq ?_ | refine JC.region ?_ | refine JL.nil ?_ | refine JE.next ?_)
        refine JC.ret ?_
        repeat (refine JE.ah ?_)
        exact JE.bI rfl (RV.tmp rfl) (RV.tmp rfl) fun w' hw=>⟨rfl,hw.aS⟩
      | true=>
        have hno : ¬ (s.length<2∨¬ s.getD 0 0=60∨¬ s.getD (s.length - 1) 0=62):=by
          rintro (h | h | h)
          · exact h2' h
          · exact h (of_decide_eq_true h60)
          · exact h (of_decide_eq_true h62)
        rw [show ia s=((Tok.b6 ((s.take (s.length - 1)).drop 1)).1,decide ((Tok.b6 ((s.take (s.length - 1)).drop 1)).2=0) && decide ((Tok.b6 ((s.take (s.length - 1)).drop 1)).1=(s.take (s.length - 1)).drop 1)) from if_neg hno]
        repeat (first | refine JL.q (by first|(apply OQ.bw;exact Tryz.underlying9;rfl)|(apply OQ.cU (b:=2);rfl;rfl;exact h2)|(apply OQ.jR (i:=0);exact Tryz.underlying9;rfl;rfl;exact (by omega))|(apply OQ.nV (b:=60);rfl;rfl;exact h60)|(apply OQ.eP (a:=s.length) (b:=1);rfl;rfl;exact (by omega);exact (by omega))|(apply OQ.jR (i:=s.length - 1);exact Tryz.underlying9;rfl;rfl;exact (by omega))|(apply OQ.nV (b:=62);rfl;rfl;exact h62)|(apply OQ.aB;rfl;rfl)|(apply OQ.move;rfl)|(apply OQ.assign;rfl)) rfl ?_ | refine JC.seq ?_ | refine JC.region ?_ | refine JL.nil ?_ | refine JE.next ?_ | refine JL.aT rfl rfl ?_)
        refine JC.cond_false rfl rfl ?_
        have cA:=fun w'=>rF ((s.take (s.length - 1)).drop 1) w' (by rw [List.length_drop,List.length_take];omega)
        generalize hX : (s.take (s.length - 1)).drop 1=x at cA ⊢
        generalize (Tok.b6 x).1=a at cA ⊢
        generalize (Tok.b6 x).2=k at cA ⊢
        repeat (first | refine JL.q (by first|(apply OQ.bw;exact Tryz.underlying9;rfl)|(apply OQ.eP (a:=s.length) (b:=1);rfl;rfl;exact (by omega);exact (by omega))|(apply OQ.to;exact (OQ.wm (i:=1) (j:=s.length - 1) Tryz.underlying9 rfl rfl rfl (by omega) (by omega));exact (congrArg Z hX))|(apply OQ.ak (vs:=[Z x]);exact lO;rfl;exact (fun w' _=>cA w'))|(apply OQ.extract;rfl;rfl)|(apply OQ.move;rfl)|(apply OQ.assign;rfl)) rfl ?_ | refine JC.seq ?_ | refine JC.region ?_ | refine JC.skip ?_ | refine JL.nil ?_ | refine JE.next ?_)
        cases hk : decide (k=0) with
        | false=>
          refine JC.quiet ei (by kernel_rfl) ?_
          repeat (first | refine JQ.q (by first|(apply OQ.eX (b:=0);rfl;rfl;exact hk)|(apply OQ.aB;rfl;rfl)|(apply OQ.move;rfl)|(apply OQ.assign;rfl)) rfl ?_ | refine JQ.nil ?_ | refine JE.next ?_ | refine JQ.aU rfl rfl rfl rfl ?_)
          refine JC.ret ?_
          skip
          exact JE.bI rfl (RV.tmp rfl) (RV.tmp rfl) fun w' hw=>⟨rfl,hw.aS⟩
        | true=>
          cases hx2 : decide (a=x)
          all_goals refine JC.quiet ei (by kernel_rfl) ?_
          all_goals (repeat (first | refine JQ.q (by first|(apply OQ.eX (b:=0);rfl;rfl;exact hk)|(apply OQ.bw;exact Tryz.underlying9;rfl)|(apply OQ.eP (a:=s.length) (b:=1);rfl;rfl;exact (by omega);exact (by omega))|(apply OQ.to;exact (OQ.wm (i:=1) (j:=s.length - 1) Tryz.underlying9 rfl rfl rfl (by omega) (by omega));exact (congrArg Z hX))|(apply OQ.en (r:=x);rfl;rfl;exact hx2)|(apply OQ.az;rfl;rfl)|(apply OQ.move;rfl)|(apply OQ.assign;rfl)) rfl ?_ | refine JQ.nil ?_ | refine JE.next ?_ | refine JQ.aT rfl rfl ?_))
          all_goals refine JC.ret ?_
          all_goals (skip)
          all_goals exact JE.bI rfl (RV.tmp rfl) (RV.tmp rfl) fun w' hw=>⟨rfl,hw.aS⟩
theorem oN : aK Tryz.prog 29:=⟨_,Tryz.func29,rfl,by kernel_rfl⟩
def vU (S0 : List Nat) (b : Nat) (r : Po × List Bt) (O : List Bt) (w : World) : Ending→World→Prop:=fun e w'=>∃ z : Tw,(z.ok∧z.is r.1 (O++(r.2++[13,10])))∧e=.returned (.bool (decide (r.1.st=4)))∧aa w S0 (z.E b) w'
set_option maxHeartbeats 32000000 in
theorem nB (b : Nat) (z : Tw) (S : Po) (O : List Bt) (ok : z.ok) (hs : z.is S O) (h3 : S.st≤3) (h10 : S.to.length≤10) (hcold : S.st=0→S.fr=[]∧S.to=[]) (l : List Bt) (hl : l.length<1000000) (hO : O.length<100000000) (w : World) (h0 : aa w (keys (z.E b)) (z.E b) w) : Calls Tryz.prog 29 [Pt b 0,Z l].toArray w (vU (keys (z.E b)) b (aX S l) O w):=by
  rw [← uk]
  generalize hS : keys (z.E b)=S0 at h0 ⊢
  have ho : z.out.length<100000000:=by rw [hs.out];exact hO
  have h5n : S.st≠5:=by omega
  have h4n : S.st≠4:=by omega
  obtain ⟨hst0,hfr,hto⟩:=hs.op h5n
  have hst : z.st=S.st:=by rw [hst0,if_neg h4n]
  have c5 : decide (S.st=5)=false:=decide_eq_false h5n
  have c4 : decide (S.st=4)=false:=decide_eq_false h4n
  have same : ∀ y : List Bt,Tw.is { z with out:=z.out++(y++[13,10]) } S (O++(y++[13,10])):=fun y=>⟨congrArg (·++_) hs.out,hs.ms,hs.cl,hs.op⟩
  have ok1 : ∀ y : List Bt,Tw.ok { z with out:=z.out++(y++[13,10]) }:=fun y=>⟨ok.t,ok.m⟩
  have cM:=fun w'=>cy l bU xN (by omega) w'
  have cR:=fun w'=>cy l cm xO (by omega) w'
  have cHb:=fun w'=>cy l rD yN (by omega) w'
  have cH:=fun w'=>cy l bT xM (by omega) w'
  have cQ:=fun w'=>cy l cr vT (by omega) w'
  have cT:=fun w'=>cy l cq vS (by omega) w'
  have cD:=fun w'=>cy l bP vR (by omega) w'
  have cB:=fun w'=>ny l w' (by omega)
  refine enter (n:=144) Tryz.func29 rfl rfl rfl h0 ?_
  cases h512 : decide ((512 : Int)<(l.length : Nat)) with
  | true=>
    rw [show jL S l=(S,dG) from if_pos (by have:=of_decide_eq_true h512;omega)]
    repeat (first | refine JL.q (by first|(apply OQ.bw;exact Tryz.underlying9;rfl)|(apply OQ.eW (b:=512);rfl;rfl;exact h512)|(apply OQ.move;rfl)|(apply OQ.assign;rfl)) rfl ?_ | refine JC.seq ?_ | refine JC.region ?_ | refine JL.nil ?_ | refine JE.next ?_)
    refine JC.cond_true rfl rfl ?_
    repeat (first | refine JL.q (by (apply OQ.move;rfl)) rfl ?_ | refine JC.seq ?_ | refine JC.region ?_)
    refine JL.nH dG (by show z.out.length+8<_;omega) rfl rfl rfl ?_
    repeat (first | refine JL.q (by (apply OQ.assign;rfl)) rfl ?_ | refine JC.seq ?_ | refine JC.region ?_ | refine JL.nil ?_ | refine JE.next ?_)
    refine JC.ret ?_
    repeat (refine JE.ah ?_)
    exact JE.aE rfl (RV.tmp rfl) fun w' hw=>⟨_,⟨ok1 dG,same dG⟩,(by rw [show decide (S.st=4)=false from c4]),hw⟩
  | false=>
    have hl5 : ¬ 512<l.length:=by have:=of_decide_eq_false h512;omega
    repeat (first | refine JL.q (by first|(apply OQ.bw;exact Tryz.underlying9;rfl)|(apply OQ.eW (b:=512);rfl;rfl;exact h512)|(apply OQ.move;rfl)|(apply OQ.assign;rfl)) rfl ?_ | refine JC.seq ?_ | refine JC.region ?_ | refine JL.nil ?_ | refine JE.next ?_)
    refine JC.cond_false rfl rfl ?_
    cases hM : au bU l with
    | true=>
      simp only [hM] at cM
      have hR : jL S l=bM S (l.drop 10):=by unfold jL;rw [if_neg hl5,if_pos hM]
      rw [hR]
      have h10l : 10≤l.length:=by
        unfold au at hM
        rw [Bool.and_eq_true,decide_eq_true_iff] at hM
        exact hM.1
      have cA:=fun w'=>jN (l.drop 10) (by rw [List.length_drop];omega) w'
      have hA:=pY (l.drop 10)
      unfold bM
      cases ha : dH (l.drop 10) with
      | none=>
        rw [ha] at hA
        dsimp only at hA ⊢
        generalize (ia (l.drop 10)).1=x at cA
        rw [hA] at cA
        repeat (first | refine JL.q (by first|(apply OQ.ak (vs:=[Z l,Z bU]);exact aP;rfl;exact (fun w' _=>cM w'))|(apply OQ.move;rfl)) rfl ?_ | refine JC.seq ?_ | refine JC.region ?_ | refine JC.skip ?_ | refine JL.nil ?_ | refine JE.next ?_)
        refine JC.cond_true rfl rfl ?_
        repeat (first | refine JL.q (by first|(apply OQ.bH (i:=10);exact Tryz.underlying9;rfl;rfl;exact h10l)|(apply OQ.ak (vs:=[Z (l.drop 10)]);exact b7;rfl;exact (fun w' _=>cA w'))|(apply OQ.extract;rfl;rfl)|(apply OQ.not;rfl)|(apply OQ.move;rfl)|(apply OQ.assign;rfl)) rfl ?_ | refine JC.seq ?_ | refine JC.region ?_ | refine JL.nil ?_ | refine JE.next ?_)
        refine JC.cond_true rfl rfl ?_
        repeat (first | refine JL.q (by (apply OQ.move;rfl)) rfl ?_ | refine JC.region ?_)
        refine JL.nH cV (by show z.out.length+8<_;omega) rfl rfl rfl ?_
        repeat (first | refine JL.q (by (apply OQ.assign;rfl)) rfl ?_ | refine JC.seq ?_ | refine JC.region ?_ | refine JL.nil ?_ | refine JE.next ?_)
        refine JC.ret ?_
        repeat (refine JE.ah ?_)
        exact JE.aE rfl (RV.tmp rfl) fun w' hw=>⟨_,⟨ok1 cV,same cV⟩,(by rw [show decide (S.st=4)=false from c4]),hw⟩
      | some a=>
        rw [ha] at hA
        dsimp only at hA ⊢
        rw [hA] at cA
        cases h1 : decide (z.st=1) with
        | false=>
          rw [if_neg (fun e=>of_decide_eq_false h1 (hst.trans e))]
          repeat (first | refine JL.q (by first|(apply OQ.ak (vs:=[Z l,Z bU]);exact aP;rfl;exact (fun w' _=>cM w'))|(apply OQ.move;rfl)) rfl ?_ | refine JC.seq ?_ | refine JC.region ?_ | refine JC.skip ?_ | refine JL.nil ?_ | refine JE.next ?_)
          refine JC.cond_true rfl rfl ?_
          repeat (first | refine JL.q (by first|(apply OQ.bH (i:=10);exact Tryz.underlying9;rfl;rfl;exact h10l)|(apply OQ.ak (vs:=[Z (l.drop 10)]);exact b7;rfl;exact (fun w' _=>cA w'))|(apply OQ.extract;rfl;rfl)|(apply OQ.not;rfl)|(apply OQ.move;rfl)|(apply OQ.assign;rfl)) rfl ?_ | refine JC.seq ?_ | refine JC.region ?_ | refine JL.nil ?_ | refine JE.next ?_)
          refine JC.cond_false rfl rfl ?_
          repeat (first | refine JL.q (by first|(apply OQ.load;exact bV;rfl;exact .here;exact (Row.cell (v:=N z.st) rfl))|(apply OQ.dI (b:=1);rfl;rfl;exact h1)|(apply OQ.move;rfl)|(apply OQ.aJ;rfl)|(apply OQ.bA;rfl;rfl;rfl;exact (by decide);rfl)) rfl ?_ | refine JC.seq ?_ | refine JC.region ?_ | refine JL.nil ?_ | refine JE.next ?_)
          refine JC.cond_true rfl rfl ?_
          repeat (first | refine JL.q (by (apply OQ.move;rfl)) rfl ?_ | refine JC.region ?_)
          refine JL.nH bQ (by show z.out.length+9<_;omega) rfl rfl rfl ?_
          repeat (first | refine JL.q (by (apply OQ.assign;rfl)) rfl ?_ | refine JC.seq ?_ | refine JC.region ?_ | refine JL.nil ?_ | refine JE.next ?_)
          refine JC.ret ?_
          repeat (refine JE.ah ?_)
          exact JE.aE rfl (RV.tmp rfl) fun w' hw=>⟨_,⟨ok1 bQ,same bQ⟩,(by rw [show decide (S.st=4)=false from c4]),hw⟩
        | true=>
          rw [if_pos (hst.symm.trans (of_decide_eq_true h1))]
          repeat (first | refine JL.q (by first|(apply OQ.ak (vs:=[Z l,Z bU]);exact aP;rfl;exact (fun w' _=>cM w'))|(apply OQ.move;rfl)) rfl ?_ | refine JC.seq ?_ | refine JC.region ?_ | refine JC.skip ?_ | refine JL.nil ?_ | refine JE.next ?_)
          refine JC.cond_true rfl rfl ?_
          repeat (first | refine JL.q (by first|(apply OQ.bH (i:=10);exact Tryz.underlying9;rfl;rfl;exact h10l)|(apply OQ.ak (vs:=[Z (l.drop 10)]);exact b7;rfl;exact (fun w' _=>cA w'))|(apply OQ.extract;rfl;rfl)|(apply OQ.not;rfl)|(apply OQ.move;rfl)|(apply OQ.assign;rfl)) rfl ?_ | refine JC.seq ?_ | refine JC.region ?_ | refine JL.nil ?_ | refine JE.next ?_)
          refine JC.cond_false rfl rfl ?_
          repeat (first | refine JL.q (by first|(apply OQ.load;exact bV;rfl;exact .here;exact (Row.cell (v:=N z.st) rfl))|(apply OQ.dI (b:=1);rfl;rfl;exact h1)|(apply OQ.move;rfl)|(apply OQ.aJ;rfl)|(apply OQ.bA;rfl;rfl;rfl;exact (by decide);rfl)) rfl ?_ | refine JC.seq ?_ | refine JC.region ?_ | refine JL.nil ?_ | refine JE.next ?_)
          refine JC.cond_false rfl rfl ?_
          repeat (first | refine JL.q (by first|(apply OQ.move;rfl)|(apply OQ.aJ;rfl)|(apply OQ.bA;rfl;rfl;rfl;exact (by decide);rfl)) rfl ?_ | refine JC.seq ?_ | refine JC.region ?_)
          refine JL.yy a rfl rfl ?_
          repeat (first | refine JL.q (by first|(apply OQ.move;rfl)|(apply OQ.aJ;rfl)|(apply OQ.bA;rfl;rfl;rfl;exact (by decide);rfl)) rfl ?_ | refine JC.seq ?_ | refine JC.region ?_ | refine JL.nil ?_ | refine JE.next ?_)
          refine JL.yg (z:={ z with fr:=a }) 2 rfl rfl ?_
          repeat (first | refine JL.q (by (apply OQ.move;rfl)) rfl ?_ | refine JC.region ?_ | refine JL.nil ?_ | refine JE.next ?_)
          refine JL.nH (z:={ z with fr:=a,st:=2 }) er (by show z.out.length+6<_;omega) rfl rfl rfl ?_
          repeat (first | refine JL.q (by (apply OQ.assign;rfl)) rfl ?_ | refine JC.seq ?_ | refine JC.region ?_ | refine JL.nil ?_ | refine JE.next ?_)
          refine JC.ret ?_
          repeat (refine JE.ah ?_)
          exact JE.aE rfl (RV.tmp rfl) fun w' hw=>⟨{ z with fr:=a,st:=2,out:=z.out++(er++[13,10]) },⟨⟨ok.t,ok.m⟩,⟨congrArg (·++_) hs.out,hs.ms,hs.cl.trans c5,fun _=>⟨rfl,rfl,hto⟩⟩⟩,rfl,hw⟩
    | false=>
      simp only [hM] at cM
      cases hR : au cm l with
      | true=>
        simp only [hR] at cR
        rw [show jL S l=c9 S (l.drop 8) by unfold jL;rw [if_neg hl5,if_neg (by rw [hM];simp),if_pos hR]]
        have h8l : 8≤l.length:=by
          unfold au at hR
          rw [Bool.and_eq_true,decide_eq_true_iff] at hR
          exact hR.1
        have cA:=fun w'=>jN (l.drop 8) (by rw [List.length_drop];omega) w'
        have hA:=pY (l.drop 8)
        unfold c9
        cases ha : dH (l.drop 8) with
        | none=>
          rw [ha] at hA
          dsimp only at hA ⊢
          generalize (ia (l.drop 8)).1=x at cA
          rw [hA] at cA
          repeat (first | refine JL.q (by first|(apply OQ.ak (vs:=[Z l,Z bU]);exact aP;rfl;exact (fun w' _=>cM w'))|(apply OQ.move;rfl)) rfl ?_ | refine JC.seq ?_ | refine JC.region ?_ | refine JC.skip ?_ | refine JL.nil ?_ | refine JE.next ?_)
          refine JC.cond_false rfl rfl ?_
          repeat (first | refine JL.q (by first|(apply OQ.ak (vs:=[Z l,Z cm]);exact aP;rfl;exact (fun w' _=>cR w'))|(apply OQ.move;rfl)) rfl ?_ | refine JC.seq ?_ | refine JC.region ?_ | refine JC.skip ?_ | refine JL.nil ?_ | refine JE.next ?_)
          refine JC.cond_true rfl rfl ?_
          repeat (first | refine JL.q (by first|(apply OQ.bH (i:=8);exact Tryz.underlying9;rfl;rfl;exact h8l)|(apply OQ.ak (vs:=[Z (l.drop 8)]);exact b7;rfl;exact (fun w' _=>cA w'))|(apply OQ.extract;rfl;rfl)|(apply OQ.not;rfl)|(apply OQ.move;rfl)|(apply OQ.assign;rfl)) rfl ?_ | refine JC.seq ?_ | refine JC.region ?_ | refine JL.nil ?_ | refine JE.next ?_)
          refine JC.cond_true rfl rfl ?_
          repeat (first | refine JL.q (by (apply OQ.move;rfl)) rfl ?_ | refine JC.region ?_)
          refine JL.nH cV (by show z.out.length+8<_;omega) rfl rfl rfl ?_
          repeat (first | refine JL.q (by (apply OQ.assign;rfl)) rfl ?_ | refine JC.seq ?_ | refine JC.region ?_ | refine JL.nil ?_ | refine JE.next ?_)
          refine JC.ret ?_
          repeat (refine JE.ah ?_)
          exact JE.aE rfl (RV.tmp rfl) fun w' hw=>⟨_,⟨ok1 cV,same cV⟩,(by rw [show decide (S.st=4)=false from c4]),hw⟩
        | some a=>
          rw [ha] at hA
          dsimp only at hA ⊢
          rw [hA] at cA
          cases h1 : decide ((z.st : Int)<2) with
          | true=>
            have h1' : z.st<2:=by have:=of_decide_eq_true h1;omega
            rw [if_neg (by omega)]
            repeat (first | refine JL.q (by first|(apply OQ.ak (vs:=[Z l,Z bU]);exact aP;rfl;exact (fun w' _=>cM w'))|(apply OQ.move;rfl)) rfl ?_ | refine JC.seq ?_ | refine JC.region ?_ | refine JC.skip ?_ | refine JL.nil ?_ | refine JE.next ?_)
            refine JC.cond_false rfl rfl ?_
            repeat (first | refine JL.q (by first|(apply OQ.ak (vs:=[Z l,Z cm]);exact aP;rfl;exact (fun w' _=>cR w'))|(apply OQ.move;rfl)) rfl ?_ | refine JC.seq ?_ | refine JC.region ?_ | refine JC.skip ?_ | refine JL.nil ?_ | refine JE.next ?_)
            refine JC.cond_true rfl rfl ?_
            repeat (first | refine JL.q (by first|(apply OQ.bH (i:=8);exact Tryz.underlying9;rfl;rfl;exact h8l)|(apply OQ.ak (vs:=[Z (l.drop 8)]);exact b7;rfl;exact (fun w' _=>cA w'))|(apply OQ.extract;rfl;rfl)|(apply OQ.not;rfl)|(apply OQ.move;rfl)|(apply OQ.assign;rfl)) rfl ?_ | refine JC.seq ?_ | refine JC.region ?_ | refine JL.nil ?_ | refine JE.next ?_)
            refine JC.cond_false rfl rfl ?_
            repeat (first | refine JL.q (by first|(apply OQ.load;exact bV;rfl;exact .here;exact (Row.cell (v:=N z.st) rfl))|(apply OQ.cU (b:=2);rfl;rfl;exact h1)|(apply OQ.move;rfl)|(apply OQ.aJ;rfl)|(apply OQ.bA;rfl;rfl;rfl;exact (by decide);rfl)) rfl ?_ | refine JC.seq ?_ | refine JC.region ?_ | refine JL.nil ?_ | refine JE.next ?_)
            refine JC.cond_true rfl rfl ?_
            repeat (first | refine JL.q (by (apply OQ.move;rfl)) rfl ?_ | refine JC.region ?_)
            refine JL.nH bQ (by show z.out.length+9<_;omega) rfl rfl rfl ?_
            repeat (first | refine JL.q (by (apply OQ.assign;rfl)) rfl ?_ | refine JC.seq ?_ | refine JC.region ?_ | refine JL.nil ?_ | refine JE.next ?_)
            refine JC.ret ?_
            repeat (refine JE.ah ?_)
            exact JE.aE rfl (RV.tmp rfl) fun w' hw=>⟨_,⟨ok1 bQ,same bQ⟩,(by rw [show decide (S.st=4)=false from c4]),hw⟩
          | false=>
            have h1' : ¬ z.st<2:=by have:=of_decide_eq_false h1;omega
            rw [if_pos (by omega)]
            cases hten : decide (z.to.length=10) with
            | true=>
              rw [if_pos (by rw [← hto];exact of_decide_eq_true hten)]
              repeat (first | refine JL.q (by first|(apply OQ.ak (vs:=[Z l,Z bU]);exact aP;rfl;exact (fun w' _=>cM w'))|(apply OQ.move;rfl)) rfl ?_ | refine JC.seq ?_ | refine JC.region ?_ | refine JC.skip ?_ | refine JL.nil ?_ | refine JE.next ?_)
              refine JC.cond_false rfl rfl ?_
              repeat (first | refine JL.q (by first|(apply OQ.ak (vs:=[Z l,Z cm]);exact aP;rfl;exact (fun w' _=>cR w'))|(apply OQ.move;rfl)) rfl ?_ | refine JC.seq ?_ | refine JC.region ?_ | refine JC.skip ?_ | refine JL.nil ?_ | refine JE.next ?_)
              refine JC.cond_true rfl rfl ?_
              repeat (first | refine JL.q (by first|(apply OQ.bH (i:=8);exact Tryz.underlying9;rfl;rfl;exact h8l)|(apply OQ.ak (vs:=[Z (l.drop 8)]);exact b7;rfl;exact (fun w' _=>cA w'))|(apply OQ.extract;rfl;rfl)|(apply OQ.not;rfl)|(apply OQ.move;rfl)|(apply OQ.assign;rfl)) rfl ?_ | refine JC.seq ?_ | refine JC.region ?_ | refine JL.nil ?_ | refine JE.next ?_)
              refine JC.cond_false rfl rfl ?_
              repeat (first | refine JL.q (by first|(apply OQ.load;exact bV;rfl;exact .here;exact (Row.cell (v:=N z.st) rfl))|(apply OQ.cU (b:=2);rfl;rfl;exact h1)|(apply OQ.move;rfl)|(apply OQ.aJ;rfl)|(apply OQ.bA;rfl;rfl;rfl;exact (by decide);rfl)) rfl ?_ | refine JC.seq ?_ | refine JC.region ?_ | refine JL.nil ?_ | refine JE.next ?_)
              refine JC.cond_false rfl rfl ?_
              repeat (first | refine JL.q (by first|(apply OQ.load;exact de;rfl;exact .here;exact (Row.cell (v:=ag z.qt z.to.length) rfl))|(apply OQ.gw;exact Tryz.underlying30;exact (fun h=>congrArg List.length (ok.t h));rfl)|(apply OQ.eX (b:=10);rfl;rfl;exact hten)|(apply OQ.move;rfl)|(apply OQ.aJ;rfl)|(apply OQ.bA;rfl;rfl;rfl;exact (by decide);rfl)) rfl ?_ | refine JC.seq ?_ | refine JC.region ?_ | refine JL.nil ?_ | refine JE.next ?_)
              refine JC.cond_true rfl rfl ?_
              repeat (first | refine JL.q (by (apply OQ.move;rfl)) rfl ?_ | refine JC.region ?_)
              refine JL.nH o7 (by show z.out.length+8<_;omega) rfl rfl rfl ?_
              repeat (first | refine JL.q (by (apply OQ.assign;rfl)) rfl ?_ | refine JC.seq ?_ | refine JC.region ?_ | refine JL.nil ?_ | refine JE.next ?_)
              refine JC.ret ?_
              repeat (refine JE.ah ?_)
              exact JE.aE rfl (RV.tmp rfl) fun w' hw=>⟨_,⟨ok1 o7,same o7⟩,(by rw [show decide (S.st=4)=false from c4]),hw⟩
            | false=>
              rw [if_neg (by rw [← hto];exact of_decide_eq_false hten)]
              have htl : z.to.length≤10:=by rw [hto];exact h10
              repeat (first | refine JL.q (by first|(apply OQ.ak (vs:=[Z l,Z bU]);exact aP;rfl;exact (fun w' _=>cM w'))|(apply OQ.move;rfl)) rfl ?_ | refine JC.seq ?_ | refine JC.region ?_ | refine JC.skip ?_ | refine JL.nil ?_ | refine JE.next ?_)
              refine JC.cond_false rfl rfl ?_
              repeat (first | refine JL.q (by first|(apply OQ.ak (vs:=[Z l,Z cm]);exact aP;rfl;exact (fun w' _=>cR w'))|(apply OQ.move;rfl)) rfl ?_ | refine JC.seq ?_ | refine JC.region ?_ | refine JC.skip ?_ | refine JL.nil ?_ | refine JE.next ?_)
              refine JC.cond_true rfl rfl ?_
              repeat (first | refine JL.q (by first|(apply OQ.bH (i:=8);exact Tryz.underlying9;rfl;rfl;exact h8l)|(apply OQ.ak (vs:=[Z (l.drop 8)]);exact b7;rfl;exact (fun w' _=>cA w'))|(apply OQ.extract;rfl;rfl)|(apply OQ.not;rfl)|(apply OQ.move;rfl)|(apply OQ.assign;rfl)) rfl ?_ | refine JC.seq ?_ | refine JC.region ?_ | refine JL.nil ?_ | refine JE.next ?_)
              refine JC.cond_false rfl rfl ?_
              repeat (first | refine JL.q (by first|(apply OQ.load;exact bV;rfl;exact .here;exact (Row.cell (v:=N z.st) rfl))|(apply OQ.cU (b:=2);rfl;rfl;exact h1)|(apply OQ.move;rfl)|(apply OQ.aJ;rfl)|(apply OQ.bA;rfl;rfl;rfl;exact (by decide);rfl)) rfl ?_ | refine JC.seq ?_ | refine JC.region ?_ | refine JL.nil ?_ | refine JE.next ?_)
              refine JC.cond_false rfl rfl ?_
              repeat (first | refine JL.q (by first|(apply OQ.load;exact de;rfl;exact .here;exact (Row.cell (v:=ag z.qt z.to.length) rfl))|(apply OQ.gw;exact Tryz.underlying30;exact (fun h=>congrArg List.length (ok.t h));rfl)|(apply OQ.eX (b:=10);rfl;rfl;exact hten)|(apply OQ.move;rfl)|(apply OQ.aJ;rfl)|(apply OQ.bA;rfl;rfl;rfl;exact (by decide);rfl)) rfl ?_ | refine JC.seq ?_ | refine JC.region ?_ | refine JL.nil ?_ | refine JE.next ?_)
              refine JC.cond_false rfl rfl ?_
              repeat (first | refine JL.q (by first|(apply OQ.load;exact de;rfl;exact .here;exact (Row.cell (v:=ag z.qt z.to.length) rfl))|(apply OQ.move;rfl)|(apply OQ.aJ;rfl)|(apply OQ.bA;rfl;rfl;rfl;exact (by decide);rfl)) rfl ?_ | refine JC.seq ?_ | refine JC.region ?_)
              refine JL.p9 (v:=Z a) Tryz.underlying30 kQ rfl rfl rfl rfl fun bl _=>?_
              refine JL.perm (M':=⟨bl,Row 9 [Z a],true⟩::(z.T++(⟨b,Row 33 z.cs,true⟩::z.M))) ?_ (aM fun _ _ v=>by simp only [Tw.E,List.count_append,List.count_cons];omega)
              refine JL.kR (p:=a) z.qt Tryz.underlying30 kQ ok.t rfl rfl rfl (by omega) (by omega) rfl fun b1 cap1=>?_
              refine JL.perm (M':=⟨b,Row 33 z.cs,true⟩::(ay 9 (some (b1,cap1)) ((z.to++[a]).map Z)++z.M)) ?_ (aM fun _ _ v=>by simp only [List.count_append,List.count_cons];omega)
              repeat (refine JL.q (by first|(apply OQ.aJ;rfl)|(apply OQ.bA;rfl;rfl;rfl;exact (by decide);rfl)) rfl ?_)
              refine JL.yz (some (b1,cap1)) (z.to++[a]) rfl rfl ?_
              repeat (first | refine JL.q (by first|(apply OQ.move;rfl)|(apply OQ.aJ;rfl)|(apply OQ.bA;rfl;rfl;rfl;exact (by decide);rfl)) rfl ?_ | refine JC.seq ?_ | refine JC.region ?_ | refine JL.nil ?_ | refine JE.next ?_)
              refine JL.yg (z:={ z with qt:=some (b1,cap1),to:=z.to++[a] }) 3 rfl rfl ?_
              repeat (first | refine JL.q (by (apply OQ.move;rfl)) rfl ?_ | refine JC.region ?_ | refine JL.nil ?_ | refine JE.next ?_)
              refine JL.nH (z:={ z with qt:=some (b1,cap1),to:=z.to++[a],st:=3 }) er (by show z.out.length+6<_;omega) rfl rfl rfl ?_
              repeat (first | refine JL.q (by (apply OQ.assign;rfl)) rfl ?_ | refine JC.seq ?_ | refine JC.region ?_ | refine JL.nil ?_ | refine JE.next ?_)
              refine JC.ret ?_
              repeat (refine JE.ah ?_)
              exact JE.aE rfl (RV.tmp rfl) fun w' hw=>⟨{ z with qt:=some (b1,cap1),to:=z.to++[a],st:=3,out:=z.out++(er++[13,10]) },⟨⟨nofun,ok.m⟩,⟨congrArg (·++_) hs.out,hs.ms,hs.cl.trans c5,fun _=>⟨rfl,hfr,congrArg (·++[a]) hto⟩⟩⟩,rfl,hw⟩
      | false=>
        simp only [hR] at cR
        repeat (first | refine JL.q (by first|(apply OQ.ak (vs:=[Z l,Z bU]);exact aP;rfl;exact (fun w' _=>cM w'))|(apply OQ.move;rfl)) rfl ?_ | refine JC.seq ?_ | refine JC.region ?_ | refine JC.skip ?_ | refine JL.nil ?_ | refine JE.next ?_)
        refine JC.cond_false rfl rfl ?_
        repeat (first | refine JL.q (by first|(apply OQ.ak (vs:=[Z l,Z cm]);exact aP;rfl;exact (fun w' _=>cR w'))|(apply OQ.move;rfl)) rfl ?_ | refine JC.seq ?_ | refine JC.region ?_ | refine JC.skip ?_ | refine JL.nil ?_ | refine JE.next ?_)
        refine JC.cond_false rfl rfl ?_
        cases hHb : au rD l with
        | true=>
          simp only [hHb] at cHb
          rw [show jL S l=(bL S 1,er) by unfold jL;rw [if_neg hl5,if_neg (by rw [hM];simp),if_neg (by rw [hR];simp),if_pos hHb]]
          repeat (first | refine JL.q (by first|(apply OQ.ak (vs:=[Z l,Z rD]);exact aP;rfl;exact (fun w' _=>cHb w'))|(apply OQ.move;rfl)) rfl ?_ | refine JC.seq ?_ | refine JC.region ?_ | refine JC.skip ?_ | refine JL.nil ?_ | refine JE.next ?_)
          refine JC.cond_true rfl rfl ?_
          repeat (first | refine JL.q (by (apply OQ.move;rfl)) rfl ?_ | refine JC.seq ?_ | refine JC.region ?_)
          refine JL.pX 1 rfl rfl rfl fun b2=>?_
          repeat (first | refine JL.q (by (apply OQ.move;rfl)) rfl ?_ | refine JC.seq ?_ | refine JC.region ?_ | refine JL.nil ?_ | refine JE.next ?_)
          refine JL.nH (z:=z.bL 1 b2) er (by show z.out.length+6<_;omega) rfl rfl rfl ?_
          repeat (first | refine JL.q (by (apply OQ.assign;rfl)) rfl ?_ | refine JC.seq ?_ | refine JC.region ?_ | refine JL.nil ?_ | refine JE.next ?_)
          refine JC.ret ?_
          repeat (refine JE.ah ?_)
          exact JE.aE rfl (RV.tmp rfl) fun w' hw=>⟨{ z.bL 1 b2 with out:=z.out++(er++[13,10]) },⟨⟨nofun,ok.m⟩,⟨congrArg (·++_) hs.out,hs.ms,hs.cl.trans c5,fun _=>⟨rfl,rfl,rfl⟩⟩⟩,rfl,hw.weak (.keep _ _ _ _ _ _ (fun _ h=>h) (.keep _ _ _ _ _ _ (fun _ h=>h) (bZ _ (av.refl _))))⟩
        | false=>
          simp only [hHb] at cHb
          repeat (first | refine JL.q (by first|(apply OQ.ak (vs:=[Z l,Z rD]);exact aP;rfl;exact (fun w' _=>cHb w'))|(apply OQ.move;rfl)) rfl ?_ | refine JC.seq ?_ | refine JC.region ?_ | refine JC.skip ?_ | refine JL.nil ?_ | refine JE.next ?_)
          refine JC.cond_false rfl rfl ?_
          repeat (first | refine JL.q (by first|(apply OQ.ak (vs:=[Z l]);exact kJ;rfl;exact (fun w' _=>cB w'))|(apply OQ.move;rfl)|(apply OQ.assign;rfl)) rfl ?_ | refine JC.seq ?_ | refine JC.region ?_ | refine JC.skip ?_ | refine JL.nil ?_ | refine JE.next ?_)
          obtain ⟨u,hu⟩ : ∃ u,l.map dZ=u:=⟨_,rfl⟩
          rw [hu]
          have hR0 : jL S l=(if u=cr then (bL S 5,oc) else if u=cq then ct S [] else if u=bP then cx S [] else if au bT l=true∨au cr l=true∨au cq l=true∨au bP l=true then (S,cV) else (S,dG)):=by
            unfold jL
            rw [if_neg hl5,if_neg (by rw [hM];simp),if_neg (by rw [hR];simp),if_neg (by rw [hHb];simp),hu]
          rw [hR0]
          clear hR0 hu cB cM cR cHb
          cases uQ : decide (u=cr) with
          | true=>
            rw [if_pos (of_decide_eq_true uQ)]
            repeat (first | refine JL.q (by (apply OQ.en (l:=u) (r:=cr);rfl;rfl;exact uQ)) rfl ?_ | refine JL.nil ?_ | refine JE.next ?_)
            refine JC.cond_true rfl rfl ?_
            repeat (first | refine JL.q (by first|(apply OQ.move;rfl)|(apply OQ.aJ;rfl)|(apply OQ.bA;rfl;rfl;rfl;exact (by decide);rfl)) rfl ?_ | refine JC.seq ?_ | refine JC.region ?_)
            refine JL.yO true rfl rfl ?_
            repeat (first | refine JL.q (by (apply OQ.move;rfl)) rfl ?_ | refine JC.region ?_ | refine JL.nil ?_ | refine JE.next ?_)
            refine JL.nH (z:={ z with cl:=true }) oc (by show z.out.length+7<_;omega) rfl rfl rfl ?_
            repeat (first | refine JL.q (by (apply OQ.assign;rfl)) rfl ?_ | refine JC.seq ?_ | refine JC.region ?_ | refine JL.nil ?_ | refine JE.next ?_)
            refine JC.ret ?_
            skip
            exact JE.aE rfl (RV.tmp rfl) fun w' hw=>⟨{ z with cl:=true,out:=z.out++(oc++[13,10]) },⟨⟨ok.t,ok.m⟩,⟨congrArg (·++_) hs.out,hs.ms,rfl,fun h=>absurd rfl h⟩⟩,rfl,hw⟩
          | false=>
            rw [if_neg (of_decide_eq_false uQ)]
            repeat (first | refine JL.q (by (apply OQ.en (l:=u) (r:=cr);rfl;rfl;exact uQ)) rfl ?_ | refine JL.nil ?_ | refine JE.next ?_)
            refine JC.cond_false rfl rfl ?_
            cases uT : decide (u=cq) with
            | true=>
              rw [if_pos (of_decide_eq_true uT)]
              repeat (first | refine JL.q (by first|(apply OQ.en (l:=u) (r:=cq);rfl;rfl;exact uT)|(apply OQ.move;rfl)) rfl ?_ | refine JC.seq ?_ | refine JC.region ?_ | refine JL.nil ?_ | refine JE.next ?_)
              refine JC.cond_true rfl rfl ?_
              repeat (first | refine JL.q (by first|(apply OQ.load;exact bV;rfl;exact .here;exact (Row.cell (v:=N z.st) rfl))|(apply OQ.xb (a:=z.st) (c:=1);rfl;rfl)|(apply OQ.move;rfl)|(apply OQ.aJ;rfl)|(apply OQ.bA;rfl;rfl;rfl;exact (by decide);rfl)) rfl ?_ | refine JC.seq ?_ | refine JC.region ?_)
              refine JL.pX (min z.st 1) rfl rfl rfl fun b2=>?_
              repeat (first | refine JL.q (by (apply OQ.move;rfl)) rfl ?_ | refine JC.region ?_ | refine JL.nil ?_ | refine JE.next ?_)
              refine JL.nH (z:=z.bL (min z.st 1) b2) er (by show z.out.length+6<_;omega) rfl rfl rfl ?_
              repeat (first | refine JL.q (by (apply OQ.assign;rfl)) rfl ?_ | refine JC.seq ?_ | refine JC.region ?_ | refine JL.nil ?_ | refine JE.next ?_)
              refine JC.ret ?_
              skip
              have hrs : ct S []=(⟨min S.st 1,[],[],S.ln,(if S.st=0 then S.dt else []),S.ms⟩,er):=by
                unfold ct
                rw [if_pos rfl]
                by_cases h00 : S.st=0
                · rw [if_pos h00,if_pos h00,h00]
                  obtain ⟨g1,g2⟩:=hcold h00
                  show (S,er)=_
                  rw [← g1]
                  conv=>rhs;rw [g1]
                  cases S
                  simp_all
                · rw [if_neg h00,if_neg h00,show min S.st 1=1 by omega]
                  rfl
              rw [hrs]
              have hm5 : min S.st 1≠5:=by omega
              refine JE.aE rfl (RV.tmp rfl) fun w' hw=>⟨{ z.bL (min z.st 1) b2 with out:=z.out++(er++[13,10]) },⟨⟨nofun,ok.m⟩,⟨congrArg (·++_) hs.out,hs.ms,hs.cl.trans (c5.trans (decide_eq_false hm5).symm),fun _=>⟨?_,rfl,rfl⟩⟩⟩,?_,hw.weak (.keep _ _ _ _ _ _ (fun _ h=>h) (.keep _ _ _ _ _ _ (fun _ h=>h) (bZ _ (av.refl _))))⟩
              · show min z.st 1=(if min S.st 1=4 then 3 else min S.st 1)
                rw [if_neg (by omega),hst]
              · rw [show decide (min S.st 1=4)=false from decide_eq_false (by omega)]
            | false=>
              rw [if_neg (of_decide_eq_false uT)]
              repeat (first | refine JL.q (by first|(apply OQ.en (l:=u) (r:=cq);rfl;rfl;exact uT)|(apply OQ.move;rfl)) rfl ?_ | refine JC.seq ?_ | refine JC.region ?_ | refine JL.nil ?_ | refine JE.next ?_)
              refine JC.cond_false rfl rfl ?_
              cases uD : decide (u=bP) with
              | true=>
                rw [if_pos (of_decide_eq_true uD)]
                unfold cx
                rw [if_pos rfl]
                cases h33 : decide (z.st=3) with
                | true=>
                  rw [if_pos (hst.symm.trans (of_decide_eq_true h33))]
                  repeat (first | refine JL.q (by first|(apply OQ.en (l:=u) (r:=bP);rfl;rfl;exact uD)|(apply OQ.load;exact bV;rfl;exact .here;exact (Row.cell (v:=N z.st) rfl))|(apply OQ.eX (b:=3);rfl;rfl;exact h33)|(apply OQ.az;rfl;rfl)|(apply OQ.move;rfl)|(apply OQ.aJ;rfl)|(apply OQ.bA;rfl;rfl;rfl;exact (by decide);rfl)) rfl ?_ | refine JC.seq ?_ | refine JC.region ?_ | refine JL.nil ?_ | refine JE.next ?_ | refine JL.aT rfl rfl ?_)
                  refine JC.cond_true rfl rfl ?_
                  repeat (first | refine JL.q (by (apply OQ.move;rfl)) rfl ?_ | refine JC.seq ?_ | refine JC.region ?_)
                  refine JL.nH xU (by show z.out.length+6<_;omega) rfl rfl rfl ?_
                  repeat (first | refine JL.q (by (apply OQ.assign;rfl)) rfl ?_ | refine JC.seq ?_ | refine JC.region ?_ | refine JL.nil ?_ | refine JE.next ?_)
                  refine JC.ret ?_
                  repeat (refine JE.ah ?_)
                  exact JE.aE rfl (RV.tmp rfl) fun w' hw=>⟨{ z with out:=z.out++(xU++[13,10]) },⟨⟨ok.t,ok.m⟩,⟨congrArg (·++_) hs.out,hs.ms,hs.cl.trans c5,fun _=>⟨of_decide_eq_true h33,hfr,hto⟩⟩⟩,rfl,hw⟩
                | false=>
                  rw [if_neg (fun e=>of_decide_eq_false h33 (hst.trans e))]
                  repeat (first | refine JL.q (by first|(apply OQ.en (l:=u) (r:=bP);rfl;rfl;exact uD)|(apply OQ.load;exact bV;rfl;exact .here;exact (Row.cell (v:=N z.st) rfl))|(apply OQ.eX (b:=3);rfl;rfl;exact h33)|(apply OQ.az;rfl;rfl)|(apply OQ.move;rfl)|(apply OQ.aJ;rfl)|(apply OQ.bA;rfl;rfl;rfl;exact (by decide);rfl)) rfl ?_ | refine JC.seq ?_ | refine JC.region ?_ | refine JL.nil ?_ | refine JE.next ?_ | refine JL.aT rfl rfl ?_)
                  refine JC.cond_false rfl rfl ?_
                  repeat (first | refine JL.q (by first|(apply OQ.en (l:=u) (r:=bP);rfl;rfl;exact uD)|(apply OQ.move;rfl)) rfl ?_ | refine JC.seq ?_ | refine JC.region ?_ | refine JL.nil ?_ | refine JE.next ?_)
                  refine JC.cond_true rfl rfl ?_
                  repeat (first | refine JL.q (by (apply OQ.move;rfl)) rfl ?_ | refine JC.region ?_)
                  refine JL.nH bQ (by show z.out.length+9<_;omega) rfl rfl rfl ?_
                  repeat (first | refine JL.q (by (apply OQ.assign;rfl)) rfl ?_ | refine JC.seq ?_ | refine JC.region ?_ | refine JL.nil ?_ | refine JE.next ?_)
                  refine JC.ret ?_
                  skip
                  exact JE.aE rfl (RV.tmp rfl) fun w' hw=>⟨_,⟨ok1 bQ,same bQ⟩,(by rw [show decide (S.st=4)=false from c4]),hw⟩
              | false=>
                rw [if_neg (of_decide_eq_false uD)]
                repeat (first | refine JL.q (by first|(apply OQ.en (l:=u) (r:=bP);rfl;rfl;exact uD)|(apply OQ.aB;rfl;rfl)|(apply OQ.move;rfl)) rfl ?_ | refine JC.seq ?_ | refine JC.region ?_ | refine JL.nil ?_ | refine JE.next ?_ | refine JL.aU rfl rfl rfl rfl ?_)
                refine JC.cond_false rfl rfl ?_
                repeat (first | refine JL.q (by first|(apply OQ.en (l:=u) (r:=bP);rfl;rfl;exact uD)|(apply OQ.move;rfl)) rfl ?_ | refine JC.seq ?_ | refine JC.region ?_ | refine JL.nil ?_ | refine JE.next ?_)
                refine JC.cond_false rfl rfl ?_
                cases hH : au bT l
                all_goals cases hQ : au cr l
                all_goals cases hT : au cq l
                all_goals cases hD : au bP l
                all_goals simp only [hH,hQ,hT,hD] at cH cQ cT cD
                all_goals (repeat (first | refine JL.q (by first|(apply OQ.ak (vs:=[Z l,Z bT]);exact aP;rfl;exact (fun w' _=>cH w'))|(apply OQ.ak (vs:=[Z l,Z cr]);exact aP;rfl;exact (fun w' _=>cQ w'))|(apply OQ.ak (vs:=[Z l,Z cq]);exact aP;rfl;exact (fun w' _=>cT w'))|(apply OQ.ak (vs:=[Z l,Z bP]);exact aP;rfl;exact (fun w' _=>cD w'))|(apply OQ.az;rfl;rfl)|(apply OQ.aB;rfl;rfl)|(apply OQ.move;rfl)) rfl ?_ | refine JC.seq ?_ | refine JC.region ?_ | refine JL.nil ?_ | refine JE.next ?_ | refine JL.aT rfl rfl ?_ | refine JL.aU rfl rfl rfl rfl ?_))
                all_goals first
                  | (rw [if_pos (by simp)]
                     refine JC.cond_true rfl rfl ?_
                     (repeat (first | refine JL.q (by (apply OQ.move;rfl)) rfl ?_ | refine JC.region ?_))
                     refine JL.nH cV (by show z.out.length+8<_;omega) rfl rfl rfl ?_
                     (repeat (first | refine JL.q (by (apply OQ.assign;rfl)) rfl ?_ | refine JC.seq ?_ | refine JC.region ?_ | refine JL.nil ?_ | refine JE.next ?_))
                     refine JC.ret ?_
                     (skip)
                     exact JE.aE rfl (RV.tmp rfl) fun w' hw=>⟨_,⟨ok1 cV,same cV⟩,(by rw [show decide (S.st=4)=false from c4]),hw⟩)
                  | (rw [if_neg (by simp)]
                     refine JC.cond_false rfl rfl ?_
                     (repeat (first | refine JL.q (by (apply OQ.move;rfl)) rfl ?_ | refine JC.region ?_))
                     refine JL.nH dG (by show z.out.length+8<_;omega) rfl rfl rfl ?_
                     (repeat (first | refine JL.q (by (apply OQ.assign;rfl)) rfl ?_ | refine JC.seq ?_ | refine JC.region ?_ | refine JL.nil ?_ | refine JE.next ?_))
                     refine JC.ret ?_
                     (skip)
                     exact JE.aE rfl (RV.tmp rfl) fun w' hw=>⟨_,⟨ok1 dG,same dG⟩,(by rw [show decide (S.st=4)=false from c4]),hw⟩)
end dx
end
end Go.Proofs.YtjeeilmkjjbonaaGreatDoor
