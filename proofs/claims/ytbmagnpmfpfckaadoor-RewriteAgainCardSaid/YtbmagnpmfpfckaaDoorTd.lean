/-
  Of no statement by itself: the texts RwPu, RwPv, FieW, FibA, RwAd, RwPr, RwDl, RwDr, RwW0, RwDp, RwP, RwJ, RwQ, RwD, RwPw, RwAp, RwCk, RwCt, RwZ, Same, RwE, RwDe, RwNx in one.
  Conditions: each theorem's own.
-/
import Derived.Test.YtbmagnpmfpfckaaDoorTc
set_option linter.unusedSimpArgs false
set_option linter.unusedVariables false
namespace Go.Proofs.YtbmagnpmfpfckaaDoor
section
open Sl bV eu
namespace Rw
def dO (x : List Bt) : Prop:=∃ t,x=t++[10]∧∀ c ∈ t,c≠10
theorem vV (t r : List Bt) (h : ∀ c ∈ t,c≠10) : (t++10::r).takeWhile (· != 10)=t:=by
  rw [List.takeWhile_append_of_pos (fun c hc=>by simpa using h c hc)]
  simp
theorem oV {x : List Bt} (h : dO x) (r : List Bt) : aH (x++r)=x.length:=by
  obtain ⟨t,rfl,ht⟩:=h
  have e : t++[10]++r=t++10::r:=by simp
  unfold aH
  rw [e,vV t r ht,if_pos (by simp)]
  simp
theorem s6 {x : List Bt} (h : dO x) : 0<x.length:=by
  obtain ⟨t,rfl,_⟩:=h
  simp
theorem mb (xs : List (List Bt)) (r : List Bt) {j : Nat} (h : j<xs.length) : xs.flatten++r=(xs.take j).flatten++(xs[j]++((xs.drop (j+1)).flatten++r)):=by
  have e : xs.take j++xs[j]::xs.drop (j+1)=xs:=by rw [← List.drop_eq_getElem_cons h,List.take_append_drop]
  refine Eq.trans (congrArg (fun z : List (List Bt)=>z.flatten++r) e.symm) ?_
  rw [List.flatten_append,List.flatten_cons,List.append_assoc,List.append_assoc]
theorem j6 (xs : List (List Bt)) (h : ∀ x ∈ xs,dO x) (r : List Bt) : ∀ j,j≤xs.length→au (xs.flatten++r) j=(xs.take j).flatten.length:=by
  intro j
  induction j with
  | zero=>intro _;rfl
  | succ j ih=>
    intro hj
    have hj : j<xs.length:=hj
    show au (xs.flatten++r) j+aH ((xs.flatten++r).drop (au (xs.flatten++r) j))=_
    rw [ih (by omega)]
    conv=>lhs;rw [mb xs r hj]
    rw [List.drop_left,oV (h _ (List.getElem_mem hj)),List.take_succ_eq_append_getElem hj,List.flatten_append,List.length_append,List.flatten_cons,List.flatten_nil,List.append_nil]
theorem js (xs : List (List Bt)) (h : ∀ x ∈ xs,dO x) (r : List Bt) {j : Nat} (hj : j<xs.length) : ((xs.flatten++r).drop (au (xs.flatten++r) j)).take (aH ((xs.flatten++r).drop (au (xs.flatten++r) j)))=xs[j]:=by
  rw [j6 xs h r j (by omega)]
  conv=>lhs;rw [mb xs r hj]
  rw [List.drop_left,oV (h _ (List.getElem_mem hj)),List.take_left]
theorem eP (xs : List (List Bt)) (h : ∀ x ∈ xs,dO x) (r : List Bt) {j : Nat} (hj : j<xs.length) : bR (xs.flatten++r) j=aG xs[j]:=by
  unfold bR
  rw [js xs h r hj]
theorem nG (xs : List (List Bt)) (h : ∀ x ∈ xs,dO x) (r : List Bt) {j : Nat} (hj : j<xs.length) : j<(aM (xs.flatten++r)).length:=by
  rw [dj,j6 xs h r j (by omega)]
  conv=>rhs;rw [mb xs r hj]
  have:=s6 (h _ (List.getElem_mem hj))
  simp only [List.length_append]
  omega
theorem mc (xs : List (List Bt)) (h : ∀ x ∈ xs,dO x) : (aM xs.flatten).length=xs.length:=by
  have h1:=dj xs.flatten xs.length
  have h2:=j6 xs h [] xs.length (Nat.le_refl _)
  rw [List.append_nil,List.take_length] at h2
  rw [h2] at h1
  rcases Nat.eq_zero_or_pos xs.length with h0 | h0
  · omega
  · have h3:=nG xs h [] (j:=xs.length - 1) (by omega)
    rw [List.append_nil] at h3
    omega
def bk (x : List Bt) : Bool:=cE ((aG x).getD 0 0)
def om (G : List (List (List Bt))) (x : List Bt) : List (List (List Bt)):=if bk x then G.dropLast++[(G.getLast?.getD [])++[x]] else G++[[x]]
theorem oW (H : List (List (List Bt))) (q : List (List Bt)) {x : List Bt} (h : bk x=true) : om (H++[q]) x=H++[q++[x]]:=by
  unfold om
  rw [if_pos h]
  simp
theorem me (G : List (List (List Bt))) {x : List Bt} (h : bk x=false) : om G x=G++[[x]]:=by
  unfold om
  rw [h]
  rfl
def GP (l : List Bt) (k : Nat) (f : List (Nat × Nat)) (G : List (List (List Bt))) : Prop:=∃ g p H q,f=g++[p]∧G=H++[q]∧p.1+p.2=au l k∧g.map (aY l)=H.map List.flatten∧aY l p=q.flatten
theorem uU {l x : List Bt} {k : Nat} {f : List (Nat × Nat)} {G : List (List (List Bt))} (h : GP l k f G) (hx : (l.drop (au l k)).take (aH (l.drop (au l k)))=x) : GP l (k+1) (jj (c8 l k f) (aH (l.drop (au l k)))) (om G x):=by
  obtain ⟨g,p,H,q,rfl,rfl,h2,h3,h4⟩:=h
  have hat : au l (k+1)=au l k+aH (l.drop (au l k)):=rfl
  have ht : bR l k=aG x:=by unfold bR;rw [hx]
  unfold c8
  rw [ht]
  cases hb : bk x with
  | true=>
    have hb' : cE ((aG x).getD 0 0)=true:=hb
    rw [if_pos hb',oW H q hb,fy]
    refine ⟨g,_,H,_,rfl,rfl,by dsimp only;omega,h3,?_⟩
    rw [gZ,h2,hx]
    show aY l p++x=_
    rw [h4]
    simp
  | false=>
    have hb' : cE ((aG x).getD 0 0)=false:=hb
    rw [hb',if_neg (by decide),me _ hb,fy]
    refine ⟨g++[p],_,H++[q],_,rfl,rfl,by dsimp only;omega,by rw [List.map_append,List.map_append,h3];simp [h4],?_⟩
    dsimp only
    rw [gZ,Nat.add_zero,hx]
    simp [aY]
theorem vW (xs : List (List Bt)) (h : ∀ x ∈ xs,dO x) (h0 : ∀ x ∈ xs.head?,bk x=false) : ∀ k,k+1≤xs.length→GP xs.flatten (k+1) (gR xs.flatten (k+1)) ((xs.take (k+1)).foldl om []):=by
  have hraw:=fun {j : Nat} (hj : j<xs.length)=>js xs h [] hj
  rw [List.append_nil] at hraw
  intro k
  induction k with
  | zero=>
    intro hk
    have hk : 0<xs.length:=hk
    obtain ⟨a,tl,rfl⟩ : ∃ a tl,xs=a::tl:=by cases xs with | nil=>cases hk | cons a tl=>exact ⟨a,tl,rfl⟩
    have ha:=h0 a rfl
    have hx:=hraw hk
    have hx : (((a::tl).flatten).drop 0).take (aH (((a::tl).flatten).drop 0))=a:=hx
    have ht : bR (a::tl).flatten 0=aG a:=by unfold bR;exact congrArg aG hx
    have ha' : cE ((aG a).getD 0 0)=false:=ha
    show GP _ _ (jj (c8 _ 0 []) _) _
    unfold c8
    rw [ht,ha',if_neg (by decide)]
    show GP _ _ (jj ([]++[(0,0)]) _) (om [] a)
    rw [me _ ha,fy]
    refine ⟨[],_,[],_,rfl,rfl,?_,rfl,?_⟩
    · show 0+(0+aH _)=0+aH _
      omega
    · dsimp only
      rw [gZ]
      show aY _ (0,0)++_=_
      rw [Nat.add_zero]
      refine Eq.trans (congrArg _ hx) ?_
      simp [aY]
  | succ k ih=>
    intro hk
    have hk : k+1<xs.length:=hk
    have:=uU (ih (by omega)) (hraw hk)
    rw [List.take_succ_eq_append_getElem hk,List.foldl_append]
    exact this
def okF (f : List (List Bt)) : Prop:=∃ a tl,f=a::tl∧bk a=false∧(∀ x ∈ tl,bk x=true)∧∀ x ∈ f,dO x∧aG x≠[]
theorem s7 (H : List (List (List Bt))) : ∀ (tl q : List (List Bt)),(∀ x ∈ tl,bk x=true)→tl.foldl om (H++[q])=H++[q++tl]
  | [],q,_=>by simp
  | x::tl,q,h=>by
    rw [List.foldl_cons,oW H q (h x List.mem_cons_self),s7 H tl (q++[x]) (fun y hy=>h y (List.mem_cons_of_mem _ hy))]
    simp
theorem s8 : ∀ (fs G : List (List (List Bt))),(∀ f ∈ fs,okF f)→fs.flatten.foldl om G=G++fs
  | [],G,_=>by simp
  | f::fs,G,h=>by
    obtain ⟨a,tl,rfl,ha,htl,_⟩:=h f List.mem_cons_self
    rw [List.flatten_cons,List.foldl_append,List.foldl_cons,me G ha,s7 G tl [a] htl,s8 fs _ (fun y hy=>h y (List.mem_cons_of_mem _ hy))]
    simp
theorem s9 : ∀ (tl : List (List Bt)) (G : List (List (List Bt))),G≠[]→(∀ f ∈ G,okF f)→(∀ x ∈ tl,dO x∧aG x≠[])→tl.foldl om G≠[]∧(∀ f ∈ tl.foldl om G,okF f)∧(tl.foldl om G).flatten=G.flatten++tl
  | [],G,h1,h2,_=>⟨h1,h2,by simp⟩
  | x::tl,G,h1,h2,h3=>by
    rw [List.foldl_cons]
    have hx:=h3 x List.mem_cons_self
    have key : om G x≠[]∧(∀ f ∈ om G x,okF f)∧(om G x).flatten=G.flatten++[x]:=by
      cases hb : bk x with
      | false=>
        rw [me G hb]
        refine ⟨by simp,fun f hf=>?_,by simp⟩
        rcases List.mem_append.1 hf with hf | hf
        · exact h2 f hf
        · obtain rfl:=List.mem_singleton.1 hf
          exact ⟨x,[],rfl,hb,by simp,fun y hy=>by obtain rfl:=List.mem_singleton.1 hy;exact hx⟩
      | true=>
        obtain ⟨H,q,rfl⟩ : ∃ H q,G=H++[q]:=⟨G.dropLast,G.getLast h1,(List.dropLast_concat_getLast h1).symm⟩
        rw [oW H q hb]
        refine ⟨by simp,fun f hf=>?_,by simp⟩
        rcases List.mem_append.1 hf with hf | hf
        · exact h2 f (List.mem_append_left _ hf)
        · obtain rfl:=List.mem_singleton.1 hf
          obtain ⟨a,tl',rfl,ha,htl,hall⟩:=h2 q (List.mem_append_right _ List.mem_cons_self)
          refine ⟨a,tl'++[x],rfl,ha,fun y hy=>?_,fun y hy=>?_⟩
          · rcases List.mem_append.1 hy with hy | hy
            · exact htl y hy
            · obtain rfl:=List.mem_singleton.1 hy
              exact hb
          · rcases List.mem_append.1 hy with hy | hy
            · exact hall y hy
            · obtain rfl:=List.mem_singleton.1 hy
              exact hx
    obtain ⟨k1,k2,k3⟩:=s9 tl _ key.1 key.2.1 (fun y hy=>h3 y (List.mem_cons_of_mem _ hy))
    refine ⟨k1,k2,?_⟩
    rw [k3,key.2.2]
    simp
theorem tc {fs : List (List (List Bt))} (h : ∀ f ∈ fs,okF f) : ∀ x ∈ fs.flatten,dO x∧aG x≠[]:=by
  intro x hx
  obtain ⟨f,hf,hx⟩:=List.mem_flatten.1 hx
  obtain ⟨_,_,_,_,_,hall⟩:=h f hf
  exact hall x hx
theorem qb {fs : List (List (List Bt))} (h : ∀ f ∈ fs,okF f) (hne : fs≠[]) : (aZ fs.flatten.flatten).map (aY fs.flatten.flatten)=fs.map List.flatten:=by
  obtain ⟨f0,fr,rfl⟩ : ∃ a b,fs=a::b:=by cases fs with | nil=>exact absurd rfl hne | cons a b=>exact ⟨a,b,rfl⟩
  have hl:=tc h
  obtain ⟨a,tl,rfl,ha,_,_⟩:=h f0 List.mem_cons_self
  have hlen:=mc _ (fun x hx=>(hl x hx).1)
  have hpos : 0<((a::tl)::fr).flatten.length:=by simp
  have ht:=eP _ (fun x hx=>(hl x hx).1) [] hpos
  rw [List.append_nil] at ht
  have ht0 : bR ((a::tl)::fr).flatten.flatten 0=aG a:=ht
  have ha' : cE ((aG a).getD 0 0)=false:=ha
  unfold aZ
  rw [hlen,ht0,ha',if_neg (by simp)]
  obtain ⟨k,hk⟩ : ∃ k,((a::tl)::fr).flatten.length=k+1:=⟨_,(Nat.succ_pred_eq_of_pos hpos).symm⟩
  have h0 : ∀ x ∈ ((a::tl)::fr).flatten.head?,bk x=false:=by
    intro x hx
    obtain rfl : a=x:=by simpa using hx
    exact ha
  obtain ⟨g,p,H,q,h1,h2,_,h3,h4⟩:=vW _ (fun x hx=>(hl x hx).1) h0 k (by omega)
  rw [hk]
  rw [List.take_of_length_le (by omega),s8 _ [] h,List.nil_append] at h2
  rw [h1,List.map_append,h3]
  conv=>rhs;rw [h2,List.map_append]
  rw [List.map_cons,List.map_nil,List.map_cons,List.map_nil,h4]
theorem td {g : List Bt} (h : aG g=[]) (h0 : g≠[]) : dO g:=by
  unfold aG at h
  split at h
  · rename_i h1
    have e : g=g.dropLast++[10]:=by
      have h3:=List.dropLast_concat_getLast h0
      rw [List.getLast?_eq_some_getLast h0] at h1
      rw [← Option.some.inj h1]
      exact h3.symm
    split at h
    · rename_i h2
      generalize g.dropLast=d at *
      have hd : d≠[]:=by rintro rfl;cases h2
      have e2:=List.dropLast_concat_getLast hd
      rw [List.getLast?_eq_some_getLast hd] at h2
      rw [h,Option.some.inj h2] at e2
      exact ⟨d,e,by rw [← e2];intro c hc;obtain rfl:=List.mem_singleton.1 hc;decide⟩
    · exact ⟨[],by rw [h] at e;exact e,by simp⟩
  · exact absurd h h0
theorem parse {fs : List (List (List Bt))} (h : ∀ f ∈ fs,okF f) (hne : fs≠[]) {g body l : List Bt} (hw : aG g=[]) (h0 : g≠[]) (hl : l=fs.flatten.flatten++(g++body)) :
    br l fs.flatten.length∧l.take (au l fs.flatten.length)=fs.flatten.flatten∧(cc l fs.flatten.length).map (aY (l.take (au l fs.flatten.length)))=fs.map List.flatten∧bO l fs.flatten.length=g∧l.drop (au l (fs.flatten.length+1))=body:=by
  have hg:=td hw h0
  have hln:=tc h
  have hall : ∀ x ∈ fs.flatten++[g],dO x:=by
    intro x hx
    rcases List.mem_append.1 hx with hx | hx
    · exact (hln x hx).1
    · obtain rfl:=List.mem_singleton.1 hx
      exact hg
  have e : l=(fs.flatten++[g]).flatten++body:=by rw [hl];simp
  have hlt : fs.flatten.length<(fs.flatten++[g]).length:=by simp
  have hat:=j6 _ hall body fs.flatten.length (by omega)
  have hat1:=j6 _ hall body (fs.flatten.length+1) (by simp)
  have hr:=js _ hall body hlt
  have ht:=eP _ hall body hlt
  rw [← e] at hat hat1 hr ht
  rw [List.getElem_append_right (Nat.le_refl _)] at hr ht
  simp only [Nat.sub_self,List.getElem_cons_zero] at hr ht
  rw [List.take_left] at hat
  rw [List.take_of_length_le (by simp)] at hat1
  have htk : l.take (au l fs.flatten.length)=fs.flatten.flatten:=by rw [hat,hl,List.take_left]
  refine ⟨⟨?_,?_,?_⟩,htk,?_,?_,?_⟩
  · have:=nG _ hall body hlt
    rw [← e] at this
    exact this
  · rw [ht];exact hw
  · intro j hj
    have:=eP _ hall body (j:=j) (by rw [List.length_append];omega)
    rw [← e] at this
    rw [this,List.getElem_append_left hj]
    exact (hln _ (List.getElem_mem hj)).2
  · unfold cc
    rw [htk]
    exact qb h hne
  · unfold bO
    rw [hr,ht,hw]
    rfl
  · rw [hat1,e,List.drop_left]
theorem nH (l : List Bt) : ∀ k,k<(aM l).length→∃ xs : List (List Bt),xs.length=k∧(∀ x ∈ xs,dO x)∧l.take (au l k)=xs.flatten
  | 0,_=>⟨[],rfl,by simp,by simp [au]⟩
  | k+1,hk=>by
    obtain ⟨xs,h1,h2,h3⟩:=nH l k (by omega)
    have hlt:=(dj l (k+1)).1 hk
    have hat : au l (k+1)=au l k+aH (l.drop (au l k)):=rfl
    have hdl : (l.drop (au l k)).length=l.length - au l k:=List.length_drop
    obtain ⟨p,r,hd,hp,htw⟩ : ∃ p r,l.drop (au l k)=p++10::r∧(∀ c ∈ p,c≠10)∧(l.drop (au l k)).takeWhile (· != 10)=p:=by
      rcases lV (l.drop (au l k)) with h | ⟨h,htw⟩
      · exact h
      · exfalso
        have : aH (l.drop (au l k))=(l.drop (au l k)).length:=by
          unfold aH
          rw [htw,if_neg (by omega)]
        omega
    have hrw : aH (l.drop (au l k))=(p++[10]).length:=by
      rw [hd,show p++10::r=(p++[10])++r by simp]
      exact oV ⟨p,rfl,hp⟩ r
    refine ⟨xs++[p++[10]],by simp [h1],?_,?_⟩
    · intro x hx
      rcases List.mem_append.1 hx with hx | hx
      · exact h2 x hx
      · obtain rfl:=List.mem_singleton.1 hx
        exact ⟨p,rfl,hp⟩
    · rw [hat,hrw,List.take_add,h3,hd,show p++10::r=(p++[10])++r by simp,List.take_left]
      simp
theorem mg {l : List Bt} {k : Nat} (hg : br l k) (hF : cc l k≠[]) : ∃ fs : List (List (List Bt)),fs≠[]∧(∀ f ∈ fs,okF f)∧l.take (au l k)=fs.flatten.flatten∧(cc l k).map (aY (l.take (au l k)))=fs.map List.flatten∧aG (bO l k)=[]∧bO l k≠[]:=by
  obtain ⟨xs,h1,h2,h3⟩:=nH l k hg.1
  have htx : ∀ x ∈ xs,dO x∧aG x≠[]:=by
    intro x hx
    refine ⟨h2 x hx,?_⟩
    obtain ⟨j,hj,rfl⟩:=List.getElem_of_mem hx
    have:=eP xs h2 (l.drop (au l k)) hj
    rw [← h3,List.take_append_drop] at this
    rw [← this]
    exact hg.2.2 j (by omega)
  have hend : bO l k=(l.drop (au l k)).take (aH (l.drop (au l k))):=by
    unfold bO
    rw [hg.2.1]
    rfl
  have hlt:=(dj l k).1 hg.1
  have hdn : l.drop (au l k)≠[]:=by rw [ne_eq,List.drop_eq_nil_iff];omega
  have hF' : aZ xs.flatten≠[]:=by
    unfold cc at hF
    rw [h3] at hF
    exact hF
  have hxs : ∃ a tl,xs=a::tl∧bk a=false:=by
    cases xs with
    | nil=>exact absurd rfl hF'
    | cons a tl=>
      refine ⟨a,tl,rfl,?_⟩
      rw [Bool.eq_false_iff]
      intro hb
      apply hF'
      have ht:=eP (a::tl) h2 [] (j:=0) (by simp)
      rw [List.append_nil] at ht
      have ht : bR (a::tl).flatten 0=aG a:=ht
      unfold aZ
      rw [ht]
      exact if_pos (.inr hb)
  obtain ⟨a,tl,rfl,ha⟩:=hxs
  have key:=s9 tl [[a]] (by simp) (fun f hf=>by
    obtain rfl:=List.mem_singleton.1 hf
    exact ⟨a,[],rfl,ha,by simp,fun y hy=>by obtain rfl:=List.mem_singleton.1 hy;exact htx _ List.mem_cons_self⟩) (fun x hx=>htx x (List.mem_cons_of_mem _ hx))
  obtain ⟨k1,k2,k3⟩:=key
  have k3 : (tl.foldl om [[a]]).flatten=a::tl:=by rw [k3];rfl
  refine ⟨_,k1,k2,by rw [k3];exact h3,?_,?_,?_⟩
  · unfold cc
    rw [h3]
    have:=qb k2 k1
    rw [k3] at this
    exact this
  · rw [hend]
    exact hg.2.1
  · rw [hend]
    intro h
    have:=fj hdn
    rw [List.take_eq_nil_iff] at h
    rcases h with h | h
    · omega
    · exact hdn h
end Rw
end
section
open Sl bV eu
namespace Rw
theorem tf (m : Int) (k : Nat) (c : Bt) : bq m k (bq m k c)=bq m k c:=by
  unfold bq
  generalize jV m k=b
  revert c
  cases b <;> decide +kernel
theorem qc (m : Int) (k : Nat) (c : Bt) : (bq m k c=10↔c=10)∧(bq m k c=58↔c=58)∧cE (bq m k c)=cE c:=by
  unfold bq cE
  generalize jV m k=b
  revert c
  cases b <;> decide +kernel
theorem tg (m : Int) (l : List Bt) : ∀ k,k≤l.length→ji m l k=(l.take k).mapIdx (bq m)++l.drop k
  | 0,_=>rfl
  | k+1,h=>by
    have ih:=tg m l k (by omega)
    have hk : k<l.length:=h
    have hl : ((l.take k).mapIdx (bq m)).length=k:=by simp;omega
    rw [ji,ih,List.drop_eq_getElem_cons hk,List.set_append_right _ _ (by omega),hl,Nat.sub_self,List.take_succ_eq_append_getElem hk,List.mapIdx_append]
    have hg : ((l.take k).mapIdx (bq m)++l[k]::l.drop (k+1)).getD k 0=l[k]:=by
      rw [List.getD_eq_getElem?_getD,List.getElem?_append_right (by omega),hl,Nat.sub_self]
      rfl
    rw [hg]
    have hk2 : (l.take k).length=k:=by rw [List.length_take];omega
    rw [hk2]
    simp [← List.drop_eq_getElem_cons hk]
    rw [List.drop_eq_getElem_cons hk]
    rfl
theorem uV {n u r : List Bt} (hn : ∀ c ∈ n,c≠58∧c≠10) (hu : ∀ c ∈ u,c≠10) : aQ (n++58::(u++10::r))=n:=by
  have h1 : (n++58::(u++10::r)).takeWhile (· != 10)=n++58::u:=by
    have:=vV (n++58::u) r (by
      intro c hc
      rcases List.mem_append.1 hc with hc | hc
      · exact (hn c hc).2
      · rcases List.mem_cons.1 hc with rfl | hc
        · decide
        · exact hu c hc)
    rw [← this]
    simp
  have h2 : (n++58::u).takeWhile (· != 58)=n:=by
    rw [List.takeWhile_append_of_pos (fun c hc=>by simpa using (hn c hc).1)]
    simp
  unfold aQ
  rw [h1]
  unfold fi
  rw [h2,if_pos (by simp)]
theorem qd : ∀ t : List Bt,(∀ c ∈ t,c≠58)→t.takeWhile (· != 58)=t
  | [],_=>rfl
  | c::t,h=>by
    rw [List.takeWhile_cons,if_pos (by simpa using h c List.mem_cons_self),qd t (fun d hd=>h d (List.mem_cons_of_mem _ hd))]
theorem qM {t r : List Bt} (ht : ∀ c ∈ t,c≠10) (h : ∀ c ∈ t,c≠58) : aQ (t++10::r)=[]:=by
  have h2 : t.takeWhile (· != 58)=t:=qd t h
  unfold aQ
  rw [vV t r ht]
  unfold fi
  rw [h2,if_neg (by omega)]
theorem nI (m : Int) {n u r : List Bt} (hn : ∀ c ∈ n,c≠58∧c≠10) (hu : ∀ c ∈ u,c≠10) : bP m (n++58::(u++10::r))=n.mapIdx (bq m)++58::(u++10::r):=by
  unfold bP
  rw [uV hn hu,tg m _ _ (by simp),List.take_left,List.drop_left]
theorem j7 (x : List Bt) : ∃ e,x=aG x++e∧∀ c ∈ e,c=10∨c=13:=by
  unfold aG
  split
  · rename_i h
    have h0 : x≠[]:=by rintro rfl;cases h
    have e1:=List.dropLast_concat_getLast h0
    rw [List.getLast?_eq_some_getLast h0] at h
    rw [Option.some.inj h] at e1
    split
    · rename_i h2
      have hd : x.dropLast≠[]:=by intro e;rw [e] at h2;cases h2
      have e2:=List.dropLast_concat_getLast hd
      rw [List.getLast?_eq_some_getLast hd] at h2
      rw [Option.some.inj h2] at e2
      refine ⟨[13,10],?_,by simp⟩
      rw [← e2] at e1
      rw [show ([13,10] : List Bt)=[13]++[10] from rfl,← List.append_assoc]
      exact e1.symm
    · exact ⟨[10],e1.symm,by simp⟩
  · exact ⟨[],by simp,by simp⟩
theorem vt {x : List Bt} (h : aG x≠[]) : bk x=cE (x.getD 0 0):=by
  obtain ⟨e,h1,_⟩:=j7 x
  unfold bk
  congr 1
  generalize aG x=y at h h1
  subst h1
  cases y with
  | nil=>exact absurd rfl h
  | cons c y=>rfl
theorem qe : ∀ t : List Bt,(∃ n u,t=n++58::u∧∀ c ∈ n,c≠58)∨∀ c ∈ t,c≠58
  | []=>.inr (by simp)
  | c::t=>by
    by_cases hc : c=58
    · subst hc
      exact .inl ⟨[],t,rfl,by simp⟩
    · rcases qe t with ⟨n,u,rfl,h⟩ | h
      · exact .inl ⟨c::n,u,rfl,fun d hd=>by
          rcases List.mem_cons.1 hd with rfl | hd
          · exact hc
          · exact h d hd⟩
      · exact .inr fun d hd=>by
          rcases List.mem_cons.1 hd with rfl | hd
          · exact hc
          · exact h d hd
theorem uW {m : Int} {n : List Bt} {c : Bt} (h : c ∈ n.mapIdx (bq m)) : ∃ k d,d ∈ n∧c=bq m k d:=by
  obtain ⟨k,hk,rfl⟩:=List.mem_mapIdx.1 h
  exact ⟨k,_,List.getElem_mem hk,rfl⟩
theorem uX (m : Int) (n : List Bt) : (n.mapIdx (bq m)).mapIdx (bq m)=n.mapIdx (bq m):=by
  apply List.ext_getElem?
  intro i
  simp only [List.getElem?_mapIdx,Option.map_map]
  congr 1
  funext c
  exact tf m i c
theorem th (m : Int) {f : List (List Bt)} (h : okF f) : ∃ f',okF f'∧f'.flatten=bP m f.flatten∧bP m f'.flatten=f'.flatten:=by
  obtain ⟨a,tl,rfl,ha,htl,hall⟩:=h
  obtain ⟨⟨t,rfl,ht⟩,hne⟩:=hall a List.mem_cons_self
  rcases qe t with ⟨n,u,rfl,hn⟩ | hno
  · have hn2 : ∀ c ∈ n,c≠58∧c≠10:=fun c hc=>⟨hn c hc,ht c (by simp [hc])⟩
    have hu : ∀ c ∈ u,c≠10:=fun c hc=>ht c (by simp [hc])
    have hn3 : ∀ c ∈ n.mapIdx (bq m),c≠58∧c≠10:=by
      intro c hc
      obtain ⟨k,d,hd,rfl⟩:=uW hc
      have h2:=qc m k d
      exact ⟨fun e=>(hn2 d hd).1 (h2.2.1.1 e),fun e=>(hn2 d hd).2 (h2.1.1 e)⟩
    have e1 : ∀ n' : List Bt,((n'++58::u++[10])::tl).flatten=n'++58::(u++10::tl.flatten):=by intro n';simp
    have hw : aG (n.mapIdx (bq m)++58::u++[10])≠[]:=by
      intro hw
      obtain ⟨e,h1,h2⟩:=j7 (n.mapIdx (bq m)++58::u++[10])
      rw [hw,List.nil_append] at h1
      have:=h2 58 (by rw [← h1];simp)
      exact absurd this (by decide)
    refine ⟨(n.mapIdx (bq m)++58::u++[10])::tl,⟨_,_,rfl,?_,htl,?_⟩,?_,?_⟩
    · rw [vt hw]
      rw [vt hne] at ha
      rw [← ha]
      cases n with
      | nil=>rfl
      | cons c n=>
      rw [List.mapIdx_cons]
      exact (qc m 0 c).2.2
    · intro x hx
      rcases List.mem_cons.1 hx with rfl | hx
      · refine ⟨⟨_,rfl,fun c hc=>?_⟩,hw⟩
        rcases List.mem_append.1 hc with hc | hc
        · exact (hn3 c hc).2
        · rcases List.mem_cons.1 hc with rfl | hc
          · decide
          · exact hu c hc
      · exact hall x (List.mem_cons_of_mem _ hx)
    · rw [e1,e1,nI m hn2 hu]
    · rw [e1,nI m hn3 hu,uX]
  · have e : bP m ((t++[10])::tl).flatten=((t++[10])::tl).flatten:=by
      have e0 : ((t++[10])::tl).flatten=t++10::tl.flatten:=by simp
      unfold bP
      rw [e0,qM ht hno]
      rfl
    exact ⟨(t++[10])::tl,⟨_,_,rfl,ha,htl,hall⟩,e.symm,e⟩
theorem tj (xs : List (List Bt)) (h : ∀ x ∈ xs,dO x) : ∀ j,j≤xs.length→gm xs.flatten j=((xs.take j).map aG).flatten
  | 0,_=>rfl
  | j+1,hj=>by
    have hj : j<xs.length:=hj
    have ht:=eP xs h [] hj
    rw [List.append_nil] at ht
    rw [gm,tj xs h j (by omega),ht,List.take_succ_eq_append_getElem hj,List.map_append,List.flatten_append]
    simp
theorem nJ (xs : List (List Bt)) (h : ∀ x ∈ xs,dO x) : bG xs.flatten=(xs.map aG).flatten:=by
  unfold bG
  rw [mc xs h,tj xs h _ (Nat.le_refl _),List.take_length]
theorem nK (xs : List (List Bt)) (z : List Bt) (h : ∀ x ∈ xs++[z],dO x) : gY (xs++[z]).flatten=z.drop (aG z).length:=by
  have h1:=mc _ h
  have hl : xs.length<(xs++[z]).length:=by simp
  have hr:=js _ h [] hl
  have ht:=eP _ h [] hl
  rw [List.append_nil] at hr ht
  rw [List.getElem_append_right (Nat.le_refl _)] at hr ht
  simp only [Nat.sub_self,List.getElem_cons_zero] at hr ht
  unfold gY
  rw [h1,List.length_append]
  show bO _ xs.length=_
  unfold bO
  rw [hr,ht]
theorem lz (m : Int) (t : List Bt) (fr : Nat) (hf : ∀ i,fr≤i→i<t.length→0<i) : ∀ i,i≤t.length→∃ (ls : List (List Bt)) (cur : List Bt),(ei m t fr i).2=(ls.map (·++[13,10])).flatten++cur∧ls.flatten++cur=t.take i∧(0<i→cur≠[])∧(i=0→ls=[])∧(∀ p ∈ ls,p≠[])∧∀ p ∈ (ls++[cur]).tail,cE (p.getD 0 0)=true
  | 0,_=>⟨[],[],rfl,rfl,fun h=>absurd h (by decide),fun _=>rfl,by simp,by simp⟩
  | i+1,hi=>by
    have hi : i<t.length:=hi
    obtain ⟨ls,cur,h1,h2,h3,h4,h5,h6⟩:=lz m t fr hf i (by omega)
    have hg : t.getD i 0=t[i]:=by rw [List.getD_eq_getElem?_getD,List.getElem?_eq_getElem hi];rfl
    have htk : t.take (i+1)=t.take i++[t[i]]:=List.take_succ_eq_append_getElem hi
    have plain : ∀ n,(ei m t fr (i+1))=(n,(ei m t fr i).2++[t.getD i 0])→∃ (ls : List (List Bt)) (cur : List Bt),(ei m t fr (i+1)).2=(ls.map (·++[13,10])).flatten++cur∧ls.flatten++cur=t.take (i+1)∧(0<i+1→cur≠[])∧(i+1=0→ls=[])∧(∀ p ∈ ls,p≠[])∧∀ p ∈ (ls++[cur]).tail,cE (p.getD 0 0)=true:=by
      intro n hn
      refine ⟨ls,cur++[t[i]],?_,?_,by simp,by omega,h5,?_⟩
      · rw [hn,h1,hg];simp
      · rw [htk,← h2];simp
      · intro p hp
        cases ls with
        | nil=>cases hp
        | cons q ls=>
          have hc : cur≠[]:=h3 (Nat.pos_of_ne_zero fun e=>by cases h4 e)
          have hp : p ∈ ls++[cur++[t[i]]]:=hp
          rcases List.mem_append.1 hp with hp | hp
          · exact h6 p (List.mem_append_left _ hp)
          · obtain rfl:=List.mem_singleton.1 hp
            have:=h6 cur (List.mem_append_right _ List.mem_cons_self)
            cases cur with
            | nil=>exact absurd rfl hc
            | cons c cur=>exact this
    by_cases hs : wj t fr i=true
    · by_cases hb : jV m (ei m t fr i).1=true
      · have hsp:=hs
        unfold wj at hsp
        rw [Bool.and_eq_true,Bool.and_eq_true,decide_eq_true_eq,hg] at hsp
        have hc : cur≠[]:=h3 (hf i hsp.1.1 hi)
        refine ⟨ls++[cur],[t[i]],?_,?_,by simp,by omega,?_,?_⟩
        · rw [ei,if_pos hs,if_pos hb,h1,hg]
          simp
        · rw [htk,← h2]
          simp
        · intro p hp
          rcases List.mem_append.1 hp with hp | hp
          · exact h5 p hp
          · obtain rfl:=List.mem_singleton.1 hp
            exact hc
        · intro p hp
          have hp : p ∈ (ls++[cur]).tail++[[t[i]]]:=by
            rw [List.tail_append_of_ne_nil (by simp)] at hp
            exact hp
          rcases List.mem_append.1 hp with hp | hp
          · exact h6 p hp
          · obtain rfl:=List.mem_singleton.1 hp
            exact hsp.1.2
      · exact plain _ (by rw [ei,if_pos hs,if_neg hb];rfl)
    · exact plain _ (by rw [ei,if_neg hs])
theorem tq (t : List Bt) : ∀ i,iU t≤i→i<t.length→0<i:=by
  intro i h hi
  unfold iU at h
  split at h <;> omega
theorem nL {x : List Bt} (h : dO x) (h0 : aG x≠[]) : (x.drop (aG x).length=[13,10]∨(x.drop (aG x).length=[10]∧(aG x).getLast?≠some 13))∧x=aG x++x.drop (aG x).length∧∀ c ∈ aG x,c≠10:=by
  obtain ⟨t,rfl,ht⟩:=h
  by_cases h13 : t.getLast?=some 13
  · have hd : t≠[]:=by rintro rfl;cases h13
    have e2:=List.dropLast_concat_getLast hd
    rw [List.getLast?_eq_some_getLast hd] at h13
    rw [Option.some.inj h13] at e2
    generalize t.dropLast=y at e2
    subst e2
    have e : y++[13]++[10]=y++[13,10]:=by simp
    rw [e,dU,List.drop_left]
    exact ⟨.inl rfl,rfl,fun c hc=>ht c (List.mem_append_left _ hc)⟩
  · rw [gN h13,List.drop_left]
    exact ⟨.inr ⟨rfl,h13⟩,rfl,ht⟩
theorem nM (a : List Bt) {b : List Bt} (h : b≠[]) : (a++b).getLast?=b.getLast?:=by
  rw [List.getLast?_append,List.getLast?_eq_some_getLast h]
  rfl
theorem uY (m : Int) {f : List (List Bt)} (h : okF f) : ∃ f',okF f'∧f'.flatten=bw m f.flatten∧bw m f'.flatten=f'.flatten:=by
  obtain ⟨a,tl,rfl,ha,htl,hall⟩:=h
  obtain ⟨xs,z,hxz⟩ : ∃ xs z,a::tl=xs++[z]:=⟨(a::tl).dropLast,(a::tl).getLast (by simp),(List.dropLast_concat_getLast (by simp)).symm⟩
  have hln : ∀ x ∈ a::tl,dO x:=fun x hx=>(hall x hx).1
  obtain ⟨hz1,hz2⟩:=hall z (by rw [hxz];simp)
  obtain ⟨he,_,hz10⟩:=nL hz1 hz2
  have hj:=nJ _ hln
  have hlast : gY (a::tl).flatten=z.drop (aG z).length:=by rw [hxz];exact nK xs z (by rw [← hxz];exact hln)
  obtain ⟨t,htd⟩ : ∃ t,((a::tl).map aG).flatten=t:=⟨_,rfl⟩
  obtain ⟨e,hed⟩ : ∃ e,z.drop (aG z).length=e:=⟨_,rfl⟩
  rw [hed] at he hlast
  rw [htd] at hj
  have ht10 : ∀ c ∈ t,c≠10:=by
    intro c hc
    rw [← htd] at hc
    obtain ⟨y,hy,hc⟩:=List.mem_flatten.1 hc
    obtain ⟨x,hx,rfl⟩:=List.mem_map.1 hy
    exact (nL (hall x hx).1 (hall x hx).2).2.2 c hc
  have ha0 : aG a≠[]:=(hall a List.mem_cons_self).2
  have hth : ∃ c r,t=c::r∧cE c=false:=by
    rw [← htd,List.map_cons,List.flatten_cons]
    have hb : cE ((aG a).getD 0 0)=false:=ha
    cases hw : aG a with
    | nil=>exact absurd hw ha0
    | cons c r=>
      rw [hw] at hb
      exact ⟨c,_,rfl,hb⟩
  obtain ⟨c0,r0,ht0,hc0⟩:=hth
  have hpos : 0<t.length:=by rw [ht0];simp
  have htl2 : t.getLast?=(aG z).getLast?:=by
    rw [← htd,hxz,List.map_append,List.flatten_append,List.map_cons,List.map_nil,List.flatten_cons,List.flatten_nil,List.append_nil,nM _ hz2]
  obtain ⟨ls,cur,h1,h2,h3,h4,h5,h6⟩:=lz m t (iU t) (tq t) t.length (Nat.le_refl _)
  rw [List.take_length] at h2
  have hc:=h3 hpos
  have hcl : cur.getLast?=(aG z).getLast?:=by
    rw [← htl2,← h2,nM _ hc]
  have hcw : aG (cur++e)=cur:=by
    rcases he with he | ⟨he,h13⟩
    · rw [he];exact dU cur
    · rw [he];exact gN (by rw [hcl];exact h13)
  have hp10 : ∀ p ∈ ls++[cur],∀ c ∈ p,c≠10:=by
    intro p hp c hc
    refine ht10 c ?_
    rw [← h2]
    have e : ls.flatten++cur=(ls++[cur]).flatten:=by simp
    rw [e]
    exact List.mem_flatten.2 ⟨p,hp,hc⟩
  have hlc : dO (cur++e):=by
    rcases he with he | ⟨he,_⟩
    · refine ⟨cur++[13],by rw [he];simp,fun c hc=>?_⟩
      rcases List.mem_append.1 hc with hc | hc
      · exact hp10 cur (by simp) c hc
      · obtain rfl:=List.mem_singleton.1 hc
        decide
    · exact ⟨cur,by rw [he],hp10 cur (by simp)⟩
  have hlp : ∀ p ∈ ls,dO (p++[13,10]):=by
    intro p hp
    refine ⟨p++[13],by simp,fun c hc=>?_⟩
    rcases List.mem_append.1 hc with hc | hc
    · exact hp10 p (by simp [hp]) c hc
    · obtain rfl:=List.mem_singleton.1 hc
      decide
  have hall' : ∀ x ∈ ls.map (·++[13,10])++[cur++e],dO x∧aG x≠[]:=by
    intro x hx
    rcases List.mem_append.1 hx with hx | hx
    · obtain ⟨p,hp,rfl⟩:=List.mem_map.1 hx
      exact ⟨hlp p hp,by rw [dU];exact h5 p hp⟩
    · obtain rfl:=List.mem_singleton.1 hx
      exact ⟨hlc,by rw [hcw];exact hc⟩
  have hwm : (ls.map (·++[13,10])).map aG=ls:=by
    rw [List.map_map]
    conv=>rhs;rw [← List.map_id ls]
    exact List.map_congr_left fun p _=>dU p
  have hfl : (ls.map (·++[13,10])++[cur++e]).flatten=bw m (a::tl).flatten:=by
    unfold bw iM
    rw [hj,hlast,h1]
    simp
  have hj' : bG (ls.map (·++[13,10])++[cur++e]).flatten=t:=by
    rw [nJ _ (fun x hx=>(hall' x hx).1),List.map_append,hwm,List.flatten_append,← h2]
    simp [hcw]
  have hl' : gY (ls.map (·++[13,10])++[cur++e]).flatten=e:=by
    rw [nK _ _ (fun x hx=>(hall' x hx).1),hcw,List.drop_left]
  have hbk : ∀ x ∈ (ls.map (·++[13,10])++[cur++e]).tail,bk x=true:=by
    intro x hx
    cases ls with
    | nil=>cases hx
    | cons q ls=>
      have hx : x ∈ ls.map (·++[13,10])++[cur++e]:=hx
      rcases List.mem_append.1 hx with hx | hx
      · obtain ⟨p,hp,rfl⟩:=List.mem_map.1 hx
        unfold bk
        rw [dU]
        exact h6 p (List.mem_append_left _ hp)
      · obtain rfl:=List.mem_singleton.1 hx
        unfold bk
        rw [hcw]
        exact h6 cur (List.mem_append_right _ List.mem_cons_self)
  refine ⟨ls.map (·++[13,10])++[cur++e],?_,hfl,?_⟩
  · cases ls with
    | nil=>
      refine ⟨cur++e,[],rfl,?_,by simp,hall'⟩
      unfold bk
      rw [hcw]
      have h2 : cur=t:=h2
      rw [h2,ht0]
      exact hc0
    | cons q ls=>
      refine ⟨q++[13,10],ls.map (·++[13,10])++[cur++e],rfl,?_,hbk,hall'⟩
      unfold bk
      rw [dU]
      have hq:=h5 q List.mem_cons_self
      cases q with
      | nil=>exact absurd rfl hq
      | cons c q=>
        rw [ht0] at h2
        have h2 : c::(q++(ls.flatten++cur))=c0::r0:=by rw [← h2];simp
        cases h2
        exact hc0
  · conv=>rhs;rw [hfl]
    unfold bw
    rw [hj',hl',hj,hlast]
end Rw
end
section
set_option maxRecDepth 10000
open Sl bV
theorem tr {s : List bV.By} {i : Nat} (h : i<s.length) {n : Nat} {E : Env} {C : World→Prop} {dst : Option Tmp} {ty : TypeId} {pos : String} {aft : Array Edge} {g : Option (Nat × Bool)} {x y : Operand} (hx : ev E x=some (Z s)) (hy : ev E y=some (N i)) : OQ Tryd.prog n E C ⟨dst,.index 9 x y,ty,pos,aft,g⟩ (U8 (s.getD i 0)):=OQ.wH Tryd.underlying9 hx hy h
theorem nN (a b : List bV.By) {i : Nat} (ha : i<a.length) (hb : i<b.length) (h : (a.take i).map small=(b.take i).map small) (k : small (a.getD i 0)=small (b.getD i 0)) : (a.take (i+1)).map small=(b.take (i+1)).map small:=by
  rw [fe a ha,fe b hb,List.map_append,List.map_append,h,List.map_singleton,List.map_singleton,k]
theorem qN (a b : List bV.By) {i : Nat} (ha : i<a.length) (hb : i<b.length) (k : ¬ small (a.getD i 0)=small (b.getD i 0)) : bD a b=false:=by
  refine decide_eq_false fun h=>k ?_
  have:=congrArg (fun l=>l[i]?) h
  simp only [List.getElem?_map,List.getElem?_eq_getElem ha,List.getElem?_eq_getElem hb,Option.map_some,Option.some.injEq] at this
  rw [List.getD_eq_getElem?_getD,List.getD_eq_getElem?_getD,List.getElem?_eq_getElem ha,List.getElem?_eq_getElem hb]
  exact this
end
section
set_option maxRecDepth 10000
open Sl bV
theorem oX : aR Tryd.prog 34:=⟨_,Tryd.func34,rfl,by kernel_rfl⟩
theorem dZ : aR Tryd.prog 61:=⟨_,Tryd.func61,rfl,by kernel_rfl⟩
theorem OQ.wZ {P : Program} {n : Nat} {E : Env} {C : World→Prop} {dst : Option Tmp} {t t' ty : TypeId} {pos : String} {aft : Array Edge} {g : Option (Nat × Bool)} {x y : Operand} {a b : BitVec 8} (hx : ev E x=some (U8 a)) (hy : ev E y=some (U8 b)) (h : b.toNat≤a.toNat) : OQ P n E C ⟨dst,.binOp .sub t x y t',ty,pos,aft,g⟩ (U8 (a - b)):=
  OQ.bin hx hy rfl fun _=>fP (k:=.u8) (show IntKind.u8.wrap ((a.toNat : Int) - b.toNat)=((a - b).toNat : Int) by
    rw [BitVec.toNat_sub_of_le (by simpa [BitVec.le_def] using h),← Int.ofNat_sub h,rJ,Nat.mod_eq_of_lt (by have:=a.isLt;omega)])
set_option maxHeartbeats 4000000 in
theorem tu (s : List Bt) (fv : Value) (p : Bt→Bool) (w : World) (hF : lP Tryd.prog w fv p) (hl : s.length<9223372036854775808) : Calls Tryd.prog 34 [Z s,fv].toArray w fun e w'=>e=.returned (.bool (s.all p))∧Ext w w':=by
  refine enter (n:=18) Tryd.func34 rfl rfl rfl (aa.start w []) ?_
  repeat (first | refine JL.q (by first|(apply OQ.jf;exact Tryd.underlying9;rfl)|(apply OQ.move;rfl)|(apply OQ.assign;rfl)) rfl ?_ | refine JC.seq ?_ | refine JC.region ?_ | refine JC.block ?_ | refine JL.nil ?_ | refine JE.next ?_)
  refine JC.loop (fun i : Nat=>[(0,Z s),(1,fv),(7,N s.length),(8,N i)]) (fun _=>[]) (fun i=>s.length - i) (fun i=>i≤s.length∧(s.take i).all p=true) 0 ⟨Nat.zero_le _,rfl⟩ (by repeat (first | exact ax.nil | refine ax.cons _ _ _ rfl ?_)) (aA.refl _) ?_
  rintro i ⟨hi,ha⟩
  repeat (first | refine JL.q (by (apply OQ.ij;rfl;rfl)) rfl ?_ | refine JC.seq ?_ | refine JC.region ?_ | refine JL.nil ?_ | refine JE.next ?_)
  refine JC.cond rfl (fun h=>?_) (fun h=>?_)
  · have hi' : i<s.length:=of_decide_eq_true h
    clear h hi
    have hx:=rR p s 0 hi'
    have hbad:=uo p s 0 hi'
    rw [ha,Bool.true_and] at hx
    have i0:=fun {n : Nat} {E : Env} {C : World→Prop} {dst : Option Tmp} {ty : TypeId} {pos : String} {aft : Array Edge} {g : Option (Nat × Bool)} {x y : Operand}=>tr hi' (n:=n) (E:=E) (C:=C) (dst:=dst) (ty:=ty) (pos:=pos) (aft:=aft) (g:=g) (x:=x) (y:=y)
    generalize s.getD i 0=c at hx hbad i0
    cases h1 : p c
    · rw [hbad h1]
      repeat (first | refine JL.q (by first|(apply i0;rfl;rfl)|(apply OQ.vi;exact hF;rfl;rfl;exact h1)|(apply OQ.not;rfl)|(apply OQ.move;rfl)|(apply OQ.assign;rfl)) rfl ?_ | refine JC.seq ?_ | refine JC.region ?_ | refine JC.block ?_ | refine JC.skip ?_ | refine JL.nil ?_ | refine JE.next ?_)
      refine JC.cond rfl (fun _=>?_) (fun h=>by cases h)
      repeat (first | refine JL.q (by (apply OQ.assign;rfl)) rfl ?_ | refine JC.seq ?_ | refine JC.region ?_ | refine JL.nil ?_ | refine JE.next ?_)
      refine JC.ret ?_
      repeat (first | refine JE.av ?_ | refine JE.aI ?_)
      exact JE.aJ rfl (RV.tmp rfl) fun w' hw=>⟨rfl,hw.aC⟩
    · repeat (first | refine JL.q (by first|(apply i0;rfl;rfl)|(apply OQ.vi;exact hF;rfl;rfl;exact h1)|(apply OQ.not;rfl)|(apply OQ.move;rfl)|(apply OQ.assign;rfl)) rfl ?_ | refine JC.seq ?_ | refine JC.region ?_ | refine JC.block ?_ | refine JC.skip ?_ | refine JL.nil ?_ | refine JE.next ?_)
      refine JC.cond rfl (fun h=>by cases h) (fun _=>?_)
      repeat (first | refine JL.q (by first|(apply OQ.move;rfl)|(apply OQ.bH;rfl;rfl;exact (by (try simp only []);omega))) rfl ?_ | refine JC.region ?_ | refine JC.skip ?_ | refine JL.nil ?_ | refine JE.next ?_ | refine JE.aj ?_)
      exact JE.again (i:=i) (i+1) ⟨hi',by rw [hx,h1]⟩ (by omega) (by repeat (first | exact ax.nil | refine ax.cons _ _ _ rfl ?_)) (aA.refl _)
  · have hi' : ¬ i<s.length:=of_decide_eq_false h
    obtain rfl : i=s.length:=by omega
    clear h hi hi'
    rw [List.take_length] at ha
    rw [ha]
    repeat (first | refine JL.q (by (apply OQ.assign;rfl)) rfl ?_ | refine JC.seq ?_ | refine JC.region ?_ | refine JC.exit ?_ | refine JL.nil ?_ | refine JE.next ?_ | refine JE.aS ?_ | refine JE.bE ?_)
    refine JC.ret ?_
    exact JE.aJ rfl (RV.tmp rfl) fun w' hw=>⟨rfl,hw.aC⟩
theorem uZ : ∀ c : bV.By,iL c=((decide ((32 : Int)≤(c.toNat : Int)) && decide ((c.toNat : Int)≤126)) || decide (c=9)):=by
  have h : ∀ c : Fin 256,iL (BitVec.ofNat 8 c.val)=((decide ((32 : Int)≤((BitVec.ofNat 8 c.val).toNat : Int)) && decide (((BitVec.ofNat 8 c.val).toNat : Int)≤126)) || decide (BitVec.ofNat 8 c.val=9)):=by decide +kernel
  intro c
  simpa using h ⟨c.toNat,c.isLt⟩
theorem OQ.xS {P : Program} {n : Nat} {E : Env} {C : World→Prop} {dst : Option Tmp} {t t' ty : TypeId} {pos : String} {aft : Array Edge} {g : Option (Nat × Bool)} {x y : Operand} {a b : BitVec 8} {c : Bool} (hx : ev E x=some (U8 a)) (hy : ev E y=some (U8 b)) (h : decide (a=b)=c) : OQ P n E C ⟨dst,.binOp .eql t x y t',ty,pos,aft,g⟩ (.bool c):=h ▸ OQ.x8 hx hy
set_option maxHeartbeats 4000000 in
theorem oY (c : Bt) (w : World) : Calls Tryd.prog 35 [U8 c].toArray w fun e w'=>e=.returned (.bool (iL c))∧Ext w w':=by
  refine enter (n:=13) Tryd.func35 rfl rfl rfl (aa.start w []) ?_
  rw [uZ]
  cases h1 : decide ((32 : Int)≤(c.toNat : Int)) <;> cases h2 : decide ((c.toNat : Int)≤126) <;> cases h3 : decide (c=9)
  all_goals (repeat (first | refine JL.q (by first|(apply OQ.gE (b:=32);rfl;rfl;exact h1)|(apply OQ.rQ (b:=126);rfl;rfl;exact h2)|(apply OQ.xS (b:=9);rfl;rfl;exact h3)|(apply OQ.aP;rfl;rfl)|(apply OQ.bz;rfl;rfl)|(apply OQ.move;rfl)|(apply OQ.assign;rfl)) rfl ?_ | refine JC.seq ?_ | refine JC.region ?_ | refine JL.nil ?_ | refine JE.next ?_ | refine JL.aN rfl rfl ?_ | refine JL.cj rfl rfl rfl rfl ?_))
  all_goals exact JC.ret (JE.aJ rfl (RV.tmp rfl) fun w' hw=>⟨rfl,hw.aC⟩)
theorem oZ (w : World) : lP Tryd.prog w (.func (.func 35) #[] #[]) iL:=
  ⟨_,[],rfl,⟨_,Tryd.func35,rfl,by kernel_rfl⟩,fun c w' _=>oY c w'⟩
set_option maxHeartbeats 4000000 in
theorem j8 (s : List Bt) (w : World) : Calls Tryd.prog 18 [Z s].toArray w fun e w'=>e=.returned (.bool (oB s))∧Ext w w':=by
  refine enter (n:=16) Tryd.func18 rfl rfl rfl (aa.start w []) ?_
  have hv : oB s=((decide ((s.length : Int)≤8192) && decide (s=trim s)) && s.all iL):=by
    rw [uu,Bool.and_assoc]
    congr 1
    exact decide_eq_decide.2 (by omega)
  rw [hv]
  cases h1 : decide ((s.length : Int)≤8192)
  · cases h3 : s.all iL
    all_goals (repeat (first | refine JL.q (by first|(apply OQ.jf;exact Tryd.underlying9;rfl)|(apply OQ.rQ (b:=8192);rfl;rfl;exact h1)|(apply OQ.bz;rfl;rfl)|(apply OQ.move;rfl)|(apply OQ.assign;rfl)) rfl ?_ | refine JC.seq ?_ | refine JC.region ?_ | refine JL.nil ?_ | refine JE.next ?_ | refine JL.cj rfl rfl rfl rfl ?_))
    all_goals exact JC.ret (JE.aJ rfl (RV.tmp rfl) fun w' hw=>⟨rfl,hw.aC⟩)
  · have hl : s.length<9223372036854775808:=by have:=of_decide_eq_true h1;omega
    have cO:=fun w'=>tu s (.func (.func 35) #[] #[]) iL w' (oZ w') hl
    have cT:=fun w'=>qv s w' hl
    cases h2 : decide (s=trim s) <;> cases h3 : s.all iL
    all_goals (repeat (first | refine JL.q (by first|(apply OQ.jf;exact Tryd.underlying9;rfl)|(apply OQ.rQ (b:=8192);rfl;rfl;exact h1)|(apply OQ.aB (vs:=[Z s,Z [32,9]]);exact oE;rfl;exact (fun w' _=>cT w'))|(apply OQ.xM;rfl;rfl;exact h2)|(apply OQ.fR (vs:=[Z s,.func (.func 35) #[] #[]]);exact oX;rfl;exact cO;exact h3)|(apply OQ.aP;rfl;rfl)|(apply OQ.bz;rfl;rfl)|(apply OQ.move;rfl)|(apply OQ.assign;rfl)) rfl ?_ | refine JC.seq ?_ | refine JC.region ?_ | refine JL.nil ?_ | refine JE.next ?_ | refine JL.aN rfl rfl ?_ | refine JL.cj rfl rfl rfl rfl ?_))
    all_goals exact JC.ret (JE.aJ rfl (RV.tmp rfl) fun w' hw=>⟨rfl,hw.aC⟩)
theorem qO : ∀ c : bV.By,65≤c.toNat→c.toNat≤90→c - 65+97=small c:=by
  have h : ∀ c : Fin 256,65≤(BitVec.ofNat 8 c.val).toNat→(BitVec.ofNat 8 c.val).toNat≤90→BitVec.ofNat 8 c.val - 65+97=small (BitVec.ofNat 8 c.val):=by decide +kernel
  intro c
  simpa using h ⟨c.toNat,c.isLt⟩
set_option maxHeartbeats 4000000 in
theorem eR (c : Bt) (w : World) : Calls Tryd.prog 61 [U8 c].toArray w fun e w'=>e=.returned (U8 (small c))∧Ext w w':=by
  refine enter (n:=13) Tryd.func61 rfl rfl rfl (aa.start w []) ?_
  by_cases hb : 65≤c.toNat∧c.toNat≤90
  · have h1 : decide ((65 : Int)≤(c.toNat : Int))=true:=decide_eq_true (by omega)
    have h2 : decide ((c.toNat : Int)≤90)=true:=decide_eq_true (by omega)
    repeat (first | refine JL.q (by first|(apply OQ.gE (b:=65);rfl;rfl;exact h1)|(apply OQ.rQ (b:=90);rfl;rfl;exact h2)|(apply OQ.aP;rfl;rfl)|(apply OQ.move;rfl)|(apply OQ.assign;rfl)) rfl ?_ | refine JC.seq ?_ | refine JC.region ?_ | refine JL.nil ?_ | refine JE.next ?_ | refine JL.aN rfl rfl ?_)
    refine JC.cond rfl (fun _=>?_) (fun h=>by cases h)
    repeat (first | refine JL.q (by first|(apply OQ.wZ (b:=65);rfl;rfl;exact hb.1)|(apply OQ.xI (b:=97);rfl;rfl)|(apply OQ.move;rfl)|(apply OQ.assign;rfl)) rfl ?_ | refine JC.seq ?_ | refine JC.region ?_ | refine JL.nil ?_ | refine JE.next ?_)
    refine JC.ret ?_
    repeat (refine JE.av ?_)
    exact JE.aJ rfl (RV.tmp rfl) fun w' hw=>⟨by rw [qO c hb.1 hb.2],hw.aC⟩
  · have hs : small c=c:=if_neg hb
    rw [hs]
    cases h1 : decide ((65 : Int)≤(c.toNat : Int)) <;> cases h2 : decide ((c.toNat : Int)≤90)
    all_goals try (exfalso;have:=of_decide_eq_true h1;have:=of_decide_eq_true h2;omega)
    all_goals (repeat (first | refine JL.q (by first|(apply OQ.gE (b:=65);rfl;rfl;exact h1)|(apply OQ.rQ (b:=90);rfl;rfl;exact h2)|(apply OQ.aP;rfl;rfl)|(apply OQ.bz;rfl;rfl)|(apply OQ.move;rfl)|(apply OQ.assign;rfl)) rfl ?_ | refine JC.seq ?_ | refine JC.region ?_ | refine JL.nil ?_ | refine JE.next ?_ | refine JL.aN rfl rfl ?_ | refine JL.cj rfl rfl rfl rfl ?_))
    all_goals refine JC.cond rfl (fun h=>by cases h) (fun _=>?_)
    all_goals (repeat (first | refine JL.q (by first|(apply OQ.move;rfl)|(apply OQ.assign;rfl)) rfl ?_ | refine JC.seq ?_ | refine JC.region ?_ | refine JC.skip ?_ | refine JL.nil ?_ | refine JE.next ?_))
    all_goals exact JC.ret (JE.aJ rfl (RV.tmp rfl) fun w' hw=>⟨rfl,hw.aC⟩)
set_option maxHeartbeats 8000000 in
theorem fL (a b : List bV.By) (w : World) (hl : a.length<9223372036854775808) : Calls Tryd.prog 42 [Z a,Z b].toArray w fun e w'=>e=.returned (.bool (bD a b))∧Ext w w':=by
  refine enter (n:=26) Tryd.func42 rfl rfl rfl (aa.start w []) ?_
  cases h0 : decide ((a.length : Int)=(b.length : Int))
  · have hne : bD a b=false:=decide_eq_false fun h=>by
      have:=congrArg List.length h
      simp only [List.length_map] at this
      exact of_decide_eq_false h0 (by omega)
    rw [hne]
    repeat (first | refine JL.q (by first|(apply OQ.jf;exact Tryd.underlying9;rfl)|(apply OQ.xK;rfl;rfl;exact h0)|(apply OQ.move;rfl)|(apply OQ.assign;rfl)) rfl ?_ | refine JC.seq ?_ | refine JC.region ?_ | refine JL.nil ?_ | refine JE.next ?_)
    refine JC.cond rfl (fun _=>?_) (fun h=>by cases h)
    repeat (first | refine JL.q (by (apply OQ.assign;rfl)) rfl ?_ | refine JC.seq ?_ | refine JC.region ?_ | refine JL.nil ?_ | refine JE.next ?_)
    refine JC.ret ?_
    repeat (refine JE.av ?_)
    exact JE.aJ rfl (RV.tmp rfl) fun w' hw=>⟨rfl,hw.aC⟩
  · have hab : a.length=b.length:=by have:=of_decide_eq_true h0;omega
    repeat (first | refine JL.q (by first|(apply OQ.jf;exact Tryd.underlying9;rfl)|(apply OQ.xK;rfl;rfl;exact h0)|(apply OQ.move;rfl)|(apply OQ.assign;rfl)) rfl ?_ | refine JC.seq ?_ | refine JC.region ?_ | refine JL.nil ?_ | refine JE.next ?_)
    refine JC.cond rfl (fun h=>by cases h) (fun _=>?_)
    repeat (first | refine JL.q (by first|(apply OQ.jf;exact Tryd.underlying9;rfl)|(apply OQ.move;rfl)) rfl ?_ | refine JC.seq ?_ | refine JC.region ?_ | refine JC.block ?_ | refine JC.skip ?_ | refine JL.nil ?_ | refine JE.next ?_)
    refine JC.loop (fun i : Nat=>[(0,Z a),(1,Z b),(12,N a.length),(13,N i)]) (fun _=>[]) (fun i=>a.length - i) (fun i=>i≤a.length∧(a.take i).map small=(b.take i).map small) 0 ⟨Nat.zero_le _,rfl⟩ (by repeat (first | exact ax.nil | refine ax.cons _ _ _ rfl ?_)) (aA.refl _) ?_
    rintro i ⟨hi,ha⟩
    repeat (first | refine JL.q (by (apply OQ.ij;rfl;rfl)) rfl ?_ | refine JC.seq ?_ | refine JC.region ?_ | refine JL.nil ?_ | refine JE.next ?_)
    refine JC.cond rfl (fun h=>?_) (fun h=>?_)
    · have hi' : i<a.length:=of_decide_eq_true h
      have hi2 : i<b.length:=by omega
      clear h hi
      have hx:=nN a b hi' hi2 ha
      have hbad:=qN a b hi' hi2
      have i0:=fun {n : Nat} {E : Env} {C : World→Prop} {dst : Option Tmp} {ty : TypeId} {pos : String} {aft : Array Edge} {g : Option (Nat × Bool)} {x y : Operand}=>tr hi' (n:=n) (E:=E) (C:=C) (dst:=dst) (ty:=ty) (pos:=pos) (aft:=aft) (g:=g) (x:=x) (y:=y)
      have i1:=fun {n : Nat} {E : Env} {C : World→Prop} {dst : Option Tmp} {ty : TypeId} {pos : String} {aft : Array Edge} {g : Option (Nat × Bool)} {x y : Operand}=>tr hi2 (n:=n) (E:=E) (C:=C) (dst:=dst) (ty:=ty) (pos:=pos) (aft:=aft) (g:=g) (x:=x) (y:=y)
      generalize a.getD i 0=c at hx hbad i0
      generalize b.getD i 0=d at hx hbad i1
      cases h1 : decide (small c=small d)
      · rw [hbad (of_decide_eq_false h1)]
        repeat (first | refine JL.q (by first|(apply OQ.move;rfl)|(apply OQ.assign;rfl)) rfl ?_ | refine JC.seq ?_ | refine JC.region ?_ | refine JC.block ?_ | refine JC.skip ?_ | refine JL.nil ?_ | refine JE.next ?_)
        refine JC.quiet di (by kernel_rfl) ?_
        repeat (first | refine JQ.q (by first|(apply i0;rfl;rfl)|(apply i1;rfl;rfl)|(apply OQ.aB (vs:=[U8 c]);exact dZ;rfl;exact (fun w' _=>eR c w'))|(apply OQ.aB (vs:=[U8 d]);exact dZ;rfl;exact (fun w' _=>eR d w'))|(apply OQ.vE;rfl;rfl;exact h1)|(apply OQ.move;rfl)) rfl ?_ | refine JQ.nil ?_ | refine JE.next ?_)
        refine JC.cond rfl (fun _=>?_) (fun h=>by cases h)
        repeat (first | refine JL.q (by (apply OQ.assign;rfl)) rfl ?_ | refine JC.seq ?_ | refine JC.region ?_ | refine JL.nil ?_ | refine JE.next ?_)
        refine JC.ret ?_
        repeat (first | refine JE.av ?_ | refine JE.aI ?_)
        exact JE.aJ rfl (RV.tmp rfl) fun w' hw=>⟨rfl,hw.aC⟩
      · repeat (first | refine JL.q (by first|(apply OQ.move;rfl)|(apply OQ.assign;rfl)) rfl ?_ | refine JC.seq ?_ | refine JC.region ?_ | refine JC.block ?_ | refine JC.skip ?_ | refine JL.nil ?_ | refine JE.next ?_)
        refine JC.quiet di (by kernel_rfl) ?_
        repeat (first | refine JQ.q (by first|(apply i0;rfl;rfl)|(apply i1;rfl;rfl)|(apply OQ.aB (vs:=[U8 c]);exact dZ;rfl;exact (fun w' _=>eR c w'))|(apply OQ.aB (vs:=[U8 d]);exact dZ;rfl;exact (fun w' _=>eR d w'))|(apply OQ.vE;rfl;rfl;exact h1)|(apply OQ.move;rfl)) rfl ?_ | refine JQ.nil ?_ | refine JE.next ?_)
        refine JC.cond rfl (fun h=>by cases h) (fun _=>?_)
        repeat (first | refine JL.q (by first|(apply OQ.move;rfl)|(apply OQ.bH;rfl;rfl;exact (by (try simp only []);omega))) rfl ?_ | refine JC.region ?_ | refine JC.skip ?_ | refine JL.nil ?_ | refine JE.next ?_ | refine JE.aj ?_)
        exact JE.again (i:=i) (i+1) ⟨hi',hx (of_decide_eq_true h1)⟩ (by omega) (by repeat (first | exact ax.nil | refine ax.cons _ _ _ rfl ?_)) (aA.refl _)
    · have hi' : ¬ i<a.length:=of_decide_eq_false h
      obtain rfl : i=a.length:=by omega
      clear h hi hi'
      rw [List.take_length,List.take_of_length_le (by omega)] at ha
      rw [show bD a b=true from decide_eq_true ha]
      repeat (first | refine JL.q (by (apply OQ.assign;rfl)) rfl ?_ | refine JC.seq ?_ | refine JC.region ?_ | refine JC.exit ?_ | refine JL.nil ?_ | refine JE.next ?_ | refine JE.aS ?_ | refine JE.bE ?_)
      refine JC.ret ?_
      exact JE.aJ rfl (RV.tmp rfl) fun w' hw=>⟨rfl,hw.aC⟩
end
section
set_option maxRecDepth 10000
open Sl eu
namespace Rw
def o4 : List (List Bt):=[[82,101,99,101,105,118,101,100],[88,45,84,114,97,99,101],[68,97,116,101]]
def ia (w : World) : Prop:=∃ e fr,w.heap[0]?=some (.cells (o4.map Z).toArray e fr)
theorem ia.ext {w w' : World} (h : ia w) (hx : Ext w w') : ia w':=by
  obtain ⟨e,fr,h⟩:=h
  exact ⟨e,fr,(hx.block _ (Array.getElem?_eq_some_iff.1 h).1 (by simp)).trans h⟩
def tv (m : Int) : List Bt:=o4.getD (cg m 3) []
def tw (m : Int) (tx : List Bt) : List Bt:=tv m++[58]++[32]++tx++[13,10]
theorem nO (m : Int) : (tv m).length≤8:=by
  unfold tv
  have h:=dL (n:=m) (k:=3) (by decide)
  have : cg m 3=0∨cg m 3=1∨cg m 3=2:=by omega
  rcases this with h | h | h <;> rw [h] <;> decide
theorem o5 : aR Tryd.prog 11:=⟨_,Tryd.func11,rfl,by kernel_rfl⟩
theorem iW : aR Tryd.prog 18:=⟨_,Tryd.func18,rfl,by kernel_rfl⟩
theorem mh : fM Tryd.prog 9=true:=by kernel_rfl
theorem w4 : dw Tryd.prog 9=some 1:=by kernel_rfl
def j9 (tx : List Bt) : Bool:=decide (tx.length≤200) && bV.oB tx
set_option maxHeartbeats 8000000 in
theorem tC (h : aq) (kd xn xm : Int) (tx : List Bt) (w : World) (hs : h.ok w) (hl : h.l.length≤100000000) (hno : j9 tx=false) :
    Calls Tryd.prog 11 [h.v,.agg (bB kd xn xm tx).toArray].toArray w (de h.l w):=by
  refine enter (n:=34) Tryd.func11 rfl rfl rfl (aa.start w []) ?_
  refine JC.seq (JC.region ?_)
  refine JL.box (r:=bB kd xn xm tx) rfl rfl rfl fun b3 _=>?_
  by_cases hb : tx.length≤200
  · have hv : bV.oB tx=false:=by
      unfold j9 at hno
      rw [decide_eq_true hb,Bool.true_and] at hno
      exact hno
    have hg : decide ((tx.length : Int)>200)=false:=decide_eq_false (by omega)
    have hq:=fun w' : World=>hv ▸ j8 tx w'
    repeat (first | refine JL.q (by first|(apply OQ.load;exact mh;rfl;exact .here;exact (Row.cell (v:=Z tx) rfl))|(apply OQ.jf;exact Tryd.underlying9;rfl)|(apply OQ.eo (b:=200);rfl;rfl;exact hg)|(apply OQ.aB (vs:=[Z tx]);exact iW;rfl;exact (fun w' _=>hq w'))|(apply OQ.not;rfl)|(apply OQ.bz;rfl;rfl)|(apply OQ.move;rfl)|(apply OQ.assign;rfl)|(apply OQ.b8;rfl;rfl;rfl;exact (by decide);rfl)) rfl ?_ | refine JC.seq ?_ | refine JC.region ?_ | refine JL.nil ?_ | refine JE.next ?_ | refine JL.aN rfl rfl ?_)
    refine JC.cond_true rfl rfl ?_
    repeat (first | refine JL.q (by (apply OQ.move;rfl)) rfl ?_ | refine JC.seq ?_ | refine JC.region ?_)
    refine JL.fR (vs:=[h.v]) (S':=[]) [] dX rfl rfl (fun w' hw'=>dY h w' (hs.holds hw' rfl) (by omega)) (.nil _) (by simp) ?_
    intro x hx w1 hw1 okx
    repeat (first | refine JL.q (by (apply OQ.assign;rfl)) rfl ?_ | refine JL.nil ?_ | refine JE.next ?_)
    refine JC.ret ?_
    repeat (refine JE.av ?_)
    exact JE.aJ rfl (RV.tmp rfl) fun w' hw=>⟨x,rfl,hw1.aC.trans hw.aC,hx,okx.holds hw rfl⟩
  · have hg : decide ((tx.length : Int)>200)=true:=decide_eq_true (by omega)
    repeat (first | refine JL.q (by first|(apply OQ.load;exact mh;rfl;exact .here;exact (Row.cell (v:=Z tx) rfl))|(apply OQ.jf;exact Tryd.underlying9;rfl)|(apply OQ.eo (b:=200);rfl;rfl;exact hg)|(apply OQ.aP;rfl;rfl)|(apply OQ.move;rfl)|(apply OQ.assign;rfl)|(apply OQ.b8;rfl;rfl;rfl;exact (by decide);rfl)) rfl ?_ | refine JC.seq ?_ | refine JC.region ?_ | refine JL.nil ?_ | refine JE.next ?_ | refine JL.cj rfl rfl rfl rfl ?_)
    refine JC.cond_true rfl rfl ?_
    repeat (first | refine JL.q (by (apply OQ.move;rfl)) rfl ?_ | refine JC.seq ?_ | refine JC.region ?_)
    refine JL.fR (vs:=[h.v]) (S':=[]) [] dX rfl rfl (fun w' hw'=>dY h w' (hs.holds hw' rfl) (by omega)) (.nil _) (by simp) ?_
    intro x hx w1 hw1 okx
    repeat (first | refine JL.q (by (apply OQ.assign;rfl)) rfl ?_ | refine JL.nil ?_ | refine JE.next ?_)
    refine JC.ret ?_
    repeat (refine JE.av ?_)
    exact JE.aJ rfl (RV.tmp rfl) fun w' hw=>⟨x,rfl,hw1.aC.trans hw.aC,hx,okx.holds hw rfl⟩
theorem qP {w0 : World} {M : List az} {b9 : Nat} {x y : aq} (w' : World) (hx : x.ok w') (hy : y.ok w') (h0 : 0<x.l.length) (hl : x.l.length+y.l.length≤1000000000) (hw : aa w0 [] (⟨b9,Row 22 [x.v,y.v],true⟩::M) w') :
    Calls Tryd.prog 20 [.slice (some ⟨b9,0,none⟩) 2 2].toArray w' fun e w2=>∃ q : Nat × Nat,e=.returned (.slice (some ⟨q.1,0,none⟩) (x.l++y.l).length q.2)∧aa w' [] [⟨q.1,Sl.Own 5 1 (x.l++y.l).length q.2 ((x.l++y.l).map U8),true⟩] w2:=by
  obtain ⟨o,ho,hA⟩:=hw.get (b:=b9) .here
  have ok : gr.ok w' ⟨some ⟨b9,0,none⟩,2,[x,y]⟩:=by
    refine ⟨Nat.le_refl _,Reads.block ho (Row.all _ hA),fun z hz=>?_⟩
    simp only [List.mem_cons,List.mem_nil_iff,or_false] at hz
    rcases hz with rfl | rfl
    · exact hx
    · exact hy
  have hc : bM [x,y] 2=x.l++y.l:=by simp [bM]
  have:=eL _ w' ok (by show 0<(bM [x,y] 2).length;rw [hc,List.length_append];omega) (by show (bM [x,y] 2).length≤_;rw [hc,List.length_append];omega) (show 2≤1000000000 by decide)
  rw [show bM (⟨some ⟨b9,0,none⟩,2,[x,y]⟩ : gr).rs (⟨some ⟨b9,0,none⟩,2,[x,y]⟩ : gr).rs.length=x.l++y.l from hc] at this
  exact this
set_option maxHeartbeats 8000000 in
theorem qQ (h : aq) (kd xn xm : Int) (tx : List Bt) (w : World) (hs : h.ok w) (hl : h.l.length≤100000000) (hyes : j9 tx=true) (hT : ia w) :
    Calls Tryd.prog 11 [h.v,.agg (bB kd xn xm tx).toArray].toArray w (de (tw xm tx++h.l) w):=by
  refine enter (n:=34) Tryd.func11 rfl rfl rfl (aa.start w []) ?_
  refine JC.seq (JC.region ?_)
  refine JL.box (r:=bB kd xn xm tx) rfl rfl rfl fun b3 _=>?_
  unfold j9 at hyes
  rw [Bool.and_eq_true,decide_eq_true_eq] at hyes
  obtain ⟨hb,hv⟩:=hyes
  have hg : decide ((tx.length : Int)>200)=false:=decide_eq_false (by omega)
  have hq:=fun w' : World=>hv ▸ j8 tx w'
  repeat (first | refine JL.q (by first|(apply OQ.load;exact mh;rfl;exact .here;exact (Row.cell (v:=Z tx) rfl))|(apply OQ.jf;exact Tryd.underlying9;rfl)|(apply OQ.eo (b:=200);rfl;rfl;exact hg)|(apply OQ.aB (vs:=[Z tx]);exact iW;rfl;exact (fun w' _=>hq w'))|(apply OQ.not;rfl)|(apply OQ.bz;rfl;rfl)|(apply OQ.move;rfl)|(apply OQ.assign;rfl)|(apply OQ.b8;rfl;rfl;rfl;exact (by decide);rfl)) rfl ?_ | refine JC.seq ?_ | refine JC.region ?_ | refine JL.nil ?_ | refine JE.next ?_ | refine JL.aN rfl rfl ?_)
  refine JC.cond_false rfl rfl ?_
  obtain ⟨a,ha⟩ : ∃ a,cg xm 3=a:=⟨_,rfl⟩
  have hlt : a<3:=ha ▸ dL (by decide)
  have hav : I (xm % ((3 : Nat) : Int))=N a:=ha ▸ iQ (by decide)
  obtain ⟨nm,hnm⟩ : ∃ nm,tv xm=nm:=⟨_,rfl⟩
  have hnl : nm.length≤8:=hnm ▸ nO xm
  obtain ⟨te,fr,hgl⟩:=hT
  have hcell : w.cell? ⟨0,a,none⟩=some (Z nm):=by
    unfold World.cell?
    rw [hgl,← hnm]
    unfold tv
    rw [ha]
    have : a=0∨a=1∨a=2:=by omega
    rcases this with rfl | rfl | rfl <;> rfl
  obtain ⟨hd,hhd⟩ : ∃ hd,tw xm tx=hd:=⟨_,rfl⟩
  have hdl : 0<hd.length∧hd.length≤300:=by
    rw [← hhd]
    unfold tw
    rw [hnm]
    simp only [List.length_append,List.length_cons,List.length_nil]
    omega
  have hhe : nm++[58]++[32]++tx++[13,10]=hd:=by rw [← hhd,← hnm];rfl
  have h1 : (nm++[58]).length=nm.length+1:=by simp
  have h2 : (nm++[58]++[32]).length=nm.length+2:=by simp
  have h3 : (nm++[58]++[32]++tx).length=nm.length+2+tx.length:=by simp;omega
  rw [hhd]
  repeat (first | refine JL.q (by first|(apply OQ.load;exact aF;rfl;exact .here;exact (Row.cell (v:=I xm) rfl))|(apply OQ.to;exact (OQ.aB (vs:=[I xm,N 3]) aV rfl (fun w' _=>bf xm 3 (by decide) (by decide) w'));exact hav)|(apply OQ.wv (i:=a) (b:=0);exact Tryd.underlying44;exact w4;rfl;rfl;exact hlt)|(apply OQ.cA;exact mh;rfl;exact (block_lt_of_cell hcell);exact (by simp);exact hcell)|(apply OQ.uk (l:=nm) (r:=[58]);rfl;rfl;exact (by simp;omega))|(apply OQ.uk (l:=nm++[58]) (r:=[32]);rfl;rfl;exact (by rw [h1];simp;omega))|(apply OQ.load;exact mh;rfl;exact .here;exact (Row.cell (v:=Z tx) rfl))|(apply OQ.uk (l:=nm++[58]++[32]) (r:=tx);rfl;rfl;exact (by rw [h2];omega))|(apply OQ.to;exact (OQ.uk (l:=nm++[58]++[32]++tx) (r:=[13,10]) rfl rfl (by rw [h3];simp;omega));exact (congrArg Z hhe))|(apply OQ.move;rfl)|(apply OQ.assign;rfl)|(apply OQ.b8;rfl;rfl;rfl;exact (by decide);rfl)) rfl ?_ | refine JC.seq ?_ | refine JC.region ?_ | refine JC.skip ?_ | refine JL.nil ?_ | refine JE.next ?_)
  refine JL.yf (s:=cM hd) Tryd.underlying9 Tryd.underlying22 Tryd.underlying5 rfl rfl fun bb capB=>?_
  rw [lM]
  repeat (refine JL.q (by (apply OQ.move;rfl)) rfl ?_)
  refine JL.rO (xs:=[.tmp 30,.tmp 31]) (vs:=[aq.v ⟨some ⟨bb,0,none⟩,capB,hd⟩,h.v]) Tryd.underlying31 vP rfl rfl rfl rfl (by intro v hv;simp only [List.mem_cons,List.not_mem_nil,or_false] at hv;rcases hv with rfl | rfl <;> rfl) rfl (by decide) (by decide) rfl fun b9 _=>?_
  refine JL.bC (ι:=Nat × Nat) (vs:=[.slice (some ⟨b9,0,none⟩) 2 2]) (fun q=>.slice (some ⟨q.1,0,none⟩) (hd++h.l).length q.2) (fun q=>[⟨q.1,Sl.Own 5 1 (hd++h.l).length q.2 ((hd++h.l).map U8),true⟩]) cV rfl rfl (fun q e he=>by rw [List.mem_singleton.1 he]) (fun w' hw'=>?_) fun q=>?_
  · have okd : aq.ok w' ⟨some ⟨bb,0,none⟩,capB,hd⟩:=aq.pQ (hw'.weak (.drop _ _ _ (aA.refl _))) nofun
    exact qP (x:=⟨some ⟨bb,0,none⟩,capB,hd⟩) (y:=h) w' okd (hs.holds hw' rfl) hdl.1 (by show hd.length+_≤_;omega) hw'
  · repeat (first | refine JL.q (by (apply OQ.assign;rfl)) rfl ?_ | refine JL.nil ?_ | refine JE.next ?_)
    refine JC.ret ?_
    skip
    exact JE.aJ rfl (RV.tmp rfl) fun w' hw=>⟨⟨some ⟨q.1,0,none⟩,q.2,hd++h.l⟩,rfl,hw.aC,rfl,dy hw .here⟩
def tD (m : Int) (tx l : List Bt) : List Bt:=if j9 tx then tw m tx++l else l
theorem qR (h : aq) (kd xn xm : Int) (tx : List Bt) (w : World) (hs : h.ok w) (hl : h.l.length≤100000000) (hT : ia w) :
    Calls Tryd.prog 11 [h.v,.agg (bB kd xn xm tx).toArray].toArray w (de (tD xm tx h.l) w):=by
  unfold tD
  cases hc : j9 tx
  · exact tC h kd xn xm tx w hs hl hc
  · exact qQ h kd xn xm tx w hs hl hc hT
set_option maxHeartbeats 8000000 in
theorem qS (h : aq) (xn xm : Int) (tx : List Bt) (w : World) (hs : h.ok w) (hl : h.l.length≤100000000) (hT : ia w) {k : Nat} (hg : br h.l k) :
    Calls Tryd.prog 6 [h.v,.agg (bB 6 xn xm tx).toArray].toArray w (de (tD xm tx h.l) w):=by
  refine enter (n:=45) Tryd.func6 rfl rfl rfl (aa.start w []) ?_
  obtain ⟨F,hF⟩ : ∃ F,cc h.l k=F:=⟨_,rfl⟩
  have hg1 : decide ((6 : Int)=1)=false:=rfl
  have hg2 : decide ((6 : Int)=2)=false:=rfl
  have hg6 : decide ((6 : Int)=6)=true:=rfl
  refine JC.seq (JC.region ?_)
  refine JL.box (r:=bB 6 xn xm tx) rfl rfl rfl fun b3 _=>?_
  repeat (first | refine JL.q (by first|(apply OQ.load;exact aF;rfl;exact .here;exact (Row.cell (v:=I 6) rfl))|(apply OQ.aU (a:=6) (b:=1);rfl;rfl;exact hg1)|(apply OQ.assign;rfl)|(apply OQ.b8;rfl;rfl;rfl;exact (by decide);rfl)) rfl ?_ | refine JC.seq ?_ | refine JC.region ?_ | refine JC.block ?_ | refine JL.nil ?_ | refine JE.next ?_)
  refine JC.cond_false rfl rfl ?_
  repeat (first | refine JL.q (by first|(apply OQ.aU (a:=6) (b:=2);rfl;rfl;exact hg2)|(apply OQ.assign;rfl)) rfl ?_ | refine JC.seq ?_ | refine JC.region ?_ | refine JL.nil ?_ | refine JE.next ?_)
  refine JC.cond_false rfl rfl ?_
  repeat (first | refine JL.q (by (apply OQ.move;rfl)) rfl ?_ | refine JC.seq ?_ | refine JC.region ?_ | refine JC.skip ?_ | refine JE.next ?_ | refine JE.aj ?_)
  refine JL.bC (ι:=FQ F) (vs:=[h.v]) (fun q=>.tuple #[.agg (aW h k q.1).toArray,.bool true]) (fun q=>an 22 q.1 (F.map (aO (bA h k)))) cw rfl rfl (fun q e he=>aT _ _ _ e he) (fun w' hw'=>dg h w' (hs.holds hw' rfl) (by omega) hg hF) ?_
  rintro ⟨q,hq⟩
  dsimp only
  repeat (refine JL.q (by first|(apply OQ.extract;rfl;rfl)|(apply OQ.move;rfl)) rfl ?_)
  refine JL.alloc (r:=cB) (by kernel_rfl) rfl fun b5 _=>?_
  refine JL.bI (cs:=aW h k q) (r:=cB) eA rfl rfl rfl (cx _ _ _) .here rfl ?_
  have hH3 : Has (⟨b5,Row 33 (aW h k q),true⟩::(an 22 q (F.map (aO (bA h k)))++[⟨b3,Row 26 (bB 6 xn xm tx),true⟩])) b3 (Row 26 (bB 6 xn xm tx)) true:=.there (kE .here)
  repeat (first | refine JL.q (by first|(apply OQ.load;exact aF;rfl;exact hH3;exact (Row.cell (v:=I 6) rfl))|(apply OQ.aU (a:=6) (b:=6);rfl;rfl;exact hg6)|(apply OQ.aP;rfl;rfl)|(apply OQ.move;rfl)|(apply OQ.assign;rfl)|(apply OQ.b8;rfl;rfl;rfl;exact (by decide);rfl)) rfl ?_ | refine JC.seq ?_ | refine JC.region ?_ | refine JC.block ?_ | refine JL.nil ?_ | refine JE.next ?_ | refine JL.aN rfl rfl ?_)
  refine JC.cond_true rfl rfl ?_
  repeat (first | refine JL.q (by first|(apply OQ.cP (cs:=bB 6 xn xm tx);exact l5;exact uP;rfl;exact hH3;rfl;exact Row.all)|(apply OQ.move;rfl)) rfl ?_ | refine JC.seq ?_ | refine JC.region ?_)
  refine JL.fR (vs:=[h.v,.agg (bB 6 xn xm tx).toArray]) (S':=[]) [] o5 rfl rfl (fun w' hw'=>qR h 6 xn xm tx w' (hs.holds hw' rfl) (by omega) (hT.ext hw'.aC)) (.nil _) (by simp) ?_
  intro x hx w1 hw1 okx
  repeat (first | refine JL.q (by (apply OQ.assign;rfl)) rfl ?_ | refine JL.nil ?_ | refine JE.next ?_)
  refine JC.ret ?_
  repeat (first | refine JE.av ?_ | refine JE.aI ?_)
  exact JE.aJ rfl (RV.tmp rfl) fun w' hw=>⟨x,rfl,hw1.aC.trans hw.aC,hx,okx.holds hw rfl⟩
end Rw
end
section
set_option maxRecDepth 10000
open Sl eu
namespace Rw
theorem OQ.tE {P : Program} {n : Nat} {w0 : World} {S : List Nat} {E : Env} {M : List az} {dst : Option Tmp} {ty : TypeId} {pos : String} {aft : Array Edge} {g : Option (Nat × Bool)} {x : Operand} {xs : List Operand} {ats : Array TypeId} {f : FuncId} {caps vs : List Value} {v : Value} (hg : aR P f) (hf : ev E x=some (.func (.func f) #[] caps.toArray)) (hx : eY E xs=some vs)
    (hc : ∀ w,aa w0 S M w→Calls P f (vs++caps).toArray w fun e w'=>e=.returned v∧Ext w w') : OQ P n E (aa w0 S M) ⟨dst,.call ⟨.value x,xs.toArray,ats⟩,ty,pos,aft,g⟩ v:=by
  refine ⟨fun a hk w hw=>?_⟩
  unfold Oper.quietAt
  rw [jJ (xs:=xs) hg hk hf hx w]
  exact ⟨rfl,(hc w hw).mono fun e w' ⟨k1,k2⟩=>⟨k1,hw.ext k2⟩⟩
def o6 : List (List Bt):=[[70,114,111,109],[84,111],[77,101,115,115,97,103,101,45,73,68],[88,45,84,104,114,101,97,100],[88,45,75,101,121,115],[67,111,110,116,101,110,116,45,84,121,112,101],[67,111,110,116,101,110,116,45,84,114,97,110,115,102,101,114,45,69,110,99,111,100,105,110,103]]
def o7 : List Value:=o6.map Z
def eS (w : World) : Prop:=∃ e fr,w.heap[1]?=some (.cells o7.toArray e fr)
theorem eS.ext {w w' : World} (h : eS w) (hx : Ext w w') : eS w':=by
  obtain ⟨e,fr,h⟩:=h
  exact ⟨e,fr,(hx.block _ (Array.getElem?_eq_some_iff.1 h).1 (by simp)).trans h⟩
def ic (nm : List Bt) : Bool:=o6.any fun p=>bV.bD nm p
theorem ke : aR Tryd.prog 40:=⟨_,Tryd.func40,rfl,by kernel_rfl⟩
theorem iX : aR Tryd.prog 60:=⟨_,Tryd.func60,rfl,by kernel_rfl⟩
theorem kf : aR Tryd.prog 23:=⟨_,Tryd.func23,rfl,by kernel_rfl⟩
theorem fz : aR Tryd.prog 42:=⟨_,Tryd.func42,rfl,by kernel_rfl⟩
theorem w5 : lH Tryd.prog 64=true:=by kernel_rfl
theorem w6 : dw Tryd.prog 64=some 7:=by kernel_rfl
def mj (b : Nat) : Value:=.func (.func 60) #[] [Pt b 0].toArray
theorem lA (nm : List Bt) (w : World) : Calls Tryd.prog 40 [Z nm].toArray w fun e w'=>∃ b,e=.returned (mj b)∧aa w [] [⟨b,Row 9 [Z nm],true⟩] w':=by
  refine enter (n:=4) Tryd.func40 rfl rfl rfl (aa.start w []) ?_
  refine JC.seq (JC.region ?_)
  refine JL.box (r:=[Z nm]) rfl rfl rfl fun b1 _=>?_
  repeat (first | refine JL.q (by first|(apply OQ.xk (caps:=[Pt b1 0]);rfl)|(apply OQ.assign;rfl)) rfl ?_ | refine JC.seq ?_ | refine JC.region ?_ | refine JL.nil ?_ | refine JE.next ?_)
  refine JC.ret ?_
  skip
  exact JE.aJ rfl (RV.tmp rfl) fun w' hw=>⟨b1,rfl,hw⟩
theorem kg (nm other : List Bt) (b : Nat) (w : World) (hl : nm.length<9223372036854775808) (hw : ∃ o,w.heap[b]?=some o∧Row 9 [Z nm] o) : Calls Tryd.prog 60 [Z other,Pt b 0].toArray w fun e w'=>e=.returned (.bool (bV.bD nm other))∧Ext w w':=by
  obtain ⟨o,ho,hA⟩:=hw
  refine enter (n:=7) Tryd.func60 rfl rfl rfl (aa.seen (S:=[]) ho hA) ?_
  repeat (first | refine JL.q (by first|(apply OQ.load;exact mh;rfl;exact .here;exact (Row.cell (v:=Z nm) rfl))|(apply OQ.aB (vs:=[Z nm,Z other]);exact fz;rfl;exact (fun w' _=>fL nm other w' hl))|(apply OQ.move;rfl)|(apply OQ.assign;rfl)) rfl ?_ | refine JC.seq ?_ | refine JC.region ?_ | refine JL.nil ?_ | refine JE.next ?_)
  refine JC.ret ?_
  skip
  exact JE.aJ rfl (RV.tmp rfl) fun w' hw=>⟨rfl,hw.aC⟩
set_option maxHeartbeats 8000000 in
theorem kG (nm : List Bt) (w : World) (hl : nm.length<9223372036854775808) (hP : eS w) : Calls Tryd.prog 23 [Z nm].toArray w fun e w'=>e=.returned (.bool (ic nm))∧Ext w w':=by
  refine enter (n:=16) Tryd.func23 rfl rfl rfl (aa.start w []) ?_
  obtain ⟨te,fr,hgl⟩:=hP
  have hlt:=(Array.getElem?_eq_some_iff.1 hgl).1
  have hcell : ∀ i u,o7[i]?=some u→w.cell? ⟨1,0+i,none⟩=some u:=fun i u hu=>by
    unfold World.cell?
    rw [hgl,Nat.zero_add]
    simpa [cellAt] using hu
  repeat (first | refine JL.q (by first|(apply OQ.move;rfl)|(apply OQ.assign;rfl)) rfl ?_ | refine JC.seq ?_ | refine JC.region ?_ | refine JL.nil ?_ | refine JE.next ?_)
  refine JL.bC (ι:=Nat) (vs:=[Z nm]) (fun b=>mj b) (fun b=>[⟨b,Row 9 [Z nm],true⟩]) ke rfl rfl (fun b e he=>by rw [List.mem_singleton.1 he]) (fun w' _=>lA nm w') fun b=>?_
  repeat (first | refine JL.q (by first|(apply OQ.lI (b:=1) (cs:=o7);exact w5;rfl;exact w6;exact hlt;exact (by simp);exact hcell)|(apply OQ.move;rfl)|(apply OQ.assign;rfl)) rfl ?_ | refine JC.seq ?_ | refine JC.region ?_ | refine JC.block ?_ | refine JL.nil ?_ | refine JE.next ?_)
  refine JC.loop (fun i : Nat=>[(0,Z nm),(3,mj b),(8,.agg o7.toArray),(9,N i)]) (fun _=>[⟨b,Row 9 [Z nm],true⟩]) (fun i=>7 - i) (fun i=>i≤7∧(o6.take i).any (fun p=>bV.bD nm p)=false) 0 ⟨Nat.zero_le _,rfl⟩ (by repeat (first | exact ax.nil | refine ax.cons _ _ _ rfl ?_)) (aA.refl _) ?_
  rintro i ⟨hi,hno⟩
  repeat (first | refine JL.q (by (apply OQ.ij (a:=i) (b:=7);rfl;rfl)) rfl ?_ | refine JC.seq ?_ | refine JC.region ?_ | refine JL.nil ?_ | refine JE.next ?_)
  refine JC.cond rfl (fun hh=>?_) (fun hh=>?_)
  · have hi' : i<7:=of_decide_eq_true hh
    clear hh
    obtain ⟨p,hp⟩ : ∃ p,o6[i]?=some p:=⟨_,List.getElem?_eq_getElem (show i<o6.length from hi')⟩
    have hpv : o7[i]?=some (Z p):=by unfold o7;rw [List.getElem?_map,hp];rfl
    have htk : (o6.take (i+1)).any (fun p=>bV.bD nm p)=bV.bD nm p:=by
      obtain ⟨h1,h2⟩:=List.getElem?_eq_some_iff.1 hp
      rw [List.take_succ_eq_append_getElem h1,List.any_append,hno,h2]
      simp
    obtain ⟨r,hr⟩ : ∃ r,bV.bD nm p=r:=⟨_,rfl⟩
    have hq : ∀ w',aa w [] [⟨b,Row 9 [Z nm],true⟩] w'→Calls Tryd.prog 60 ([Z p]++[Pt b 0]).toArray w' fun e w2=>e=.returned (.bool r)∧Ext w' w2:=fun w' hw'=>by
      have:=kg nm p b w' hl (hw'.get .here)
      rw [hr] at this
      exact this
    repeat (first | refine JL.q (by first|(apply OQ.index (v:=Z p) (i:=i) (cs:=o7);exact Tryd.underlying64;exact w4;exact mh;rfl;rfl;exact hi';exact hpv)|(apply OQ.tE (caps:=[Pt b 0]) (vs:=[Z p]);exact iX;rfl;rfl;exact hq)|(apply OQ.move;rfl)|(apply OQ.assign;rfl)) rfl ?_ | refine JC.seq ?_ | refine JC.region ?_ | refine JC.block ?_ | refine JC.skip ?_ | refine JL.nil ?_ | refine JE.next ?_)
    cases r with
    | true=>
      refine JC.cond_true rfl rfl ?_
      have hall : ic nm=true:=by
        unfold ic
        rw [List.any_eq_true]
        exact ⟨p,List.mem_of_getElem? hp,hr⟩
      rw [hall]
      repeat (first | refine JL.q (by (apply OQ.assign;rfl)) rfl ?_ | refine JC.seq ?_ | refine JC.region ?_ | refine JL.nil ?_ | refine JE.next ?_)
      refine JC.ret ?_
      repeat (first | refine JE.av ?_ | refine JE.aI ?_)
      exact JE.aJ rfl (RV.tmp rfl) fun w' hw=>⟨rfl,hw.aC⟩
    | false=>
      refine JC.cond_false rfl rfl ?_
      repeat (first | refine JL.q (by first|(apply OQ.bH (a:=i) (b:=1);rfl;rfl;exact (by omega))|(apply OQ.move;rfl)) rfl ?_ | refine JC.region ?_ | refine JC.skip ?_ | refine JL.nil ?_ | refine JE.next ?_ | refine JE.aj ?_)
      exact JE.again (i:=i) (i+1) ⟨show i+1≤7 from hi',htk.trans hr⟩ (show 7 - (i+1)<7 - i by omega) (by repeat (first | exact ax.nil | refine ax.cons _ _ _ rfl ?_)) (aA.refl _)
  · have hi' : i=7:=by have:=of_decide_eq_false hh;omega
    subst hi'
    clear hh
    have hall : ic nm=false:=hno
    rw [hall]
    repeat (first | refine JL.q (by (apply OQ.assign;rfl)) rfl ?_ | refine JC.seq ?_ | refine JC.region ?_ | refine JC.exit ?_ | refine JL.nil ?_ | refine JE.next ?_ | refine JE.aS ?_ | refine JE.bE ?_)
    refine JC.ret ?_
    skip
    exact JE.aJ rfl (RV.tmp rfl) fun w' hw=>⟨rfl,hw.aC⟩
end Rw
end
section
set_option maxRecDepth 10000
open Sl eu
namespace Rw
theorem nP {w : World} {ad : Option Addr} {xs : List Value} {cap j : Nat} (h : Reads w ad xs) (h0 : cap=j→xs.drop j=[]) : Reads w (if cap=j then ad else ad.map (·.add (j * 1))) (xs.drop j):=by
  intro i v hv
  by_cases e : cap=j
  · rw [h0 e] at hv
    cases hv
  · rw [List.getElem?_drop] at hv
    obtain ⟨b,o,h1,h2⟩:=h _ v hv
    rw [if_neg e,h1]
    exact ⟨b,o+j * 1,by rw [Option.map_some,bh],by rw [Nat.add_assoc,Nat.mul_one];exact h2⟩
theorem qT : aR Tryd.prog 25:=⟨_,Tryd.func25,rfl,by kernel_rfl⟩
theorem qU {xs : List Value} {i j : Nat} (hij : i≤j) (hj : j≤xs.length) : (xs.take i++xs.drop j++xs.drop (i+(xs.length - j))).take (i+(xs.length - j))=xs.take i++xs.drop j:=
  List.take_left' (by rw [List.length_append,List.length_take,List.length_drop];omega)
set_option maxHeartbeats 8000000 in
theorem tF (b cap : Nat) (xs : List Value) (i j : Nat) (hij : i<j) (hj : j≤xs.length) (hs : xs.length<1000000000) (h1 : ∀ v ∈ xs,v.oneCell'=true) (w : World) (h0 : aa w [b] [⟨b,Sl.Own 22 1 xs.length cap xs,true⟩] w) :
    Calls Tryd.prog 25 [.slice (some ⟨b,0,none⟩) xs.length cap,N i,N j].toArray w fun e w'=>e=.returned (.slice (some ⟨b,0,none⟩) (xs.take i++xs.drop j).length cap)∧aa w [b] [⟨b,Sl.Own 22 1 (xs.take i++xs.drop j).length cap (xs.take i++xs.drop j),true⟩] w':=by
  have hRl : (xs.take i++xs.drop j).length=i+(xs.length - j):=by simp only [List.length_append,List.length_take,List.length_drop];omega
  have hdc:=qU (xs:=xs) (i:=i) (j:=j) (by omega) hj
  rw [hRl]
  have hcap : xs.length≤cap:=by
    obtain ⟨o,_,sp,_,_,_,h3⟩:=h0.get .here
    exact h3
  obtain ⟨ys,hys⟩ : ∃ ys,xs.take i++xs.drop j=ys:=⟨_,rfl⟩
  obtain ⟨n,hmm⟩ : ∃ n,xs.length=n:=⟨_,rfl⟩
  rw [hys] at hdc ⊢
  rw [hmm] at h0 hj hs hcap hdc ⊢
  rw [← hys] at hdc
  have hne : decide ((i : Int)=(j : Int))=false:=decide_eq_false (by omega)
  refine enter (n:=33) Tryd.func25 rfl rfl rfl h0 ?_
  repeat (first | refine JL.q (by first|(apply OQ.len (k:=n) (cap:=cap) (ad:=some ⟨b,0,none⟩);exact Tryd.underlying31;rfl)|(apply OQ.nh (lo:=i) (hi:=j) (mx:=n) (len:=n) (cap:=cap) (ad:=some ⟨b,0,none⟩);exact Tryd.underlying31;exact bY;rfl;rfl;rfl;rfl;exact (by omega);exact (by omega);exact (by omega))|(apply OQ.aU (a:=(i : Int)) (b:=(j : Int));rfl;rfl;exact hne)|(apply OQ.move;rfl)|(apply OQ.assign;rfl)) rfl ?_ | refine JC.seq ?_ | refine JC.region ?_ | refine JL.nil ?_ | refine JE.next ?_)
  refine JC.cond_false rfl rfl ?_
  repeat (first | refine JL.q (by first|(apply OQ.len (k:=n) (cap:=cap) (ad:=some ⟨b,0,none⟩);exact Tryd.underlying31;rfl)|(apply OQ.move;rfl)|(apply OQ.assign;rfl)) rfl ?_ | refine JC.seq ?_ | refine JC.region ?_ | refine JC.skip ?_ | refine JL.nil ?_ | refine JE.next ?_)
  refine JC.tail 6 di (by kernel_rfl) ?_
  simp only [List.take_succ_cons,List.take_zero,List.drop_succ_cons,List.drop_zero]
  repeat (first | refine JQ.q (by first|(apply OQ.to;exact (OQ.jB (ad:=some ⟨b,0,none⟩) (len:=n) (cap:=cap) (hi:=i) Tryd.underlying31 bY rfl rfl (by omega));exact mX)|(apply OQ.ot (ad:=some ⟨b,0,none⟩) (len:=n) (cap:=cap) (lo:=j);exact Tryd.underlying31;exact bY;rfl;rfl;exact hj)|(apply OQ.move;rfl)) rfl ?_ | refine JQ.mG ?_)
  refine JL.sM (sz:=1) (k:=n) (cs:=xs.drop j) (m:=n - j) (i:=i) (xs:=xs) (xs':=xs.take (i * 1)++xs.drop j++xs.drop (i * 1+(n - j) * 1)) Tryd.underlying31 vP rfl rfl .here (by rw [List.length_drop,hmm,Nat.mul_one]) (fun w' hw'=>?_) (fun v hv=>h1 v (List.mem_of_mem_drop hv)) (by decide) (by omega) rfl rfl ?_
  · obtain ⟨o,ho,hA⟩:=hw'.get .here
    exact nP (Reads.block ho (Sl.Own.cells _ hA)) fun e=>List.drop_of_length_le (by omega)
  repeat (first | refine JL.q (by first|(apply OQ.len (k:=i+(n - j)) (cap:=cap) (ad:=some ⟨b,0,none⟩);exact Tryd.underlying31;rfl)|(apply OQ.gD (lo:=i+(n - j)) (hi:=n) (len:=i+(n - j)) (cap:=cap) (ad:=some ⟨b,0,none⟩);exact Tryd.underlying31;exact bY;rfl;rfl;rfl;exact (by omega);exact hcap)|(apply OQ.move;rfl)|(apply OQ.assign;rfl)) rfl ?_ | refine JC.seq ?_ | refine JC.region ?_ | refine JL.nil ?_ | refine JE.next ?_)
  refine JL.vM (k:=n) (lo:=i+(n - j)) (xs:=xs.take (i * 1)++xs.drop j++xs.drop (i * 1+(n - j) * 1)) (M':=[⟨b,Sl.Own 22 1 (i+(n - j)) cap ys,true⟩]) Tryd.underlying31 vP rfl (fun v hv=>by rw [List.mem_singleton.1 hv];rfl) (by decide) rfl (by omega) (by rw [Nat.mul_one,Nat.mul_one,Nat.mul_one,hdc,hys];exact .here) ?_
  repeat (first | refine JL.q (by first|(apply OQ.move;rfl)|(apply OQ.assign;rfl)) rfl ?_ | refine JC.seq ?_ | refine JC.region ?_ | refine JL.nil ?_ | refine JE.next ?_)
  refine JC.ret ?_
  skip
  exact JE.aJ rfl (RV.tmp rfl) fun w' hw=>⟨rfl,hw⟩
end Rw
end
section
set_option maxRecDepth 10000
open Sl eu
namespace Rw
theorem eS.holds {w w' : World} {S : List Nat} {M : List az} (h : eS w) (hw : aa w S M w') (hS : 1 ∉ S) : eS w':=by
  obtain ⟨e,fr,h⟩:=h
  exact ⟨e,fr,(hw.aC.block _ (Array.getElem?_eq_some_iff.1 h).1 hS).trans h⟩
def cz {α : Type} (L : List α) (i : Nat) : List α:=L.take i++L.drop (i+1)
set_option maxHeartbeats 8000000 in
theorem nQ (p b cap : Nat) (gv cv : Value) (fs : List Value) (R : aq) (xn xm : Int) (tx : List Bt) (w : World) (S : List Nat) (h0 : aa w S (cq p b cap gv cv fs) w) (hn : 0<fs.length) (hn2 : fs.length<4611686018427387904) (hn3 : fs.length<1000000000) (hR : fs[cg xn fs.length]?=some R.v) (hok : R.ok w) (haw : dW R S) (hl : R.l.length≤1000000000) (hP : eS w) (hPS : 1 ∉ S) (hone : ∀ v ∈ fs,v.oneCell'=true) (hSp : S=[p,b]) :
    Calls Tryd.prog 12 [Pt p 0,.agg (bB 5 xn xm tx).toArray].toArray w fun e w'=>e=.returned (.tuple #[])∧aa w S (cq p b cap gv cv (if ic (aQ R.l) then fs else cz fs (cg xn fs.length))) w':=by
  refine enter (n:=87) Tryd.func12 rfl rfl rfl h0 ?_
  obtain ⟨n,hnn⟩ : ∃ n,fs.length=n:=⟨_,rfl⟩
  obtain ⟨at_,hat⟩ : ∃ a,cg xn n=a:=⟨_,rfl⟩
  have hav : I (xn % (n : Int))=N at_:=hat ▸ iQ (hnn ▸ hn)
  show JC _ _ _ _ _ _ _ [⟨p,Row 33 [.slice (some ⟨b,0,none⟩) fs.length cap,gv,cv],true⟩,⟨b,Sl.Own 22 1 fs.length cap fs,true⟩]
  rw [hnn] at hn hn2 hn3 hR ⊢
  have hlt : at_<n:=hat ▸ dL hn
  rw [hat] at hR ⊢
  have hcl : ∀ o,Sl.Own 22 1 n cap fs o→cellAt o (0+at_)=some R.v:=by rw [Nat.zero_add];exact Sl.Own.cell hR
  have hnl:=lX R.l
  obtain ⟨pr,hpr⟩ : ∃ pr,ic (aQ R.l)=pr:=⟨_,rfl⟩
  rw [hpr]
  have hq : ∀ (M : List az) (w' : World),aa w S M w'→Calls Tryd.prog 23 [Z (aQ R.l)].toArray w' fun e w2=>e=.returned (.bool pr)∧Ext w' w2:=fun M w' hw'=>by
    have:=kG (aQ R.l) w' (by omega) (hP.holds hw' hPS)
    rw [hpr] at this
    exact this
  have hg3 : decide ((5 : Int)=3)=false:=rfl
  have hg4 : decide ((5 : Int)=4)=false:=rfl
  have hg5 : decide ((5 : Int)=5)=true:=rfl
  have hg7 : decide ((5 : Int)=7)=false:=rfl
  have hg8 : decide ((5 : Int)=8)=false:=rfl
  refine JC.seq (JC.region ?_)
  refine JL.box (r:=bB 5 xn xm tx) rfl rfl rfl fun b3 _=>?_
  refine JL.nil (JE.next ?_)
  refine JC.seq ?_
  refine JC.quiet di (by kernel_rfl) ?_
  repeat (first | refine JL.q (by first|(apply OQ.load;exact aF;rfl;exact .here;exact (Row.cell (v:=I xn) rfl))|(apply OQ.load;exact ez;rfl;exact (.there .here);exact (Row.cell (v:=.slice (some ⟨b,0,none⟩) n cap) rfl))|(apply OQ.len (k:=n) (ad:=some ⟨b,0,none⟩) (cap:=cap);exact Tryd.underlying31;rfl)|(apply OQ.to;exact (OQ.aB (vs:=[I xn,N n]) aV rfl (fun w' _=>bf xn n hn hn2 w'));exact hav)|(apply OQ.load;exact aF;rfl;exact .here;exact (Row.cell (v:=I 5) rfl))|(apply OQ.aU (a:=5) (b:=3);rfl;rfl;exact hg3)|(apply OQ.move;rfl)|(apply OQ.assign;rfl)|(apply OQ.cl;rfl)|(apply OQ.b8;rfl;rfl;rfl;exact (by decide);rfl)) rfl ?_ | refine JQ.q (by first|(apply OQ.load;exact aF;rfl;exact .here;exact (Row.cell (v:=I xn) rfl))|(apply OQ.load;exact ez;rfl;exact (.there .here);exact (Row.cell (v:=.slice (some ⟨b,0,none⟩) n cap) rfl))|(apply OQ.len (k:=n) (ad:=some ⟨b,0,none⟩) (cap:=cap);exact Tryd.underlying31;rfl)|(apply OQ.to;exact (OQ.aB (vs:=[I xn,N n]) aV rfl (fun w' _=>bf xn n hn hn2 w'));exact hav)|(apply OQ.load;exact aF;rfl;exact .here;exact (Row.cell (v:=I 5) rfl))|(apply OQ.aU (a:=5) (b:=3);rfl;rfl;exact hg3)|(apply OQ.move;rfl)|(apply OQ.assign;rfl)|(apply OQ.cl;rfl)|(apply OQ.b8;rfl;rfl;rfl;exact (by decide);rfl)) rfl ?_ | refine JC.seq ?_ | refine JC.region ?_ | refine JC.block ?_ | refine JL.nil ?_ | refine JQ.nil ?_ | refine JE.next ?_)
  refine JC.cond_false rfl rfl ?_
  repeat (first | refine JL.q (by first|(apply OQ.aU (a:=5) (b:=4);rfl;rfl;exact hg4)|(apply OQ.assign;rfl)) rfl ?_ | refine JC.seq ?_ | refine JC.region ?_ | refine JL.nil ?_ | refine JE.next ?_)
  refine JC.cond_false rfl rfl ?_
  repeat (first | refine JL.q (by first|(apply OQ.aU (a:=5) (b:=5);rfl;rfl;exact hg5)|(apply OQ.assign;rfl)) rfl ?_ | refine JC.seq ?_ | refine JC.region ?_ | refine JL.nil ?_ | refine JE.next ?_)
  refine JC.cond_true rfl rfl ?_
  repeat (first | refine JL.q (by first|(apply OQ.load;exact ez;rfl;exact (.there .here);exact (Row.cell (v:=.slice (some ⟨b,0,none⟩) n cap) rfl))|(apply OQ.bZ (i:=at_) (b:=b) (j:=0) (len:=n) (cap:=cap);exact Tryd.underlying31;exact bY;rfl;rfl;exact hlt)|(apply OQ.load (v:=R.v);exact bX;rfl;exact (.there (.there .here));exact hcl)|(apply OQ.aB (vs:=[R.v]);exact ey;rfl;exact (fun w' hw'=>fm R w' (cC hok hw' haw) (by omega)))|(apply OQ.aB (vs:=[Z (aQ R.l)]);exact kf;rfl;exact (hq _))|(apply OQ.not;rfl)|(apply OQ.move;rfl)|(apply OQ.cl;rfl)|(apply OQ.b8;rfl;rfl;rfl;exact (by decide);rfl)) rfl ?_ | refine JC.seq ?_ | refine JC.region ?_ | refine JL.nil ?_ | refine JE.next ?_)
  cases pr with
  | true=>
    refine JC.cond_false rfl rfl ?_
    repeat (first | refine JC.skip ?_ | refine JE.aj ?_)
    refine JE.jd rfl fun w2 hw=>⟨rfl,?_⟩
    unfold cq
    rw [if_pos rfl,hnn]
    exact hw.weak (.drop _ _ _ (aA.refl _))
  | false=>
    refine JC.cond_true rfl rfl ?_
    have hdl : (cz fs at_).length=n - 1:=by unfold cz;rw [List.length_append,List.length_take,List.length_drop];omega
    repeat (first | refine JL.q (by first|(apply OQ.load;exact ez;rfl;exact (.there .here);exact (Row.cell (v:=.slice (some ⟨b,0,none⟩) n cap) rfl))|(apply OQ.bH (a:=at_) (b:=1);rfl;rfl;exact (by omega))|(apply OQ.move;rfl)|(apply OQ.cl;rfl)|(apply OQ.b8;rfl;rfl;rfl;exact (by decide);rfl)) rfl ?_ | refine JC.region ?_)
    refine JL.perm (M':=[⟨b,Sl.Own 22 1 n cap fs,true⟩]++[⟨b3,Row 26 (bB 5 xn xm tx),true⟩,⟨p,Row 33 [.slice (some ⟨b,0,none⟩) n cap,gv,cv],true⟩]) ?_ (List.perm_append_comm (l₁:=[_,_]))
    refine JL.eB (ι:=Unit) (X:=[⟨b,Sl.Own 22 1 n cap fs,true⟩]) (M0:=[⟨b3,Row 26 (bB 5 xn xm tx),true⟩,⟨p,Row 33 [.slice (some ⟨b,0,none⟩) n cap,gv,cv],true⟩]) (vs:=[.slice (some ⟨b,0,none⟩) n cap,N at_,N (at_+1)]) (fun _=>.slice (some ⟨b,0,none⟩) (n - 1) cap) (fun _=>[⟨b,Sl.Own 22 1 (n - 1) cap (cz fs at_),true⟩]) qT rfl rfl (fun e he=>by rw [List.mem_singleton.1 he]) (fun _ e he=>by rw [List.mem_singleton.1 he])
      (fun w' hw' hx'=>?_) ?_
    · have hx2 : aa w' [b] [⟨b,Sl.Own 22 1 fs.length cap fs,true⟩] w':=by rw [hnn];exact hx'
      have:=tF b cap fs at_ (at_+1) (by omega) (by omega) (by omega) hone w' hx2
      rw [show fs.take at_++fs.drop (at_+1)=cz fs at_ from rfl,hdl,hnn] at this
      exact this.mono fun e w2 ⟨g1,g2⟩=>⟨(),g1,g2⟩
    rintro ⟨⟩
    repeat (refine JL.q (by first|(apply OQ.cl;rfl)|(apply OQ.b8;rfl;rfl;rfl;exact (by decide);rfl)) rfl ?_)
    refine JL.aK (v:=.slice (some ⟨b,0,none⟩) (n - 1) cap) (r':=[.slice (some ⟨b,0,none⟩) (n - 1) cap,gv,cv]) xo rfl rfl rfl rfl (.there (.there .here)) (Nat.zero_lt_succ _) rfl ?_
    repeat (first | refine JL.nil ?_ | refine JE.aj ?_)
    refine JE.jd rfl fun w2 hw=>⟨rfl,?_⟩
    have hw : aa w S [⟨b,Sl.Own 22 1 (n - 1) cap (cz fs at_),true⟩,⟨b3,Row 26 (bB 5 xn xm tx),true⟩,⟨p,Row 33 [.slice (some ⟨b,0,none⟩) (n - 1) cap,gv,cv],true⟩] w2:=hw
    unfold cq
    rw [if_neg (by decide),hdl]
    exact (hw.weak (.keep _ _ _ _ _ _ (fun _ h=>h) (.drop _ _ _ (aA.refl _)))).perm (List.Perm.swap _ _ _)
end Rw
end
section
set_option maxRecDepth 10000
open Sl bV eu
namespace Rw
set_option maxHeartbeats 4000000 in
theorem qV (w : World) :
    Calls Tryd.prog 36 [.slice none 0 0,N 0].toArray w fun e w'=>e=.returned (.slice none 0 0)∧Ext w w':=by
  refine enter (n:=27) Tryd.func36 rfl rfl rfl (aa.start w []) ?_
  repeat (first | refine JL.q (by first|(apply OQ.jD (a:=0) (b:=0);rfl;rfl;exact (by omega))|(apply OQ.move;rfl)|(apply OQ.assign;rfl)) rfl ?_ | refine JC.seq ?_ | refine JC.region ?_ | refine JL.nil ?_ | refine JE.next ?_)
  refine JC.cond_false rfl rfl ?_
  have hg : decide ((((0 - 0 : Nat) : Nat) : Int)>0)=false:=rfl
  repeat (first | refine JL.q (by first|(apply OQ.vN (k:=0) (cap:=0) (ad:=none);exact Tryd.underlying22;rfl)|(apply OQ.len (k:=0) (cap:=0) (ad:=none);exact Tryd.underlying22;rfl)|(apply OQ.lJ (a:=0) (b:=0);rfl;rfl;exact (by decide);exact (by decide))|(apply OQ.eo (a:=((0 - 0 : Nat) : Int)) (b:=0);rfl;rfl;exact hg)|(apply OQ.move;rfl)|(apply OQ.assign;rfl)) rfl ?_ | refine JC.seq ?_ | refine JC.region ?_ | refine JC.skip ?_ | refine JL.nil ?_ | refine JE.next ?_)
  refine JC.cond_false rfl rfl ?_
  repeat (first | refine JL.q (by first|(apply OQ.move;rfl)|(apply OQ.assign;rfl)) rfl ?_ | refine JC.seq ?_ | refine JC.region ?_ | refine JC.skip ?_ | refine JL.nil ?_ | refine JE.next ?_)
  exact JC.ret (JE.aJ rfl (RV.tmp rfl) fun w' hw=>⟨rfl,hw.aC⟩)
set_option maxHeartbeats 4000000 in
theorem nR (ad : Option Addr) (cap : Nat) (w : World) :
    Calls Tryd.prog 20 [.slice ad 0 cap].toArray w fun e w'=>e=.returned (.slice none 0 0)∧Ext w w':=by
  refine enter (n:=36) Tryd.func20 rfl rfl rfl (aa.start w []) ?_
  repeat (first | refine JL.q (by first|(apply OQ.len (k:=0) (ad:=ad) (cap:=cap);exact Tryd.underlying31;rfl)|(apply OQ.move;rfl)|(apply OQ.assign;rfl)) rfl ?_ | refine JC.seq ?_ | refine JC.region ?_ | refine JC.block ?_ | refine JL.nil ?_ | refine JE.next ?_)
  refine JC.loop (fun _ : Unit=>[(0,.slice ad 0 cap),(3,N 0),(9,.slice ad 0 cap),(10,N 0),(11,N 0)]) (fun _=>[]) (fun _=>0) (fun _=>True) () trivial (by repeat (first | exact ax.nil | refine ax.cons _ _ _ rfl ?_)) (aA.refl _) ?_
  rintro ⟨⟩ _
  repeat (first | refine JL.q (by (apply OQ.jD (a:=0) (b:=0);rfl;rfl;exact (by omega))) rfl ?_ | refine JC.seq ?_ | refine JC.region ?_ | refine JL.nil ?_ | refine JE.next ?_)
  refine JC.cond_false rfl rfl ?_
  repeat (first | refine JL.q (by first|(apply OQ.aB (vs:=[.slice none 0 0,N 0]);exact jU;rfl;exact (fun w' _=>qV w'))|(apply OQ.len (k:=0) (ad:=ad) (cap:=cap);exact Tryd.underlying31;rfl)|(apply OQ.move;rfl)|(apply OQ.assign;rfl)) rfl ?_ | refine JC.seq ?_ | refine JC.region ?_ | refine JC.block ?_ | refine JC.exit ?_ | refine JL.nil ?_ | refine JE.next ?_ | refine JE.aS ?_ | refine JE.bE ?_)
  refine JC.loop (fun _ : Unit=>[(0,.slice ad 0 cap),(6,.slice none 0 0),(25,.slice ad 0 cap),(26,N 0),(27,N 0)]) (fun _=>[]) (fun _=>0) (fun _=>True) () trivial (by repeat (first | exact ax.nil | refine ax.cons _ _ _ rfl ?_)) (aA.refl _) ?_
  rintro ⟨⟩ _
  repeat (first | refine JL.q (by (apply OQ.jD (a:=0) (b:=0);rfl;rfl;exact (by omega))) rfl ?_ | refine JC.seq ?_ | refine JC.region ?_ | refine JL.nil ?_ | refine JE.next ?_)
  refine JC.cond_false rfl rfl ?_
  repeat (first | refine JL.q (by first|(apply OQ.move;rfl)|(apply OQ.assign;rfl)) rfl ?_ | refine JC.seq ?_ | refine JC.region ?_ | refine JC.exit ?_ | refine JL.nil ?_ | refine JE.next ?_ | refine JE.aS ?_ | refine JE.bE ?_)
  refine JC.ret ?_
  skip
  exact JE.aJ rfl (RV.tmp rfl) fun w' hw=>⟨rfl,hw.aC⟩
theorem nS {w0 : World} {g c : aq} {b9 : Nat} {MF : List az} (w' : World) (hg : g.ok w') (hc : c.ok w') (hl : g.l.length+c.l.length≤1000000000) (h0 : 0<g.l.length)
    (hw : aa w0 [] (⟨b9,Row 22 [eG.v,g.v,c.v],true⟩::MF) w') :
    Calls Tryd.prog 20 [.slice (some ⟨b9,0,none⟩) 3 3].toArray w' fun e w2=>∃ x : Nat × Nat,e=.returned (.slice (some ⟨x.1,0,none⟩) (g.l++c.l).length x.2)∧aa w' [] [⟨x.1,Sl.Own 5 1 (g.l++c.l).length x.2 ((g.l++c.l).map U8),true⟩] w2:=by
  obtain ⟨o,ho,hA⟩:=hw.get (b:=b9) .here
  have ok : gr.ok w' ⟨some ⟨b9,0,none⟩,3,[eG,g,c]⟩:=by
    refine ⟨Nat.le_refl _,Reads.block ho (Row.all _ hA),fun y hy=>?_⟩
    simp only [List.mem_cons,List.mem_nil_iff,or_false] at hy
    rcases hy with rfl | rfl | rfl
    · exact jn _
    · exact hg
    · exact hc
  have hcc : bM [eG,g,c] 3=g.l++c.l:=by rw [vR];rfl
  have:=eL _ w' ok (by show 0<(bM [eG,g,c] 3).length;rw [hcc,List.length_append];omega) (by show (bM [eG,g,c] 3).length≤_;rw [hcc,List.length_append];omega) (show 3≤1000000000 by decide)
  rw [show bM (⟨some ⟨b9,0,none⟩,3,[eG,g,c]⟩ : gr).rs (⟨some ⟨b9,0,none⟩,3,[eG,g,c]⟩ : gr).rs.length=g.l++c.l from hcc] at this
  exact this
set_option maxHeartbeats 8000000 in
theorem mm (ad : Option Addr) (cap : Nat) (g c : aq) (p : Nat) (t : TypeId) (w : World) (hp : w.heap[p]?=some (.cells #[.slice ad 0 cap,g.v,c.v] t (0,0))) (hg : g.ok w) (hc : c.ok w) (h0 : 0<g.l.length) (hl : g.l.length+c.l.length≤1000000000) :
    Calls Tryd.prog 13 [Pt p 0].toArray w fun e w'=>∃ x : Nat × Nat,e=.returned (.slice (some ⟨x.1,0,none⟩) (g.l++c.l).length x.2)∧aa w [] [⟨x.1,Sl.Own 5 1 (g.l++c.l).length x.2 ((g.l++c.l).map U8),true⟩] w':=by
  refine enter (n:=18) Tryd.func13 rfl rfl rfl (aa.start w []) ?_
  have hlt : p<w.heap.size:=(Array.getElem?_eq_some_iff.1 hp).1
  have hx : ∀ {M : List az} {w' : World},aa w [] M w'→w'.heap[p]?=some (.cells #[.slice ad 0 cap,g.v,c.v] t (0,0)):=fun hw=>(hw.aC.block p hlt (by simp)).trans hp
  repeat (first | refine JL.q (by (apply OQ.assign;rfl)) rfl ?_ | refine JC.seq ?_ | refine JC.region ?_ | refine JL.nil ?_ | refine JE.next ?_)
  let vs : Nat→WY→Value:=fun j y=>match j with
    | 0=>Pt p 0
    | 1=>Pt p 0
    | 2=>Pt p 0
    | 3=>.slice ad 0 cap
    | 4=>.slice none 0 0
    | 5=>Pt p 0
    | 6=>Pt p 0
    | 7=>Pt p 1
    | 8=>g.v
    | 9=>Pt p 0
    | 10=>Pt p 0
    | 11=>Pt p 2
    | 12=>c.v
    | 13=>.slice (some ⟨y.2.2,0,none⟩) 3 3
    | 14=>.slice (some ⟨y.1,0,none⟩) (g.l++c.l).length y.2.1
    | 15=>.slice (some ⟨y.1,0,none⟩) (g.l++c.l).length y.2.1
    | _=>N 0
  let Ms : Nat→WY→List az:=fun j y=>match j with
    | 13=>[⟨y.2.2,Row 22 [eG.v,g.v,c.v],true⟩]
    | 14=>[⟨y.1,Sl.Own 5 1 (g.l++c.l).length y.2.1 ((g.l++c.l).map U8),true⟩]
    | _=>[]
  refine JC.fS (g:=⟨[(0,Pt p 0)],16,vs,Ms,(fun j=>match j with | 1=>[(0,3)] | 2=>[(1,4)] | 3=>[(2,5)] | 4=>[(3,6)] | 6=>[(5,8)] | 7=>[(6,9)] | 8=>[(7,10)] | 10=>[(9,12)] | 11=>[(10,13)] | 12=>[(11,14)] | 13=>[(4,7),(8,11),(12,15)] | 14=>[(13,16)] | 15=>[(14,17)] | _=>[]),(fun j=>match j with | 14=>[13] | _=>[]),(fun j=>match j with | _=>[]),(fun j=>match j with | 15=>some 14 | _=>none),fun _=>[],fun _ a b=>a=b⟩) [(15,2)] [14] di (by repeat (first | exact ax.nil | refine ax.cons _ _ _ rfl ?_)) (fun _ _=>.nil) ?_ (by kernel_rfl) (by kernel_rfl) (by kernel_rfl) ?_ ?_
  · exact .nil _
  · refine ⟨?_,?_,?_,?_,?_,?_,?_,?_,?_,?_,?_,?_,?_,?_,?_,?_,trivial⟩
    · (intro xx EF MF Q kk;(try refine JL.aN rfl rfl ?_);exact JL.q (OQ.move rfl) rfl (JL.nil (kk default nofun)))
    · (intro xx EF MF Q kk;(try refine JL.aN rfl rfl ?_);exact JL.q (OQ.cl rfl) rfl (JL.nil (kk default nofun)))
    · (intro xx EF MF Q kk;(try refine JL.aN rfl rfl ?_);exact JL.q (OQ.b8 rfl rfl rfl (by decide) rfl) rfl (JL.nil (kk default nofun)))
    · (intro xx EF MF Q kk;(try refine JL.aN rfl rfl ?_);exact JL.q (OQ.cN (fun w' hw'=>bn ez (cell_of (hx hw') rfl)) rfl) rfl (JL.nil (kk default nofun)))
    · (intro xx EF MF Q kk;(try refine JL.aN rfl rfl ?_);exact JL.q (OQ.aB (vs:=[.slice ad 0 cap]) cV rfl (fun w' _=>nR ad cap w')) rfl (JL.nil (kk default nofun)))
    · (intro xx EF MF Q kk;(try refine JL.aN rfl rfl ?_);exact JL.q (OQ.move rfl) rfl (JL.nil (kk default nofun)))
    · (intro xx EF MF Q kk;(try refine JL.aN rfl rfl ?_);exact JL.q (OQ.cl rfl) rfl (JL.nil (kk default nofun)))
    · (intro xx EF MF Q kk;(try refine JL.aN rfl rfl ?_);exact JL.q (OQ.b8 rfl rfl rfl (by decide) rfl) rfl (JL.nil (kk default nofun)))
    · (intro xx EF MF Q kk;(try refine JL.aN rfl rfl ?_);exact JL.q (OQ.cN (fun w' hw'=>bn bX (cell_of (hx hw') rfl)) rfl) rfl (JL.nil (kk default nofun)))
    · (intro xx EF MF Q kk;(try refine JL.aN rfl rfl ?_);exact JL.q (OQ.move rfl) rfl (JL.nil (kk default nofun)))
    · (intro xx EF MF Q kk;(try refine JL.aN rfl rfl ?_);exact JL.q (OQ.cl rfl) rfl (JL.nil (kk default nofun)))
    · (intro xx EF MF Q kk;(try refine JL.aN rfl rfl ?_);exact JL.q (OQ.b8 rfl rfl rfl (by decide) rfl) rfl (JL.nil (kk default nofun)))
    · (intro xx EF MF Q kk;(try refine JL.aN rfl rfl ?_);exact JL.q (OQ.cN (fun w' hw'=>bn bX (cell_of (hx hw') rfl)) rfl) rfl (JL.nil (kk default nofun)))
    · (intro xx EF MF Q kk;exact JL.wz (v1:=eG.v) (v2:=g.v) (v3:=c.v) Tryd.underlying31 vP rfl rfl rfl rfl rfl rfl rfl rfl fun b0 _=>JL.nil (kk (0,0,b0) nofun))
    · (intro xx EF MF Q kk;exact JL.bC (ι:=Nat × Nat) (vs:=[.slice (some ⟨(xx 13).2.2,0,none⟩) 3 3]) (fun x=>.slice (some ⟨x.1,0,none⟩) (g.l++c.l).length x.2) (fun x=>[⟨x.1,Sl.Own 5 1 (g.l++c.l).length x.2 ((g.l++c.l).map U8),true⟩]) cV rfl rfl (fun x e he=>by rw [List.mem_singleton.1 he]) (fun w' hw'=>nS w' (hg.holds hw' rfl) (hc.holds hw' rfl) hl h0 hw') fun x=>JL.nil (kk (x.1,x.2,0) nofun))
    · (intro xx EF MF Q kk;(try refine JL.aN rfl rfl ?_);exact JL.q (OQ.assign rfl) rfl (JL.nil (kk (xx 14) (fun k h=>by cases h;rfl))))
  · intro xx hx
    have e1 : xx 15=xx 14:=hx 15 14 (by decide) rfl
    refine JE.next ?_
    skip
    refine JC.ret (JE.aJ rfl (RV.tmp rfl) fun w2 hw=>⟨((xx 15).1,(xx 15).2.1),rfl,?_⟩)
    rw [e1]
    exact hw
end Rw
end
section
set_option maxRecDepth 10000
open Sl eu
namespace Rw
def iY (L : List (List Bt)) (i : Nat) : List (List Bt):=if ic (aQ (L.getD i [])) then L else cz L i
theorem u0 {l : List Bt} {k : Nat} (hg : br l k) : 0<(bO l k).length:=by
  have h1:=(dj l k).1 hg.1
  have h2 : 0<aH (l.drop (au l k)):=fj (by rw [ne_eq,List.drop_eq_nil_iff];omega)
  have h3:=gM (l.drop (au l k))
  unfold bO
  rw [hg.2.1,List.length_nil,List.drop_zero,List.length_take]
  omega
theorem ki {α β : Type} (f : α→β) (L : List α) (i : Nat) : (cz L i).map f=cz (L.map f) i:=by
  unfold cz
  rw [List.map_append,List.map_take,List.map_drop]
theorem o8 {α : Type} {L : List α} {i : Nat} {x : α} (h : x ∈ cz L i) : x ∈ L:=by
  rcases List.mem_append.1 h with h | h
  · exact List.mem_of_mem_take h
  · exact List.mem_of_mem_drop h
set_option maxHeartbeats 8000000 in
theorem o9 (h : aq) (xn xm : Int) (tx : List Bt) (w : World) (hs : h.ok w) (hl : h.l.length≤100000000) {k : Nat} (hg : br h.l k) {F : List (Nat × Nat)} (hF : cc h.l k=F) (hne : F≠[]) {T : List Bt}
    (hT : (iY (F.map (aY (bA h k).l)) (cg xn F.length)).flatten=T) (h0 : iY (F.map (aY (bA h k).l)) (cg xn F.length)=[]∨0<T.length) (hP : eS w) (ht : T.length≤100000000) :
    Calls Tryd.prog 6 [h.v,.agg (bB 5 xn xm tx).toArray].toArray w (de (T++(bO h.l k++h.l.drop (au h.l (k+1)))) w):=by
  have hFn : 0<F.length:=List.length_pos_iff.2 hne
  have hdl : (bA h k).l=h.l.take (au h.l k):=rfl
  have hFl : F.length≤100000000:=by
    have:=dM (h.l.take (au h.l k))
    rw [show aZ (h.l.take (au h.l k))=F from hF,List.length_take] at this
    omega
  have hFb : ∀ p ∈ F,p.1+p.2≤(bA h k).l.length:=by
    have:=fJ (h.l.take (au h.l k))
    rw [show aZ (h.l.take (au h.l k))=F from hF] at this
    exact this
  refine enter (n:=45) Tryd.func6 rfl rfl rfl (aa.start w []) ?_
  have hg1 : decide ((5 : Int)=1)=false:=rfl
  have hg2 : decide ((5 : Int)=2)=false:=rfl
  have hg6 : decide ((5 : Int)=6)=false:=rfl
  refine JC.seq (JC.region ?_)
  refine JL.box (r:=bB 5 xn xm tx) rfl rfl rfl fun b3 _=>?_
  repeat (first | refine JL.q (by first|(apply OQ.load;exact aF;rfl;exact .here;exact (Row.cell (v:=I 5) rfl))|(apply OQ.aU (a:=5) (b:=1);rfl;rfl;exact hg1)|(apply OQ.assign;rfl)|(apply OQ.b8;rfl;rfl;rfl;exact (by decide);rfl)) rfl ?_ | refine JC.seq ?_ | refine JC.region ?_ | refine JC.block ?_ | refine JL.nil ?_ | refine JE.next ?_)
  refine JC.cond_false rfl rfl ?_
  repeat (first | refine JL.q (by first|(apply OQ.aU (a:=5) (b:=2);rfl;rfl;exact hg2)|(apply OQ.assign;rfl)) rfl ?_ | refine JC.seq ?_ | refine JC.region ?_ | refine JL.nil ?_ | refine JE.next ?_)
  refine JC.cond_false rfl rfl ?_
  repeat (first | refine JL.q (by (apply OQ.move;rfl)) rfl ?_ | refine JC.seq ?_ | refine JC.region ?_ | refine JC.skip ?_ | refine JE.next ?_ | refine JE.aj ?_)
  refine JL.bC (ι:=FQ F) (vs:=[h.v]) (fun q=>.tuple #[.agg (aW h k q.1).toArray,.bool true]) (fun q=>an 22 q.1 (F.map (aO (bA h k)))) cw rfl rfl (fun q e he=>aT _ _ _ e he) (fun w' hw'=>dg h w' (hs.holds hw' rfl) (by omega) hg hF) ?_
  rintro ⟨q,hq⟩
  obtain ⟨⟨b,cap⟩,rfl⟩ : ∃ x : Nat × Nat,q=some x:=by
    cases q with
    | none=>exact absurd (hq rfl) hne
    | some x=>exact ⟨x,rfl⟩
  dsimp only
  repeat (refine JL.q (by first|(apply OQ.extract;rfl;rfl)|(apply OQ.move;rfl)) rfl ?_)
  refine JL.alloc (r:=cB) (by kernel_rfl) rfl fun b5 _=>?_
  refine JL.bI (cs:=aW h k (some (b,cap))) (r:=cB) eA rfl rfl rfl (cx _ _ _) .here rfl ?_
  have hmv : aW h k (some (b,cap))=[.slice (some ⟨b,0,none⟩) F.length cap,(ay h k).v,(h.snd (au h.l (k+1))).v]:=by unfold aW;rw [hF];rfl
  rw [hmv]
  repeat (first | refine JL.q (by first|(apply OQ.load;exact aF;rfl;exact (.there (.there .here));exact (Row.cell (v:=I 5) rfl))|(apply OQ.aU (a:=5) (b:=6);rfl;rfl;exact hg6)|(apply OQ.aP;rfl;rfl)|(apply OQ.move;rfl)|(apply OQ.assign;rfl)|(apply OQ.b8;rfl;rfl;rfl;exact (by decide);rfl)) rfl ?_ | refine JC.seq ?_ | refine JC.region ?_ | refine JC.block ?_ | refine JL.nil ?_ | refine JE.next ?_ | refine JL.aN rfl rfl ?_)
  refine JC.cond_false rfl rfl ?_
  have hgt : decide ((F.length : Int)>0)=true:=decide_eq_true (by omega)
  repeat (first | refine JL.q (by first|(apply OQ.load;exact ez;rfl;exact .here;exact (Row.cell (v:=.slice (some ⟨b,0,none⟩) F.length cap) rfl))|(apply OQ.len (k:=F.length) (ad:=some ⟨b,0,none⟩) (cap:=cap);exact Tryd.underlying31;rfl)|(apply OQ.eo (b:=0);rfl;rfl;exact hgt)|(apply OQ.aP;rfl;rfl)|(apply OQ.move;rfl)|(apply OQ.assign;rfl)|(apply OQ.b8;rfl;rfl;rfl;exact (by decide);rfl)) rfl ?_ | refine JC.seq ?_ | refine JC.region ?_ | refine JL.nil ?_ | refine JE.next ?_ | refine JL.aN rfl rfl ?_)
  refine JC.cond_true rfl rfl ?_
  repeat (first | refine JL.q (by (apply OQ.cP (cs:=bB 5 xn xm tx);exact l5;exact uP;rfl;exact (.there (.there .here));rfl;exact Row.all)) rfl ?_ | refine JC.seq ?_ | refine JC.region ?_)
  obtain ⟨fs,hfs⟩ : ∃ fs,F.map (aO (bA h k))=fs:=⟨_,rfl⟩
  have hfl : fs.length=F.length:=by rw [← hfs,List.length_map]
  have hhd : ∀ {w' : World},h.ok w'→(bA h k).ok w':=fun h=>h.fst _
  rw [hfs]
  show JL _ _ _ _ _ _ _ _ (⟨b5,Row 33 [.slice (some ⟨b,0,none⟩) F.length cap,(ay h k).v,(h.snd (au h.l (k+1))).v],true⟩::⟨b,Sl.Own 22 1 fs.length cap fs,true⟩::[⟨b3,Row 26 (bB 5 xn xm tx),true⟩])
  rw [← hfl]
  show JL _ _ _ _ _ _ _ _ (cq b5 b cap (ay h k).v (h.snd (au h.l (k+1))).v fs++[⟨b3,Row 26 (bB 5 xn xm tx),true⟩])
  have hrows : (F.map (bu (bA h k))).map aq.v=fs:=by
    rw [List.map_map,← hfs]
    exact List.map_congr_left fun p hp=>eN (hFb p hp)
  obtain ⟨i,hi⟩ : ∃ i,cg xn fs.length=i:=⟨_,rfl⟩
  have hi1 : i<fs.length:=hi ▸ dL (by omega)
  have hrow : ∀ x,x<fs.length→∃ p ∈ F,(F.map (bu (bA h k))).getD x eG=bu (bA h k) p∧fs[x]?=some (bu (bA h k) p).v:=fun x hx=>by
    have hx2 : x<F.length:=by omega
    refine ⟨F[x],List.getElem_mem _,?_,?_⟩
    · rw [List.getD_eq_getElem?_getD,List.getElem?_map,List.getElem?_eq_getElem hx2]
      rfl
    · rw [← hrows,List.getElem?_map,List.getElem?_map,List.getElem?_eq_getElem hx2]
      rfl
  have hRl : ∀ p,(bu (bA h k) p).l.length≤1000000000:=fun p=>by
    show (((h.l.take _).drop _).take _).length≤_
    rw [List.length_take,List.length_drop,List.length_take]
    omega
  obtain ⟨p,hp,e1,f1⟩:=hrow i hi1
  obtain ⟨R,hR⟩ : ∃ R,bu (bA h k) p=R:=⟨_,rfl⟩
  rw [hR] at e1 f1
  have hRok : ∀ {w' : World},h.ok w'→R.ok w':=fun h=>hR ▸ bN (hhd h) (hFb p hp)
  have hRl2 : R.l.length≤1000000000:=hR ▸ hRl p
  obtain ⟨rs,hrs⟩ : ∃ rs,(if ic (aQ R.l) then F.map (bu (bA h k)) else cz (F.map (bu (bA h k))) i)=rs:=⟨_,rfl⟩
  have hls : rs.map aq.l=iY (F.map (aY (bA h k).l)) (cg xn F.length):=by
    have hg1 : (F.map (aY (bA h k).l)).getD i []=R.l:=by
      have:=congrArg aq.l e1
      rw [List.getD_eq_getElem?_getD,List.getElem?_map] at this ⊢
      rw [← this]
      cases F[i]? <;> rfl
    unfold iY
    rw [← hfl,hi,hg1,← hrs]
    have hmm : (F.map (bu (bA h k))).map aq.l=F.map (aY (bA h k).l):=by rw [List.map_map];rfl
    split
    · exact hmm
    · rw [ki,hmm]
  have hrl : (rs.map aq.l).flatten=T:=by rw [hls,hT]
  have hrv : rs.map aq.v=if ic (aQ R.l) then fs else cz fs i:=by
    rw [← hrs]
    split
    · exact hrows
    · rw [ki,hrows]
  have hrn2 : rs.length≤F.length:=by
    rw [← hrs]
    split
    · rw [List.length_map];exact Nat.le_refl _
    · unfold cz
      rw [List.length_append,List.length_take,List.length_drop,List.length_map]
      omega
  have hmem : ∀ y ∈ rs,∃ p ∈ F,y=bu (bA h k) p:=fun y hy=>by
    have : y ∈ F.map (bu (bA h k)):=by
      rw [← hrs] at hy
      split at hy
      · exact hy
      · exact o8 hy
    obtain ⟨p,hp,rfl⟩:=List.mem_map.1 this
    exact ⟨p,hp,rfl⟩
  have hone : ∀ v ∈ fs,v.oneCell'=true:=fun v hv=>by
    rw [← hrows] at hv
    obtain ⟨s,_,rfl⟩:=List.mem_map.1 hv
    rfl
  have hPg : 1<w.heap.size:=by
    obtain ⟨_,_,hP⟩:=hP
    exact (Array.getElem?_eq_some_iff.1 hP).1
  refine JL.eB (ι:=Unit) (X:=cq b5 b cap (ay h k).v (h.snd (au h.l (k+1))).v fs) (M0:=[⟨b3,Row 26 (bB 5 xn xm tx),true⟩]) (vs:=[Pt b5 0,.agg (bB 5 xn xm tx).toArray]) (fun _=>.tuple #[]) (fun _=>cq b5 b cap (ay h k).v (h.snd (au h.l (k+1))).v (rs.map aq.v)) cL rfl rfl bQ (fun _=>bQ)
    (fun w' hw' hx'=>?_) ?_
  · have hnk : 1 ∉ keys (cq b5 b cap (ay h k).v (h.snd (au h.l (k+1))).v fs):=fun hm=>by
      obtain ⟨e,he,hb⟩:=List.mem_map.1 hm
      rcases (hw'.all e (List.mem_append_left _ he)).2 (bQ e he) with h | h
      · simp at h
      · omega
    have:=nQ b5 b cap (ay h k).v (h.snd (au h.l (k+1))).v fs R xn xm tx w' _ hx' (by omega) (by omega) (by omega) (by rw [hi];exact f1) (hRok (hs.holds hw' rfl)) (dN hw' bQ (hRok hs)) hRl2 (hP.ext hw'.aC) hnk hone rfl
    rw [hi,← hrv] at this
    exact this.mono fun e w2 ⟨g1,g2⟩=>⟨(),g1,g2⟩
  rintro ⟨⟩
  repeat (first | refine JC.seq ?_ | refine JC.region ?_ | refine JL.nil ?_ | refine JE.next ?_)
  have hcA : jk ⟨some ⟨b,0,none⟩,cap,rs⟩=T:=by
    show ((rs.take rs.length).map aq.l).flatten=T
    rw [List.take_length,hrl]
  rw [← dn,show h.l.drop (au h.l (k+1))=(h.snd (au h.l (k+1))).l from rfl]
  have hel : (ay h k).l.length≤h.l.length:=by rw [dn];exact eO _ _
  have hdr : (h.snd (au h.l (k+1))).l.length≤h.l.length:=by show (h.l.drop _).length≤_;rw [List.length_drop];omega
  refine JL.bC (ι:=Nat × Nat) (vs:=[Pt b5 0]) (fun x=>.slice (some ⟨x.1,0,none⟩) (T++((ay h k).l++(h.snd (au h.l (k+1))).l)).length x.2) (fun x=>[⟨x.1,Sl.Own 5 1 (T++((ay h k).l++(h.snd (au h.l (k+1))).l)).length x.2 ((T++((ay h k).l++(h.snd (au h.l (k+1))).l)).map U8),true⟩]) cy rfl rfl (fun x e he=>by rw [List.mem_singleton.1 he]) (fun w' hw'=>?_) fun x=>?_
  · have ok:=hs.holds hw' rfl
    have hw2 : aa w [] (⟨b5,Row 33 [.slice (some ⟨b,0,none⟩) (rs.map aq.v).length cap,(ay h k).v,(h.snd (au h.l (k+1))).v],true⟩::⟨b,Sl.Own 22 1 (rs.map aq.v).length cap (rs.map aq.v),true⟩::[⟨b3,Row 26 (bB 5 xn xm tx),true⟩]) w':=hw'
    rw [List.length_map] at hw2
    obtain ⟨o,ho,hA⟩:=hw2.get (b:=b5) .here
    obtain ⟨o2,ho2,hA2⟩:=hw2.get (b:=b) (.there .here)
    have hh:=Sl.Own.cells _ hA2
    by_cases hre : rs=[]
    · have hT0 : T=[]:=by rw [← hrl,hre];rfl
      rw [hre] at hA
      have:=mm (some ⟨b,0,none⟩) cap (ay h k) (h.snd (au h.l (k+1))) b5 33 w' (by rw [ho];exact congrArg some hA) (dB ok k) (ok.snd _ (bF _ _)) (by rw [dn];exact u0 hg) (by omega)
      rw [hT0,List.nil_append]
      exact this
    have h1 : 0<T.length:=h0.resolve_left fun e=>hre (List.map_eq_nil_iff.1 (hls.trans e))
    have iL : gr.ok w' ⟨some ⟨b,0,none⟩,cap,rs⟩:=by
      refine ⟨?_,Reads.block ho2 hh,fun y hy=>?_⟩
      · obtain ⟨sp,_,_,_,h4⟩:=hA2
        exact h4
      · obtain ⟨p',hp',rfl⟩:=hmem y hy
        exact bN (hhd ok) (hFb p' hp')
    have:=cK ⟨some ⟨b,0,none⟩,cap,rs⟩ (ay h k) (h.snd (au h.l (k+1))) b5 33 w' (by rw [ho];exact congrArg some hA) iL (dB ok k) (ok.snd _ (bF _ _)) (by rw [hcA];exact h1) (by show rs.length≤_;omega) (by rw [hcA];omega)
    rw [hcA] at this
    exact this
  · repeat (first | refine JL.q (by (apply OQ.assign;rfl)) rfl ?_ | refine JL.nil ?_ | refine JE.next ?_)
    refine JC.ret ?_
    repeat (first | refine JE.av ?_ | refine JE.aI ?_)
    exact JE.aJ rfl (RV.tmp rfl) fun w' hw=>⟨⟨some ⟨x.1,0,none⟩,x.2,_⟩,rfl,hw.aC,rfl,dy hw .here⟩
end Rw
end
section
set_option maxRecDepth 10000
open Sl eu
namespace Rw
theorem pg : aR Tryd.prog 26:=⟨_,Tryd.func26,rfl,by kernel_rfl⟩
theorem pn : aR Tryd.prog 42:=⟨_,Tryd.func42,rfl,by kernel_rfl⟩
theorem pz (b i : Nat) : Pt b (0+i)=Pt b i:=by rw [Nat.zero_add]
set_option maxHeartbeats 8000000 in
theorem pq (p b cap i : Nat) (gv cv : Value) (fs : List Value) (w : World) (S : List Nat) (h0 : aa w S (cq p b cap gv cv fs) w) (hi : i+1=fs.length) (hn2 : fs.length<4611686018427387904) :
    Calls Tryd.prog 26 [Pt p 0,N i].toArray w fun e w'=>e=.returned (.tuple #[])∧aa w S (cq p b cap gv cv fs) w':=by
  refine enter (n:=59) Tryd.func26 rfl rfl rfl h0 ?_
  obtain ⟨n,hnn⟩ : ∃ n,fs.length=n:=⟨_,rfl⟩
  show JC _ _ _ _ _ _ _ [⟨p,Row 33 [.slice (some ⟨b,0,none⟩) fs.length cap,gv,cv],true⟩,⟨b,Sl.Own 22 1 fs.length cap fs,true⟩]
  rw [hnn] at hi hn2 ⊢
  have hg : decide (((i+1 : Nat) : Int)=(n : Int))=true:=decide_eq_true (by omega)
  repeat (first | refine JL.q (by first|(apply OQ.bH (a:=i) (b:=1);rfl;rfl;exact (by omega))|(apply OQ.move;rfl)|(apply OQ.assign;rfl)) rfl ?_ | refine JC.seq ?_ | refine JC.region ?_ | refine JL.nil ?_ | refine JE.next ?_)
  refine JC.quiet di (by kernel_rfl) ?_
  repeat (first | refine JQ.q (by first|(apply OQ.load;exact ez;rfl;exact .here;exact (Row.cell (v:=.slice (some ⟨b,0,none⟩) n cap) rfl))|(apply OQ.len (k:=n) (ad:=some ⟨b,0,none⟩) (cap:=cap);exact Tryd.underlying31;rfl)|(apply OQ.aU;rfl;rfl;exact hg)|(apply OQ.aP;rfl;rfl)|(apply OQ.move;rfl)|(apply OQ.cl;rfl)|(apply OQ.b8;rfl;rfl;rfl;exact (by decide);rfl)) rfl ?_ | refine JQ.nil ?_ | refine JE.next ?_ | refine JQ.cj rfl rfl rfl rfl ?_)
  refine JC.cond_true rfl rfl ?_
  refine JC.ret ?_
  repeat (refine JE.av ?_)
  refine JE.qm rfl fun w2 hw=>⟨rfl,?_⟩
  unfold cq
  rw [hnn]
  exact hw
set_option maxHeartbeats 8000000 in
theorem qW (p b cap i : Nat) (gv cv : Value) (fs : List Value) (R1 R2 : aq) (sm : Bool) (w : World) (S : List Nat) (h0 : aa w S (cq p b cap gv cv fs) w) (hi : i+1<fs.length) (hn2 : fs.length<4611686018427387904) (hR1 : fs[i]?=some R1.v) (hR2 : fs[i+1]?=some R2.v) (ok1 : R1.ok w) (rP : R2.ok w) (aw1 : dW R1 S) (aw2 : dW R2 S) (hl1 : R1.l.length≤1000000000) (hl2 : R2.l.length≤1000000000) (hsm : bV.bD (aQ R1.l) (aQ R2.l)=sm) :
    Calls Tryd.prog 26 [Pt p 0,N i].toArray w fun e w'=>e=.returned (.tuple #[])∧aa w S (cq p b cap gv cv (if sm then fs else (fs.set i R2.v).set (i+1) R1.v)) w':=by
  refine enter (n:=59) Tryd.func26 rfl rfl rfl h0 ?_
  obtain ⟨n,hnn⟩ : ∃ n,fs.length=n:=⟨_,rfl⟩
  show JC _ _ _ _ _ _ _ [⟨p,Row 33 [.slice (some ⟨b,0,none⟩) fs.length cap,gv,cv],true⟩,⟨b,Sl.Own 22 1 fs.length cap fs,true⟩]
  rw [hnn] at hi hn2 ⊢
  have hi0 : i<n:=by omega
  have hg : decide (((i+1 : Nat) : Int)=(n : Int))=false:=decide_eq_false (by omega)
  have hc1 : ∀ o,Sl.Own 22 1 n cap fs o→cellAt o (0+i)=some R1.v:=by rw [Nat.zero_add];exact Sl.Own.cell hR1
  have hc2 : ∀ o,Sl.Own 22 1 n cap fs o→cellAt o (0+(i+1))=some R2.v:=by rw [Nat.zero_add];exact Sl.Own.cell hR2
  have hnl:=lX R1.l
  have hq : ∀ w' : World,Calls Tryd.prog 42 [Z (aQ R1.l),Z (aQ R2.l)].toArray w' fun e w2=>e=.returned (.bool sm)∧Ext w' w2:=fun w'=>by
    have:=fL (aQ R1.l) (aQ R2.l) w' (by omega)
    rw [hsm] at this
    exact this
  repeat (first | refine JL.q (by first|(apply OQ.bH (a:=i) (b:=1);rfl;rfl;exact (by omega))|(apply OQ.move;rfl)|(apply OQ.assign;rfl)) rfl ?_ | refine JC.seq ?_ | refine JC.region ?_ | refine JL.nil ?_ | refine JE.next ?_)
  refine JC.quiet di (by kernel_rfl) ?_
  repeat (first | refine JQ.q (by first|(apply OQ.load;exact ez;rfl;exact .here;exact (Row.cell (v:=.slice (some ⟨b,0,none⟩) n cap) rfl))|(apply OQ.len (k:=n) (ad:=some ⟨b,0,none⟩) (cap:=cap);exact Tryd.underlying31;rfl)|(apply OQ.aU;rfl;rfl;exact hg)|(apply OQ.bZ (i:=i) (b:=b) (j:=0) (len:=n) (cap:=cap);exact Tryd.underlying31;exact bY;rfl;rfl;exact hi0)|(apply OQ.bZ (i:=i+1) (b:=b) (j:=0) (len:=n) (cap:=cap);exact Tryd.underlying31;exact bY;rfl;rfl;exact hi)|(apply OQ.load (v:=R1.v);exact bX;rfl;exact (.there .here);exact hc1)|(apply OQ.load (v:=R2.v);exact bX;rfl;exact (.there .here);exact hc2)|(apply OQ.aB (vs:=[R1.v]);exact ey;rfl;exact (fun w' hw'=>fm R1 w' (cC ok1 hw' aw1) (by omega)))|(apply OQ.aB (vs:=[R2.v]);exact ey;rfl;exact (fun w' hw'=>fm R2 w' (cC rP hw' aw2) (by omega)))|(apply OQ.aB (vs:=[Z (aQ R1.l),Z (aQ R2.l)]);exact pn;rfl;exact (fun w' _=>hq w'))|(apply OQ.bz;rfl;rfl)|(apply OQ.move;rfl)|(apply OQ.cl;rfl)|(apply OQ.b8;rfl;rfl;rfl;exact (by decide);rfl)) rfl ?_ | refine JQ.nil ?_ | refine JE.next ?_ | refine JQ.aN rfl rfl ?_)
  cases sm with
  | true=>
    refine JC.cond_true rfl rfl ?_
    refine JC.ret ?_
    repeat (refine JE.av ?_)
    refine JE.qm rfl fun w2 hw=>⟨rfl,?_⟩
    unfold cq
    rw [if_pos rfl,hnn]
    exact hw
  | false=>
    refine JC.cond_false rfl rfl ?_
    repeat (first | refine JC.skip ?_ | refine JE.next ?_)
    let vs : Nat→Nat→Value:=fun j y=>match j with
      | 0=>Pt p 0
      | 1=>Pt p 0
      | 2=>Pt p 0
      | 3=>.slice (some ⟨b,0,none⟩) n cap
      | 4=>N i
      | 5=>Pt p 0
      | 6=>Pt p 0
      | 7=>Pt p 0
      | 8=>.slice (some ⟨b,0,none⟩) n cap
      | 9=>N (i+1)
      | 10=>Pt p 0
      | 11=>Pt p 0
      | 12=>Pt p 0
      | 13=>.slice (some ⟨b,0,none⟩) n cap
      | 14=>N (i+1)
      | 15=>Pt b (0+(i+1))
      | 16=>R2.v
      | 17=>Pt p 0
      | 18=>Pt p 0
      | 19=>Pt p 0
      | 20=>.slice (some ⟨b,0,none⟩) n cap
      | 21=>N i
      | 22=>Pt b (0+i)
      | 23=>R1.v
      | 24=>Pt b i
      | 26=>Pt b (i+1)
      | _=>N 0
    let Ms : Nat→Nat→List az:=fun j y=>match j with
      | 25=>[⟨b,Sl.Own 22 1 n cap (fs.set i R2.v),true⟩]
      | 27=>[⟨b,Sl.Own 22 1 n cap ((fs.set i R2.v).set (i+1) R1.v),true⟩]
      | 28=>[⟨p,Row 33 [.slice (some ⟨b,0,none⟩) n cap,gv,cv],true⟩]
      | 29=>[⟨b,Sl.Own 22 1 n cap fs,true⟩]
      | _=>[]
    refine JC.fS (g:=⟨[(0,Pt p 0),(1,N i),(4,N (i+1))],30,vs,Ms,(fun j=>match j with | 1=>[(0,33)] | 2=>[(1,34)] | 3=>[(2,35)] | 6=>[(5,38)] | 7=>[(6,39)] | 8=>[(7,40)] | 11=>[(10,43)] | 12=>[(11,44)] | 13=>[(12,45)] | 15=>[(13,46),(14,47)] | 16=>[(15,48)] | 18=>[(17,50)] | 19=>[(18,51)] | 20=>[(19,52)] | 22=>[(20,53),(21,54)] | 23=>[(22,55)] | 24=>[(3,36),(4,37)] | 25=>[(24,57),(16,49)] | 26=>[(8,41),(9,42)] | 27=>[(26,58),(23,56)] | _=>[]),(fun j=>match j with | 3=>[28] | 8=>[28] | 13=>[28] | 16=>[29] | 20=>[28] | 23=>[29] | 25=>[29] | 27=>[25] | _=>[]),(fun j=>match j with | 25=>[29] | 27=>[25] | _=>[]),(fun j=>match j with | _=>none),fun _=>[],fun _ _ _=>True⟩) [] [28,27] di (by repeat (first | exact ax.nil | refine ax.cons _ _ _ rfl ?_)) (fun _ _=>.nil) ?_ (by kernel_rfl) (by kernel_rfl) (by kernel_rfl) ?_ ?_
    · exact aA.refl _
    · refine ⟨?_,?_,?_,?_,?_,?_,?_,?_,?_,?_,?_,?_,?_,?_,?_,?_,?_,?_,?_,?_,?_,?_,?_,?_,?_,?_,?_,?_,trivial⟩
      · (intro xx EF MF Q kk;(try refine JL.aN rfl rfl ?_);exact JL.q (OQ.move rfl) rfl (JL.nil (kk default nofun)))
      · (intro xx EF MF Q kk;(try refine JL.aN rfl rfl ?_);exact JL.q (OQ.cl rfl) rfl (JL.nil (kk default nofun)))
      · (intro xx EF MF Q kk;(try refine JL.aN rfl rfl ?_);exact JL.q (OQ.b8 rfl rfl rfl (by decide) rfl) rfl (JL.nil (kk default nofun)))
      · (intro xx EF MF Q kk;(try refine JL.aN rfl rfl ?_);exact JL.q (OQ.load ez rfl .here (Row.cell (v:=.slice (some ⟨b,0,none⟩) n cap) rfl)) rfl (JL.nil (kk default nofun)))
      · (intro xx EF MF Q kk;(try refine JL.aN rfl rfl ?_);exact JL.q (OQ.move rfl) rfl (JL.nil (kk default nofun)))
      · (intro xx EF MF Q kk;(try refine JL.aN rfl rfl ?_);exact JL.q (OQ.move rfl) rfl (JL.nil (kk default nofun)))
      · (intro xx EF MF Q kk;(try refine JL.aN rfl rfl ?_);exact JL.q (OQ.cl rfl) rfl (JL.nil (kk default nofun)))
      · (intro xx EF MF Q kk;(try refine JL.aN rfl rfl ?_);exact JL.q (OQ.b8 rfl rfl rfl (by decide) rfl) rfl (JL.nil (kk default nofun)))
      · (intro xx EF MF Q kk;(try refine JL.aN rfl rfl ?_);exact JL.q (OQ.load ez rfl .here (Row.cell (v:=.slice (some ⟨b,0,none⟩) n cap) rfl)) rfl (JL.nil (kk default nofun)))
      · (intro xx EF MF Q kk;(try refine JL.aN rfl rfl ?_);exact JL.q (OQ.move rfl) rfl (JL.nil (kk default nofun)))
      · (intro xx EF MF Q kk;(try refine JL.aN rfl rfl ?_);exact JL.q (OQ.move rfl) rfl (JL.nil (kk default nofun)))
      · (intro xx EF MF Q kk;(try refine JL.aN rfl rfl ?_);exact JL.q (OQ.cl rfl) rfl (JL.nil (kk default nofun)))
      · (intro xx EF MF Q kk;(try refine JL.aN rfl rfl ?_);exact JL.q (OQ.b8 rfl rfl rfl (by decide) rfl) rfl (JL.nil (kk default nofun)))
      · (intro xx EF MF Q kk;(try refine JL.aN rfl rfl ?_);exact JL.q (OQ.load ez rfl .here (Row.cell (v:=.slice (some ⟨b,0,none⟩) n cap) rfl)) rfl (JL.nil (kk default nofun)))
      · (intro xx EF MF Q kk;(try refine JL.aN rfl rfl ?_);exact JL.q (OQ.move rfl) rfl (JL.nil (kk default nofun)))
      · (intro xx EF MF Q kk;(try refine JL.aN rfl rfl ?_);exact JL.q (OQ.bZ (i:=i+1) (b:=b) (j:=0) (len:=n) (cap:=cap) Tryd.underlying31 bY rfl rfl hi) rfl (JL.nil (kk default nofun)))
      · (intro xx EF MF Q kk;(try refine JL.aN rfl rfl ?_);exact JL.q (OQ.load (v:=R2.v) bX rfl .here hc2) rfl (JL.nil (kk default nofun)))
      · (intro xx EF MF Q kk;(try refine JL.aN rfl rfl ?_);exact JL.q (OQ.move rfl) rfl (JL.nil (kk default nofun)))
      · (intro xx EF MF Q kk;(try refine JL.aN rfl rfl ?_);exact JL.q (OQ.cl rfl) rfl (JL.nil (kk default nofun)))
      · (intro xx EF MF Q kk;(try refine JL.aN rfl rfl ?_);exact JL.q (OQ.b8 rfl rfl rfl (by decide) rfl) rfl (JL.nil (kk default nofun)))
      · (intro xx EF MF Q kk;(try refine JL.aN rfl rfl ?_);exact JL.q (OQ.load ez rfl .here (Row.cell (v:=.slice (some ⟨b,0,none⟩) n cap) rfl)) rfl (JL.nil (kk default nofun)))
      · (intro xx EF MF Q kk;(try refine JL.aN rfl rfl ?_);exact JL.q (OQ.move rfl) rfl (JL.nil (kk default nofun)))
      · (intro xx EF MF Q kk;(try refine JL.aN rfl rfl ?_);exact JL.q (OQ.bZ (i:=i) (b:=b) (j:=0) (len:=n) (cap:=cap) Tryd.underlying31 bY rfl rfl hi0) rfl (JL.nil (kk default nofun)))
      · (intro xx EF MF Q kk;(try refine JL.aN rfl rfl ?_);exact JL.q (OQ.load (v:=R1.v) bX rfl .here hc1) rfl (JL.nil (kk default nofun)))
      · (intro xx EF MF Q kk;(try refine JL.aN rfl rfl ?_);exact JL.q (OQ.to (OQ.bZ (i:=i) (b:=b) (j:=0) (len:=n) (cap:=cap) Tryd.underlying31 bY rfl rfl hi0) (pz b i)) rfl (JL.nil (kk default nofun)))
      · (intro xx EF MF Q kk;exact JL.cG (j:=i) (v:=R2.v) (xs:=fs) (xs':=fs.set i R2.v) bY rfl rfl rfl rfl .here (by rw [hnn];exact hi0) rfl (JL.nil (kk default nofun)))
      · (intro xx EF MF Q kk;(try refine JL.aN rfl rfl ?_);exact JL.q (OQ.to (OQ.bZ (i:=i+1) (b:=b) (j:=0) (len:=n) (cap:=cap) Tryd.underlying31 bY rfl rfl hi) (pz b (i+1))) rfl (JL.nil (kk default nofun)))
      · (intro xx EF MF Q kk;exact JL.cG (j:=i+1) (v:=R1.v) (xs:=fs.set i R2.v) (xs':=(fs.set i R2.v).set (i+1) R1.v) bY rfl rfl rfl rfl .here (by rw [List.length_set,hnn];exact hi) rfl (JL.nil (kk default nofun)))
    · intro xx hx
      refine JE.jd rfl fun w2 hw=>⟨rfl,?_⟩
      have hw : aa w S [⟨p,Row 33 [.slice (some ⟨b,0,none⟩) n cap,gv,cv],true⟩,⟨b,Sl.Own 22 1 n cap ((fs.set i R2.v).set (i+1) R1.v),true⟩] w2:=hw
      unfold cq
      rw [if_neg (by decide),List.length_set,List.length_set,hnn]
      exact hw
end Rw
end
section
set_option maxRecDepth 10000
open Sl bV eu
namespace Rw
set_option maxHeartbeats 8000000 in
theorem nT (h : aq) (kd xn xm : Int) (tx : List Bt) (w : World) (hs : h.ok w) (hl : h.l.length≤100000000) (hk : ∀ j ∈ [1,2,3,4,5,6,7,8],kd≠j) {k : Nat} (hg : br h.l k) {F : List (Nat × Nat)} (hF : cc h.l k=F) (hne : F≠[]) :
    Calls Tryd.prog 6 [h.v,.agg (bB kd xn xm tx).toArray].toArray w (de h.l w):=by
  have hFn : 0<F.length:=List.length_pos_iff.2 hne
  have hdl : (bA h k).l=h.l.take (au h.l k):=rfl
  have hFl : F.length≤100000000:=by
    have:=dM (h.l.take (au h.l k))
    rw [show aZ (h.l.take (au h.l k))=F from hF,List.length_take] at this
    omega
  have hFb : ∀ p ∈ F,p.1+p.2≤(bA h k).l.length:=by
    have:=fJ (h.l.take (au h.l k))
    rw [show aZ (h.l.take (au h.l k))=F from hF] at this
    exact this
  obtain ⟨T,hT⟩ : ∃ T,(F.map (aY (bA h k).l)).flatten=T:=⟨_,rfl⟩
  have hTw : T=h.l.take (au h.l k):=by
    rw [← hT,← hF]
    exact lq (by rw [show aZ (bA h k).l=F from hF];exact hne)
  have hTl : T++(bO h.l k++h.l.drop (au h.l (k+1)))=h.l:=by rw [hTw];exact lu hg
  have ht : T.length≤100000000:=by rw [hTw,List.length_take];omega
  rw [← hTl]
  refine enter (n:=45) Tryd.func6 rfl rfl rfl (aa.start w []) ?_
  have hg1 : decide (kd=1)=false:=decide_eq_false (hk 1 (by simp))
  have hg2 : decide (kd=2)=false:=decide_eq_false (hk 2 (by simp))
  have hg6 : decide (kd=6)=false:=decide_eq_false (hk 6 (by simp))
  refine JC.seq (JC.region ?_)
  refine JL.box (r:=bB kd xn xm tx) rfl rfl rfl fun b3 _=>?_
  repeat (first | refine JL.q (by first|(apply OQ.load;exact aF;rfl;exact .here;exact (Row.cell (v:=I kd) rfl))|(apply OQ.aU (a:=kd) (b:=1);rfl;rfl;exact hg1)|(apply OQ.assign;rfl)|(apply OQ.b8;rfl;rfl;rfl;exact (by decide);rfl)) rfl ?_ | refine JC.seq ?_ | refine JC.region ?_ | refine JC.block ?_ | refine JL.nil ?_ | refine JE.next ?_)
  refine JC.cond_false rfl rfl ?_
  repeat (first | refine JL.q (by first|(apply OQ.aU (a:=kd) (b:=2);rfl;rfl;exact hg2)|(apply OQ.assign;rfl)) rfl ?_ | refine JC.seq ?_ | refine JC.region ?_ | refine JL.nil ?_ | refine JE.next ?_)
  refine JC.cond_false rfl rfl ?_
  repeat (first | refine JL.q (by (apply OQ.move;rfl)) rfl ?_ | refine JC.seq ?_ | refine JC.region ?_ | refine JC.skip ?_ | refine JE.next ?_ | refine JE.aj ?_)
  refine JL.bC (ι:=FQ F) (vs:=[h.v]) (fun q=>.tuple #[.agg (aW h k q.1).toArray,.bool true]) (fun q=>an 22 q.1 (F.map (aO (bA h k)))) cw rfl rfl (fun q e he=>aT _ _ _ e he) (fun w' hw'=>dg h w' (hs.holds hw' rfl) (by omega) hg hF) ?_
  rintro ⟨q,hq⟩
  obtain ⟨⟨b,cap⟩,rfl⟩ : ∃ x : Nat × Nat,q=some x:=by
    cases q with
    | none=>exact absurd (hq rfl) hne
    | some x=>exact ⟨x,rfl⟩
  dsimp only
  repeat (refine JL.q (by first|(apply OQ.extract;rfl;rfl)|(apply OQ.move;rfl)) rfl ?_)
  refine JL.alloc (r:=cB) (by kernel_rfl) rfl fun b5 _=>?_
  refine JL.bI (cs:=aW h k (some (b,cap))) (r:=cB) eA rfl rfl rfl (cx _ _ _) .here rfl ?_
  have hmv : aW h k (some (b,cap))=[.slice (some ⟨b,0,none⟩) F.length cap,(ay h k).v,(h.snd (au h.l (k+1))).v]:=by unfold aW;rw [hF];rfl
  rw [hmv]
  repeat (first | refine JL.q (by first|(apply OQ.load;exact aF;rfl;exact (.there (.there .here));exact (Row.cell (v:=I kd) rfl))|(apply OQ.aU (a:=kd) (b:=6);rfl;rfl;exact hg6)|(apply OQ.aP;rfl;rfl)|(apply OQ.move;rfl)|(apply OQ.assign;rfl)|(apply OQ.b8;rfl;rfl;rfl;exact (by decide);rfl)) rfl ?_ | refine JC.seq ?_ | refine JC.region ?_ | refine JC.block ?_ | refine JL.nil ?_ | refine JE.next ?_ | refine JL.aN rfl rfl ?_)
  refine JC.cond_false rfl rfl ?_
  have hgt : decide ((F.length : Int)>0)=true:=decide_eq_true (by omega)
  repeat (first | refine JL.q (by first|(apply OQ.load;exact ez;rfl;exact .here;exact (Row.cell (v:=.slice (some ⟨b,0,none⟩) F.length cap) rfl))|(apply OQ.len (k:=F.length) (ad:=some ⟨b,0,none⟩) (cap:=cap);exact Tryd.underlying31;rfl)|(apply OQ.eo (b:=0);rfl;rfl;exact hgt)|(apply OQ.aP;rfl;rfl)|(apply OQ.move;rfl)|(apply OQ.assign;rfl)|(apply OQ.b8;rfl;rfl;rfl;exact (by decide);rfl)) rfl ?_ | refine JC.seq ?_ | refine JC.region ?_ | refine JL.nil ?_ | refine JE.next ?_ | refine JL.aN rfl rfl ?_)
  refine JC.cond_true rfl rfl ?_
  repeat (first | refine JL.q (by (apply OQ.cP (cs:=bB kd xn xm tx);exact l5;exact uP;rfl;exact (.there (.there .here));rfl;exact Row.all)) rfl ?_ | refine JC.seq ?_ | refine JC.region ?_)
  obtain ⟨fs,hfs⟩ : ∃ fs,F.map (aO (bA h k))=fs:=⟨_,rfl⟩
  have hfl : fs.length=F.length:=by rw [← hfs,List.length_map]
  have hhd : ∀ {w' : World},h.ok w'→(bA h k).ok w':=fun h=>h.fst _
  rw [hfs]
  show JL _ _ _ _ _ _ _ _ (⟨b5,Row 33 [.slice (some ⟨b,0,none⟩) F.length cap,(ay h k).v,(h.snd (au h.l (k+1))).v],true⟩::⟨b,Sl.Own 22 1 fs.length cap fs,true⟩::[⟨b3,Row 26 (bB kd xn xm tx),true⟩])
  rw [← hfl]
  show JL _ _ _ _ _ _ _ _ (cq b5 b cap (ay h k).v (h.snd (au h.l (k+1))).v fs++[⟨b3,Row 26 (bB kd xn xm tx),true⟩])
  refine JL.eB (ι:=Unit) (X:=cq b5 b cap (ay h k).v (h.snd (au h.l (k+1))).v fs) (M0:=[⟨b3,Row 26 (bB kd xn xm tx),true⟩]) (vs:=[Pt b5 0,.agg (bB kd xn xm tx).toArray]) (fun _=>.tuple #[]) (fun _=>cq b5 b cap (ay h k).v (h.snd (au h.l (k+1))).v fs) cL rfl rfl bQ (fun _=>bQ)
    (fun w' hw' hx'=>(l9 b5 b cap _ _ fs kd xn xm tx w' _ hx' (by omega) (by omega) (fun j hj=>hk j (by revert hj;simp;omega))).mono fun e w2 ⟨g1,g2⟩=>⟨(),g1,g2⟩) ?_
  rintro ⟨⟩
  repeat (first | refine JC.seq ?_ | refine JC.region ?_ | refine JL.nil ?_ | refine JE.next ?_)
  obtain ⟨rs,hrs⟩ : ∃ rs,F.map (bu (bA h k))=rs:=⟨_,rfl⟩
  have hrv : rs.map aq.v=fs:=by
    rw [← hrs,List.map_map,← hfs]
    exact List.map_congr_left fun p hp=>eN (hFb p hp)
  have hrl : (rs.map aq.l).flatten=T:=by
    rw [← hT,← hrs,List.map_map]
    rfl
  have hrn : fs.length=rs.length:=by rw [← hrv,List.length_map]
  have hrn2 : rs.length=F.length:=by rw [← hrs,List.length_map]
  have hcA : jk ⟨some ⟨b,0,none⟩,cap,rs⟩=T:=by
    show ((rs.take rs.length).map aq.l).flatten=T
    rw [List.take_length,hrl]
  have h0 : 0<T.length:=by
    have h1:=dM (h.l.take (au h.l k))
    rw [show aZ (h.l.take (au h.l k))=F from hF,← hTw] at h1
    omega
  rw [← dn,show h.l.drop (au h.l (k+1))=(h.snd (au h.l (k+1))).l from rfl]
  rw [← hrv] at hrn ⊢
  have hel : (ay h k).l.length≤h.l.length:=by rw [dn];exact eO _ _
  have hdr : (h.snd (au h.l (k+1))).l.length≤h.l.length:=by show (h.l.drop _).length≤_;rw [List.length_drop];omega
  refine JL.bC (ι:=Nat × Nat) (vs:=[Pt b5 0]) (fun x=>.slice (some ⟨x.1,0,none⟩) (T++((ay h k).l++(h.snd (au h.l (k+1))).l)).length x.2) (fun x=>[⟨x.1,Sl.Own 5 1 (T++((ay h k).l++(h.snd (au h.l (k+1))).l)).length x.2 ((T++((ay h k).l++(h.snd (au h.l (k+1))).l)).map U8),true⟩]) cy rfl rfl (fun x e he=>by rw [List.mem_singleton.1 he]) (fun w' hw'=>?_) fun x=>?_
  · have ok:=hs.holds hw' rfl
    have hw2 : aa w [] (⟨b5,Row 33 [.slice (some ⟨b,0,none⟩) (rs.map aq.v).length cap,(ay h k).v,(h.snd (au h.l (k+1))).v],true⟩::⟨b,Sl.Own 22 1 (rs.map aq.v).length cap (rs.map aq.v),true⟩::[⟨b3,Row 26 (bB kd xn xm tx),true⟩]) w':=hw'
    rw [List.length_map] at hw2
    obtain ⟨o,ho,hA⟩:=hw2.get (b:=b5) .here
    obtain ⟨o2,ho2,hA2⟩:=hw2.get (b:=b) (.there .here)
    have hh:=Sl.Own.cells _ hA2
    have iL : gr.ok w' ⟨some ⟨b,0,none⟩,cap,rs⟩:=by
      refine ⟨?_,Reads.block ho2 hh,fun y hy=>?_⟩
      · obtain ⟨sp,_,_,_,h4⟩:=hA2
        exact h4
      · rw [← hrs] at hy
        obtain ⟨p',hp',rfl⟩:=List.mem_map.1 hy
        exact bN (hhd ok) (hFb p' hp')
    have:=cK ⟨some ⟨b,0,none⟩,cap,rs⟩ (ay h k) (h.snd (au h.l (k+1))) b5 33 w' (by rw [ho];exact congrArg some hA) iL (dB ok k) (ok.snd _ (bF _ _)) (by rw [hcA];exact h0) (by show rs.length≤_;omega) (by rw [hcA];omega)
    rw [hcA] at this
    exact this
  · repeat (first | refine JL.q (by (apply OQ.assign;rfl)) rfl ?_ | refine JL.nil ?_ | refine JE.next ?_)
    refine JC.ret ?_
    repeat (first | refine JE.av ?_ | refine JE.aI ?_)
    exact JE.aJ rfl (RV.tmp rfl) fun w' hw=>⟨⟨some ⟨x.1,0,none⟩,x.2,_⟩,rfl,hw.aC,rfl,dy hw .here⟩
end Rw
end
section
set_option maxRecDepth 10000
open Sl eu
namespace Rw
set_option maxHeartbeats 8000000 in
theorem mo (p b cap : Nat) (gv cv : Value) (fs fs2 : List Value) (xn xm : Int) (tx : List Bt) (w : World) (S : List Nat) (h0 : aa w S (cq p b cap gv cv fs) w) (hn : 0<fs.length) (hn2 : fs.length<4611686018427387904) (hfl : fs2.length=fs.length)
    (hord : ∀ (M0 : List az) (w' : World),aa w S (cq p b cap gv cv fs++M0) w'→aa w' (keys (cq p b cap gv cv fs)) (cq p b cap gv cv fs) w'→Calls Tryd.prog 26 [Pt p 0,N (cg xn fs.length)].toArray w' fun e w2=>e=.returned (.tuple #[])∧aa w' (keys (cq p b cap gv cv fs)) (cq p b cap gv cv fs2) w2) :
    Calls Tryd.prog 12 [Pt p 0,.agg (bB 7 xn xm tx).toArray].toArray w fun e w'=>e=.returned (.tuple #[])∧aa w S (cq p b cap gv cv fs2) w':=by
  refine enter (n:=87) Tryd.func12 rfl rfl rfl h0 ?_
  obtain ⟨n,hnn⟩ : ∃ n,fs.length=n:=⟨_,rfl⟩
  obtain ⟨at_,hat⟩ : ∃ a,cg xn n=a:=⟨_,rfl⟩
  have hav : I (xn % (n : Int))=N at_:=hat ▸ iQ (hnn ▸ hn)
  show JC _ _ _ _ _ _ _ [⟨p,Row 33 [.slice (some ⟨b,0,none⟩) fs.length cap,gv,cv],true⟩,⟨b,Sl.Own 22 1 fs.length cap fs,true⟩]
  rw [hnn] at hn hn2 ⊢
  have hg3 : decide ((7 : Int)=3)=false:=rfl
  have hg4 : decide ((7 : Int)=4)=false:=rfl
  have hg5 : decide ((7 : Int)=5)=false:=rfl
  have hg7 : decide ((7 : Int)=7)=true:=rfl
  have hg8 : decide ((7 : Int)=8)=false:=rfl
  refine JC.seq (JC.region ?_)
  refine JL.box (r:=bB 7 xn xm tx) rfl rfl rfl fun b3 _=>?_
  refine JL.nil (JE.next ?_)
  refine JC.seq ?_
  refine JC.quiet di (by kernel_rfl) ?_
  repeat (first | refine JL.q (by first|(apply OQ.load;exact aF;rfl;exact .here;exact (Row.cell (v:=I xn) rfl))|(apply OQ.load;exact ez;rfl;exact (.there .here);exact (Row.cell (v:=.slice (some ⟨b,0,none⟩) n cap) rfl))|(apply OQ.len (k:=n) (ad:=some ⟨b,0,none⟩) (cap:=cap);exact Tryd.underlying31;rfl)|(apply OQ.to;exact (OQ.aB (vs:=[I xn,N n]) aV rfl (fun w' _=>bf xn n hn hn2 w'));exact hav)|(apply OQ.load;exact aF;rfl;exact .here;exact (Row.cell (v:=I 7) rfl))|(apply OQ.aU (a:=7) (b:=3);rfl;rfl;exact hg3)|(apply OQ.move;rfl)|(apply OQ.assign;rfl)|(apply OQ.cl;rfl)|(apply OQ.b8;rfl;rfl;rfl;exact (by decide);rfl)) rfl ?_ | refine JQ.q (by first|(apply OQ.load;exact aF;rfl;exact .here;exact (Row.cell (v:=I xn) rfl))|(apply OQ.load;exact ez;rfl;exact (.there .here);exact (Row.cell (v:=.slice (some ⟨b,0,none⟩) n cap) rfl))|(apply OQ.len (k:=n) (ad:=some ⟨b,0,none⟩) (cap:=cap);exact Tryd.underlying31;rfl)|(apply OQ.to;exact (OQ.aB (vs:=[I xn,N n]) aV rfl (fun w' _=>bf xn n hn hn2 w'));exact hav)|(apply OQ.load;exact aF;rfl;exact .here;exact (Row.cell (v:=I 7) rfl))|(apply OQ.aU (a:=7) (b:=3);rfl;rfl;exact hg3)|(apply OQ.move;rfl)|(apply OQ.assign;rfl)|(apply OQ.cl;rfl)|(apply OQ.b8;rfl;rfl;rfl;exact (by decide);rfl)) rfl ?_ | refine JC.seq ?_ | refine JC.region ?_ | refine JC.block ?_ | refine JL.nil ?_ | refine JQ.nil ?_ | refine JE.next ?_)
  refine JC.cond_false rfl rfl ?_
  repeat (first | refine JL.q (by first|(apply OQ.aU (a:=7) (b:=4);rfl;rfl;exact hg4)|(apply OQ.assign;rfl)) rfl ?_ | refine JC.seq ?_ | refine JC.region ?_ | refine JL.nil ?_ | refine JE.next ?_)
  refine JC.cond_false rfl rfl ?_
  repeat (first | refine JL.q (by first|(apply OQ.aU (a:=7) (b:=5);rfl;rfl;exact hg5)|(apply OQ.assign;rfl)) rfl ?_ | refine JC.seq ?_ | refine JC.region ?_ | refine JL.nil ?_ | refine JE.next ?_)
  refine JC.cond_false rfl rfl ?_
  repeat (first | refine JL.q (by first|(apply OQ.aU (a:=7) (b:=7);rfl;rfl;exact hg7)|(apply OQ.assign;rfl)) rfl ?_ | refine JC.seq ?_ | refine JC.region ?_ | refine JL.nil ?_ | refine JE.next ?_)
  refine JC.cond_true rfl rfl ?_
  repeat (first | refine JL.q (by (apply OQ.move;rfl)) rfl ?_ | refine JC.region ?_)
  have hce : ([⟨p,Row 33 [.slice (some ⟨b,0,none⟩) n cap,gv,cv],true⟩,⟨b,Sl.Own 22 1 n cap fs,true⟩] : List az)=cq p b cap gv cv fs:=by unfold cq;rw [hnn]
  refine JL.perm (M':=cq p b cap gv cv fs++[⟨b3,Row 26 (bB 7 xn xm tx),true⟩]) ?_ (by rw [← hce];exact List.perm_append_comm (l₁:=[_]))
  rw [hnn,hat] at hord
  refine JL.eB (ι:=Unit) (X:=cq p b cap gv cv fs) (M0:=[⟨b3,Row 26 (bB 7 xn xm tx),true⟩]) (vs:=[Pt p 0,N at_]) (fun _=>.tuple #[]) (fun _=>cq p b cap gv cv fs2) pg rfl rfl bQ (fun _=>bQ)
    (fun w' hw' hx'=>(hord _ w' hw' hx').mono fun e w2 ⟨g1,g2⟩=>⟨(),g1,g2⟩) ?_
  rintro ⟨⟩
  repeat (first | refine JL.nil ?_ | refine JE.aj ?_)
  exact JE.jd rfl fun w2 hw=>⟨rfl,hw.weak (.keep _ _ _ _ _ _ (fun _ h=>h) (.keep _ _ _ _ _ _ (fun _ h=>h) (.nil _)))⟩
end Rw
end
section
set_option maxRecDepth 10000
open Sl eu
namespace Rw
def dQ {α : Type} (sm : α→α→Bool) (d : α) (L : List α) (i : Nat) : List α:=if i+1<L.length then (if sm (L.getD i d) (L.getD (i+1) d) then L else (L.set i (L.getD (i+1) d)).set (i+1) (L.getD i d)) else L
theorem tG {α : Type} (sm : α→α→Bool) (d : α) (L : List α) (i : Nat) : (dQ sm d L i).length=L.length:=by
  unfold dQ
  split
  · split
    · rfl
    · rw [List.length_set,List.length_set]
  · rfl
theorem tH {α : Type} {sm : α→α→Bool} {d : α} {L : List α} {i : Nat} {x : α} (h : x ∈ dQ sm d L i) : x ∈ L:=by
  unfold dQ at h
  split at h
  · rename_i hi
    have hg : ∀ k,k<L.length→L.getD k d ∈ L:=fun k hk=>by
      rw [List.getD_eq_getElem?_getD,List.getElem?_eq_getElem hk]
      exact List.getElem_mem _
    split at h
    · exact h
    · rcases List.mem_or_eq_of_mem_set h with h | rfl
      · rcases List.mem_or_eq_of_mem_set h with h | rfl
        · exact h
        · exact hg _ hi
      · exact hg _ (by omega)
  · exact h
theorem tI {α β : Type} {sm : α→α→Bool} {sm' : β→β→Bool} {d : α} {f : α→β} (h : ∀ a b,sm' (f a) (f b)=sm a b) (L : List α) (i : Nat) : (dQ sm d L i).map f=dQ sm' (f d) (L.map f) i:=by
  have hg : ∀ k,(L.map f).getD k (f d)=f (L.getD k d):=fun k=>by
    rw [List.getD_eq_getElem?_getD,List.getD_eq_getElem?_getD,List.getElem?_map]
    cases L[k]? <;> rfl
  unfold dQ
  rw [List.length_map,hg,hg,h]
  split
  · split
    · rfl
    · rw [List.map_set,List.map_set]
  · rfl
def qX (a b : List Bt) : Bool:=bV.bD (aQ a) (aQ b)
def xq (a b : aq) : Bool:=qX a.l b.l
set_option maxHeartbeats 8000000 in
theorem iZ (h : aq) (xn xm : Int) (tx : List Bt) (w : World) (hs : h.ok w) (hl : h.l.length≤100000000) {k : Nat} (hg : br h.l k) {F : List (Nat × Nat)} (hF : cc h.l k=F) (hne : F≠[]) {T : List Bt}
    (hT : (dQ qX [] (F.map (aY (bA h k).l)) (cg xn F.length)).flatten=T) (h0 : 0<T.length) (ht : T.length≤100000000) :
    Calls Tryd.prog 6 [h.v,.agg (bB 7 xn xm tx).toArray].toArray w (de (T++(bO h.l k++h.l.drop (au h.l (k+1)))) w):=by
  have hFn : 0<F.length:=List.length_pos_iff.2 hne
  have hdl : (bA h k).l=h.l.take (au h.l k):=rfl
  have hFl : F.length≤100000000:=by
    have:=dM (h.l.take (au h.l k))
    rw [show aZ (h.l.take (au h.l k))=F from hF,List.length_take] at this
    omega
  have hFb : ∀ p ∈ F,p.1+p.2≤(bA h k).l.length:=by
    have:=fJ (h.l.take (au h.l k))
    rw [show aZ (h.l.take (au h.l k))=F from hF] at this
    exact this
  refine enter (n:=45) Tryd.func6 rfl rfl rfl (aa.start w []) ?_
  have hg1 : decide ((7 : Int)=1)=false:=rfl
  have hg2 : decide ((7 : Int)=2)=false:=rfl
  have hg6 : decide ((7 : Int)=6)=false:=rfl
  refine JC.seq (JC.region ?_)
  refine JL.box (r:=bB 7 xn xm tx) rfl rfl rfl fun b3 _=>?_
  repeat (first | refine JL.q (by first|(apply OQ.load;exact aF;rfl;exact .here;exact (Row.cell (v:=I 7) rfl))|(apply OQ.aU (a:=7) (b:=1);rfl;rfl;exact hg1)|(apply OQ.assign;rfl)|(apply OQ.b8;rfl;rfl;rfl;exact (by decide);rfl)) rfl ?_ | refine JC.seq ?_ | refine JC.region ?_ | refine JC.block ?_ | refine JL.nil ?_ | refine JE.next ?_)
  refine JC.cond_false rfl rfl ?_
  repeat (first | refine JL.q (by first|(apply OQ.aU (a:=7) (b:=2);rfl;rfl;exact hg2)|(apply OQ.assign;rfl)) rfl ?_ | refine JC.seq ?_ | refine JC.region ?_ | refine JL.nil ?_ | refine JE.next ?_)
  refine JC.cond_false rfl rfl ?_
  repeat (first | refine JL.q (by (apply OQ.move;rfl)) rfl ?_ | refine JC.seq ?_ | refine JC.region ?_ | refine JC.skip ?_ | refine JE.next ?_ | refine JE.aj ?_)
  refine JL.bC (ι:=FQ F) (vs:=[h.v]) (fun q=>.tuple #[.agg (aW h k q.1).toArray,.bool true]) (fun q=>an 22 q.1 (F.map (aO (bA h k)))) cw rfl rfl (fun q e he=>aT _ _ _ e he) (fun w' hw'=>dg h w' (hs.holds hw' rfl) (by omega) hg hF) ?_
  rintro ⟨q,hq⟩
  obtain ⟨⟨b,cap⟩,rfl⟩ : ∃ x : Nat × Nat,q=some x:=by
    cases q with
    | none=>exact absurd (hq rfl) hne
    | some x=>exact ⟨x,rfl⟩
  dsimp only
  repeat (refine JL.q (by first|(apply OQ.extract;rfl;rfl)|(apply OQ.move;rfl)) rfl ?_)
  refine JL.alloc (r:=cB) (by kernel_rfl) rfl fun b5 _=>?_
  refine JL.bI (cs:=aW h k (some (b,cap))) (r:=cB) eA rfl rfl rfl (cx _ _ _) .here rfl ?_
  have hmv : aW h k (some (b,cap))=[.slice (some ⟨b,0,none⟩) F.length cap,(ay h k).v,(h.snd (au h.l (k+1))).v]:=by unfold aW;rw [hF];rfl
  rw [hmv]
  repeat (first | refine JL.q (by first|(apply OQ.load;exact aF;rfl;exact (.there (.there .here));exact (Row.cell (v:=I 7) rfl))|(apply OQ.aU (a:=7) (b:=6);rfl;rfl;exact hg6)|(apply OQ.aP;rfl;rfl)|(apply OQ.move;rfl)|(apply OQ.assign;rfl)|(apply OQ.b8;rfl;rfl;rfl;exact (by decide);rfl)) rfl ?_ | refine JC.seq ?_ | refine JC.region ?_ | refine JC.block ?_ | refine JL.nil ?_ | refine JE.next ?_ | refine JL.aN rfl rfl ?_)
  refine JC.cond_false rfl rfl ?_
  have hgt : decide ((F.length : Int)>0)=true:=decide_eq_true (by omega)
  repeat (first | refine JL.q (by first|(apply OQ.load;exact ez;rfl;exact .here;exact (Row.cell (v:=.slice (some ⟨b,0,none⟩) F.length cap) rfl))|(apply OQ.len (k:=F.length) (ad:=some ⟨b,0,none⟩) (cap:=cap);exact Tryd.underlying31;rfl)|(apply OQ.eo (b:=0);rfl;rfl;exact hgt)|(apply OQ.aP;rfl;rfl)|(apply OQ.move;rfl)|(apply OQ.assign;rfl)|(apply OQ.b8;rfl;rfl;rfl;exact (by decide);rfl)) rfl ?_ | refine JC.seq ?_ | refine JC.region ?_ | refine JL.nil ?_ | refine JE.next ?_ | refine JL.aN rfl rfl ?_)
  refine JC.cond_true rfl rfl ?_
  repeat (first | refine JL.q (by (apply OQ.cP (cs:=bB 7 xn xm tx);exact l5;exact uP;rfl;exact (.there (.there .here));rfl;exact Row.all)) rfl ?_ | refine JC.seq ?_ | refine JC.region ?_)
  obtain ⟨fs,hfs⟩ : ∃ fs,F.map (aO (bA h k))=fs:=⟨_,rfl⟩
  have hfl : fs.length=F.length:=by rw [← hfs,List.length_map]
  have hhd : ∀ {w' : World},h.ok w'→(bA h k).ok w':=fun h=>h.fst _
  rw [hfs]
  show JL _ _ _ _ _ _ _ _ (⟨b5,Row 33 [.slice (some ⟨b,0,none⟩) F.length cap,(ay h k).v,(h.snd (au h.l (k+1))).v],true⟩::⟨b,Sl.Own 22 1 fs.length cap fs,true⟩::[⟨b3,Row 26 (bB 7 xn xm tx),true⟩])
  rw [← hfl]
  show JL _ _ _ _ _ _ _ _ (cq b5 b cap (ay h k).v (h.snd (au h.l (k+1))).v fs++[⟨b3,Row 26 (bB 7 xn xm tx),true⟩])
  have hrows : (F.map (bu (bA h k))).map aq.v=fs:=by
    rw [List.map_map,← hfs]
    exact List.map_congr_left fun p hp=>eN (hFb p hp)
  obtain ⟨i,hi⟩ : ∃ i,cg xn fs.length=i:=⟨_,rfl⟩
  have hi1 : i<fs.length:=hi ▸ dL (by omega)
  obtain ⟨rs,hrs⟩ : ∃ rs,dQ xq eG (F.map (bu (bA h k))) i=rs:=⟨_,rfl⟩
  have hrl : (rs.map aq.l).flatten=T:=by
    have hom:=tI (sm:=xq) (sm':=qX) (d:=eG) (f:=aq.l) (fun _ _=>rfl) (F.map (bu (bA h k))) i
    rw [← hT,← hrs,hom,List.map_map,← hi,hfl]
    rfl
  have hrn2 : rs.length=F.length:=by rw [← hrs,tG,List.length_map]
  have hrn : fs.length=rs.length:=by rw [hrn2,hfl]
  have hrow : ∀ x,x<fs.length→∃ p ∈ F,(F.map (bu (bA h k))).getD x eG=bu (bA h k) p∧fs[x]?=some (bu (bA h k) p).v:=fun x hx=>by
    have hx2 : x<F.length:=by omega
    refine ⟨F[x],List.getElem_mem _,?_,?_⟩
    · rw [List.getD_eq_getElem?_getD,List.getElem?_map,List.getElem?_eq_getElem hx2]
      rfl
    · rw [← hrows,List.getElem?_map,List.getElem?_map,List.getElem?_eq_getElem hx2]
      rfl
  have hRl : ∀ p,(bu (bA h k) p).l.length≤1000000000:=fun p=>by
    show (((h.l.take _).drop _).take _).length≤_
    rw [List.length_take,List.length_drop,List.length_take]
    omega
  have hord : ∀ (S : List Nat) (M0 : List az) (w' w1 : World),(∀ p ∈ F,(bu (bA h k) p).ok w')→(∀ p ∈ F,dW (bu (bA h k) p) S)→S=keys (cq b5 b cap (ay h k).v (h.snd (au h.l (k+1))).v fs)→aa w' S (cq b5 b cap (ay h k).v (h.snd (au h.l (k+1))).v fs) w'→Calls Tryd.prog 26 [Pt b5 0,N (cg xn fs.length)].toArray w' fun e w2=>e=.returned (.tuple #[])∧aa w' S (cq b5 b cap (ay h k).v (h.snd (au h.l (k+1))).v (rs.map aq.v)) w2:=fun S M0 w' w1 ok aw hS hx=>by
    rw [hi]
    by_cases hlt : i+1<fs.length
    · obtain ⟨p1,hp1,e1,f1⟩:=hrow i hi1
      obtain ⟨p2,hp2,e2,f2⟩:=hrow (i+1) hlt
      have:=qW b5 b cap i (ay h k).v (h.snd (au h.l (k+1))).v fs (bu (bA h k) p1) (bu (bA h k) p2) (xq (bu (bA h k) p1) (bu (bA h k) p2)) w' S hx hlt (by omega) f1 f2 (ok p1 hp1) (ok p2 hp2) (aw p1 hp1) (aw p2 hp2) (hRl p1) (hRl p2) rfl
      have hrv : rs.map aq.v=if xq (bu (bA h k) p1) (bu (bA h k) p2) then fs else (fs.set i (bu (bA h k) p2).v).set (i+1) (bu (bA h k) p1).v:=by
        rw [← hrs]
        unfold dQ
        rw [if_pos (by rw [List.length_map];omega),e1,e2]
        split
        · exact hrows
        · rw [List.map_set,List.map_set,hrows]
      rw [hrv]
      exact this
    · have hrv : rs.map aq.v=fs:=by
        rw [← hrs]
        unfold dQ
        rw [if_neg (by rw [List.length_map];omega)]
        exact hrows
      rw [hrv]
      exact pq b5 b cap i _ _ fs w' S hx (by omega) (by omega)
  refine JL.eB (ι:=Unit) (X:=cq b5 b cap (ay h k).v (h.snd (au h.l (k+1))).v fs) (M0:=[⟨b3,Row 26 (bB 7 xn xm tx),true⟩]) (vs:=[Pt b5 0,.agg (bB 7 xn xm tx).toArray]) (fun _=>.tuple #[]) (fun _=>cq b5 b cap (ay h k).v (h.snd (au h.l (k+1))).v (rs.map aq.v)) cL rfl rfl bQ (fun _=>bQ)
    (fun w' hw' hx'=>(mo b5 b cap _ _ fs (rs.map aq.v) xn xm tx w' _ hx' (by omega) (by omega) (by rw [List.length_map];omega) (fun M0 w2 hw2 hx2=>hord _ M0 w2 w2 (fun p hp=>cC (bN (hhd (hs.holds hw' rfl)) (hFb p hp)) hw2 (dN hw' bQ (bN (hhd hs) (hFb p hp)))) (fun p hp=>dN hw' bQ (bN (hhd hs) (hFb p hp))) rfl hx2)).mono fun e w2 ⟨g1,g2⟩=>⟨(),g1,g2⟩) ?_
  rintro ⟨⟩
  repeat (first | refine JC.seq ?_ | refine JC.region ?_ | refine JL.nil ?_ | refine JE.next ?_)
  have hcA : jk ⟨some ⟨b,0,none⟩,cap,rs⟩=T:=by
    show ((rs.take rs.length).map aq.l).flatten=T
    rw [List.take_length,hrl]
  rw [← dn,show h.l.drop (au h.l (k+1))=(h.snd (au h.l (k+1))).l from rfl]
  have hel : (ay h k).l.length≤h.l.length:=by rw [dn];exact eO _ _
  have hdr : (h.snd (au h.l (k+1))).l.length≤h.l.length:=by show (h.l.drop _).length≤_;rw [List.length_drop];omega
  refine JL.bC (ι:=Nat × Nat) (vs:=[Pt b5 0]) (fun x=>.slice (some ⟨x.1,0,none⟩) (T++((ay h k).l++(h.snd (au h.l (k+1))).l)).length x.2) (fun x=>[⟨x.1,Sl.Own 5 1 (T++((ay h k).l++(h.snd (au h.l (k+1))).l)).length x.2 ((T++((ay h k).l++(h.snd (au h.l (k+1))).l)).map U8),true⟩]) cy rfl rfl (fun x e he=>by rw [List.mem_singleton.1 he]) (fun w' hw'=>?_) fun x=>?_
  · have ok:=hs.holds hw' rfl
    have hw2 : aa w [] (⟨b5,Row 33 [.slice (some ⟨b,0,none⟩) (rs.map aq.v).length cap,(ay h k).v,(h.snd (au h.l (k+1))).v],true⟩::⟨b,Sl.Own 22 1 (rs.map aq.v).length cap (rs.map aq.v),true⟩::[⟨b3,Row 26 (bB 7 xn xm tx),true⟩]) w':=hw'
    rw [List.length_map] at hw2
    obtain ⟨o,ho,hA⟩:=hw2.get (b:=b5) .here
    obtain ⟨o2,ho2,hA2⟩:=hw2.get (b:=b) (.there .here)
    have hh:=Sl.Own.cells _ hA2
    have iL : gr.ok w' ⟨some ⟨b,0,none⟩,cap,rs⟩:=by
      refine ⟨?_,Reads.block ho2 hh,fun y hy=>?_⟩
      · obtain ⟨sp,_,_,_,h4⟩:=hA2
        exact h4
      · rw [← hrs] at hy
        obtain ⟨p',hp',rfl⟩:=List.mem_map.1 (tH hy)
        exact bN (hhd ok) (hFb p' hp')
    have:=cK ⟨some ⟨b,0,none⟩,cap,rs⟩ (ay h k) (h.snd (au h.l (k+1))) b5 33 w' (by rw [ho];exact congrArg some hA) iL (dB ok k) (ok.snd _ (bF _ _)) (by rw [hcA];exact h0) (by show rs.length≤_;omega) (by rw [hcA];omega)
    rw [hcA] at this
    exact this
  · repeat (first | refine JL.q (by (apply OQ.assign;rfl)) rfl ?_ | refine JL.nil ?_ | refine JE.next ?_)
    refine JC.ret ?_
    repeat (first | refine JE.av ?_ | refine JE.aI ?_)
    exact JE.aJ rfl (RV.tmp rfl) fun w' hw=>⟨⟨some ⟨x.1,0,none⟩,x.2,_⟩,rfl,hw.aC,rfl,dy hw .here⟩
end Rw
end
section
open Sl bV eu
namespace Rw
theorem mq (L : List (List Bt)) (i : Nat) (y : List Bt) : (L.set i y).flatten.length≤L.flatten.length+y.length:=by
  induction L generalizing i with
  | nil=>simp
  | cons a L ih=>
    cases i with
    | zero=>simp only [List.set_cons_zero,List.flatten_cons,List.length_append];omega
    | succ i=>
      have:=ih i
      simp only [List.set_cons_succ,List.flatten_cons,List.length_append]
      omega
theorem mu {L : List (List Bt)} {i : Nat} {y : List Bt} (h : L[i]?=some y) : y.length≤L.flatten.length:=by
  induction L generalizing i with
  | nil=>cases h
  | cons a L ih=>
    cases i with
    | zero=>
      obtain rfl : a=y:=by simpa using h
      rw [List.flatten_cons,List.length_append]
      omega
    | succ i=>
      have:=ih (i:=i) (by simpa using h)
      rw [List.flatten_cons,List.length_append]
      omega
theorem vX {f : List (List Bt)} (h : okF f) : 0<f.flatten.length:=by
  obtain ⟨a,tl,rfl,_,_,hall⟩:=h
  have:=s6 (hall a List.mem_cons_self).1
  rw [List.flatten_cons,List.length_append]
  omega
theorem iF {fs : List (List (List Bt))} (h : ∀ f ∈ fs,okF f) (hne : fs≠[]) : 0<(fs.map List.flatten).flatten.length:=by
  cases fs with
  | nil=>exact absurd rfl hne
  | cons f fs=>
    have:=vX (h f List.mem_cons_self)
    rw [List.map_cons,List.flatten_cons,List.length_append]
    omega
theorem qf {l : List Bt} {k : Nat} (hw : aG (bO l k)=[]) (h0 : bO l k≠[]) {fs : List (List (List Bt))} (h : ∀ f ∈ fs,okF f) (hne : fs≠[]) :
    ∀ l2,l2=(fs.map List.flatten).flatten++(bO l k++l.drop (au l (k+1)))→∃ k2,br l2 k2∧(cc l2 k2).map (aY (l2.take (au l2 k2)))=fs.map List.flatten∧bO l2 k2++l2.drop (au l2 (k2+1))=bO l k++l.drop (au l (k+1)):=by
  intro l2 hl2
  have e : (fs.map List.flatten).flatten=fs.flatten.flatten:=List.flatten_flatten.symm
  rw [e] at hl2
  obtain ⟨p1,_,p3,p4,p5⟩:=parse h hne hw h0 hl2
  exact ⟨_,p1,p3,by rw [p4,p5]⟩
theorem lB (G : List Bt→List Bt) (hG : ∀ f,okF f→∃ f',okF f'∧f'.flatten=G f.flatten∧G f'.flatten=f'.flatten) (hGl : ∀ f,okF f→(G f.flatten).length≤4 * f.flatten.length) {l : List Bt} {k : Nat} (n : Int) (hg : br l k) (hne : cc l k≠[]) :
    ∃ p T,(cc l k)[cg n (cc l k).length]?=some p∧(((cc l k).map (aY (l.take (au l k)))).set (cg n (cc l k).length) (G (aY (l.take (au l k)) p))).flatten=T∧0<T.length∧T.length≤5 * l.length∧
      ∀ l2,l2=T++(bO l k++l.drop (au l (k+1)))→∃ k2 p2,br l2 k2∧cc l2 k2≠[]∧(cc l2 k2)[cg n (cc l2 k2).length]?=some p2∧(((cc l2 k2).map (aY (l2.take (au l2 k2)))).set (cg n (cc l2 k2).length) (G (aY (l2.take (au l2 k2)) p2))).flatten=T∧T++(bO l2 k2++l2.drop (au l2 (k2+1)))=l2:=by
  obtain ⟨fs,h1,h2,h3,h4,h5,h6⟩:=mg hg hne
  have hlen : (cc l k).length=fs.length:=by
    have:=congrArg List.length h4
    rwa [List.length_map,List.length_map] at this
  have hi : cg n fs.length<fs.length:=dL (List.length_pos_iff.2 h1)
  obtain ⟨i,hid⟩ : ∃ i,cg n fs.length=i:=⟨_,rfl⟩
  rw [hid] at hi
  rw [hlen,hid]
  obtain ⟨p,hp⟩ : ∃ p,(cc l k)[i]?=some p:=⟨_,List.getElem?_eq_getElem (by omega)⟩
  have hfp : aY (l.take (au l k)) p=(fs[i]'(hi)).flatten:=by
    have:=congrArg (fun L : List (List Bt)=>L[i]?) h4
    rw [List.getElem?_map,List.getElem?_map,hp,List.getElem?_eq_getElem hi] at this
    exact Option.some.inj this
  obtain ⟨f',k1,k2,k3⟩:=hG _ (h2 _ (List.getElem_mem hi))
  have hset : ((cc l k).map (aY (l.take (au l k)))).set i (G (aY (l.take (au l k)) p))=(fs.set i f').map List.flatten:=by
    rw [h4,hfp,← k2,List.map_set]
  have hok : ∀ f ∈ fs.set i f',okF f:=by
    intro f hf
    rcases List.mem_or_eq_of_mem_set hf with hf | rfl
    · exact h2 f hf
    · exact k1
  have hne' : fs.set i f'≠[]:=by
    intro e
    have:=congrArg List.length e
    rw [List.length_set] at this
    exact h1 (List.length_eq_zero_iff.1 this)
  have hT0:=iF hok hne'
  have hflat : (fs.map List.flatten).flatten.length≤l.length:=by
    rw [← List.flatten_flatten,← h3,List.length_take]
    exact Nat.min_le_right _ _
  refine ⟨p,_,hp,rfl,by rw [hset];exact hT0,?_,?_⟩
  · have e1:=mq ((cc l k).map (aY (l.take (au l k)))) i (G (aY (l.take (au l k)) p))
    have e2:=hGl _ (h2 _ (List.getElem_mem hi))
    rw [← hfp] at e2
    have e3:=mu (L:=(cc l k).map (aY (l.take (au l k)))) (i:=i) (y:=aY (l.take (au l k)) p) (by rw [List.getElem?_map,hp];rfl)
    rw [h4] at e1 e3
    rw [h4]
    omega
  · intro l2 hl2
    rw [hset] at hl2
    obtain ⟨k2',q1,q2,q3⟩:=qf h5 h6 hok hne' l2 hl2
    have hlen2 : (cc l2 k2').length=fs.length:=by
      have:=congrArg List.length q2
      rwa [List.length_map,List.length_map,List.length_set] at this
    obtain ⟨p2,hp2⟩ : ∃ p2,(cc l2 k2')[i]?=some p2:=⟨_,List.getElem?_eq_getElem (by omega)⟩
    have hfp2 : aY (l2.take (au l2 k2')) p2=f'.flatten:=by
      have:=congrArg (fun L : List (List Bt)=>L[i]?) q2
      rw [List.getElem?_map,List.getElem?_map,hp2,List.getElem?_set_self hi] at this
      exact Option.some.inj this
    refine ⟨k2',p2,q1,?_,by rw [hlen2,hid];exact hp2,?_,?_⟩
    · intro e
      rw [e] at hlen2
      exact h1 (List.length_eq_zero_iff.1 hlen2.symm)
    · rw [hlen2,hid,hfp2,k3,q2,hset,← List.map_set,List.set_set]
    · rw [q3,hset]
      exact hl2.symm
theorem qY {l : List Bt} {k : Nat} (n : Int) (hg : br l k) (hne : cc l k≠[]) :
    ∃ T,(dQ qX [] ((cc l k).map (aY (l.take (au l k)))) (cg n (cc l k).length)).flatten=T∧0<T.length∧T.length≤5 * l.length∧
      ∀ l2,l2=T++(bO l k++l.drop (au l (k+1)))→∃ k2 T2,br l2 k2∧cc l2 k2≠[]∧(dQ qX [] ((cc l2 k2).map (aY (l2.take (au l2 k2)))) (cg n (cc l2 k2).length)).flatten=T2∧0<T2.length∧T2.length≤l.length∧T2++(bO l2 k2++l2.drop (au l2 (k2+1)))=l:=by
  obtain ⟨fs,h1,h2,h3,h4,h5,h6⟩:=mg hg hne
  have hlen : (cc l k).length=fs.length:=by
    have:=congrArg List.length h4
    rwa [List.length_map,List.length_map] at this
  have hi : cg n fs.length<fs.length:=dL (List.length_pos_iff.2 h1)
  obtain ⟨i,hid⟩ : ∃ i,cg n fs.length=i:=⟨_,rfl⟩
  rw [hid] at hi
  rw [hlen,hid]
  have hwhole:=lu hg
  have hhead : l.take (au l k)=(fs.map List.flatten).flatten:=by rw [h3];exact List.flatten_flatten
  have hflat : (fs.map List.flatten).flatten.length≤l.length:=by
    rw [← hhead,List.length_take]
    exact Nat.min_le_right _ _
  rw [h4]
  have stay : dQ qX [] (fs.map List.flatten) i=fs.map List.flatten→∃ T,(dQ qX [] (fs.map List.flatten) i).flatten=T∧0<T.length∧T.length≤5 * l.length∧
      ∀ l2,l2=T++(bO l k++l.drop (au l (k+1)))→∃ k2 T2,br l2 k2∧cc l2 k2≠[]∧(dQ qX [] ((cc l2 k2).map (aY (l2.take (au l2 k2)))) (cg n (cc l2 k2).length)).flatten=T2∧0<T2.length∧T2.length≤l.length∧T2++(bO l2 k2++l2.drop (au l2 (k2+1)))=l:=by
    intro hs
    rw [hs]
    have hT0:=iF h2 h1
    refine ⟨_,rfl,hT0,by omega,fun l2 hl2=>?_⟩
    rw [← hhead,hwhole] at hl2
    subst hl2
    refine ⟨k,_,hg,hne,rfl,?_,?_,?_⟩
    · rw [hlen,hid,h4,hs];exact hT0
    · rw [hlen,hid,h4,hs];exact hflat
    · rw [hlen,hid,h4,hs,← hhead];exact hwhole
  by_cases hi1 : i+1<fs.length
  · have hi1' : i+1<(fs.map List.flatten).length:=by rw [List.length_map];exact hi1
    have ga : (fs.map List.flatten).getD i []=fs[i].flatten:=by rw [List.getD_eq_getElem?_getD,List.getElem?_map,List.getElem?_eq_getElem hi];rfl
    have gb : (fs.map List.flatten).getD (i+1) []=fs[i+1].flatten:=by rw [List.getD_eq_getElem?_getD,List.getElem?_map,List.getElem?_eq_getElem hi1];rfl
    cases hsm : qX fs[i].flatten fs[i+1].flatten with
    | true=>
      refine stay ?_
      unfold dQ
      rw [if_pos hi1',ga,gb,hsm]
      rfl
    | false=>
      have hsm2 : qX fs[i+1].flatten fs[i].flatten=false:=by
        unfold qX at hsm ⊢
        rw [bV.qq]
        exact hsm
      have hs : dQ qX [] (fs.map List.flatten) i=((fs.set i fs[i+1]).set (i+1) fs[i]).map List.flatten:=by
        unfold dQ
        rw [if_pos hi1',ga,gb,hsm,List.map_set,List.map_set]
        rfl
      have hok : ∀ f ∈ (fs.set i fs[i+1]).set (i+1) fs[i],okF f:=by
        intro f hf
        rcases List.mem_or_eq_of_mem_set hf with hf | rfl
        · rcases List.mem_or_eq_of_mem_set hf with hf | rfl
          · exact h2 f hf
          · exact h2 _ (List.getElem_mem hi1)
        · exact h2 _ (List.getElem_mem hi)
      have hln : ((fs.set i fs[i+1]).set (i+1) fs[i]).length=fs.length:=by rw [List.length_set,List.length_set]
      have hne' : (fs.set i fs[i+1]).set (i+1) fs[i]≠[]:=by
        intro e
        rw [e] at hln
        exact h1 (List.length_eq_zero_iff.1 hln.symm)
      have hback : dQ qX [] (((fs.set i fs[i+1]).set (i+1) fs[i]).map List.flatten) i=fs.map List.flatten:=by
        have e1 : (((fs.set i fs[i+1]).set (i+1) fs[i]).map List.flatten).getD i []=fs[i+1].flatten:=by
          rw [List.getD_eq_getElem?_getD,List.getElem?_map,List.getElem?_set_ne (by omega),List.getElem?_set_self hi];rfl
        have e2 : (((fs.set i fs[i+1]).set (i+1) fs[i]).map List.flatten).getD (i+1) []=fs[i].flatten:=by
          rw [List.getD_eq_getElem?_getD,List.getElem?_map,List.getElem?_set_self (by rw [List.length_set];exact hi1)];rfl
        unfold dQ
        rw [if_pos (by rw [List.length_map,hln];exact hi1),e1,e2,hsm2]
        show ((List.map List.flatten _).set i _).set (i+1) _=_
        rw [← List.map_set,← List.map_set]
        congr 1
        apply List.ext_getElem?
        intro j
        simp only [List.getElem?_set,List.length_set]
        by_cases hj1 : i+1=j
        · subst hj1
          simp [hi1]
        · by_cases hj2 : i=j
          · subst hj2
            simp [hi]
          · simp [hj1,hj2]
      have hT0:=iF hok hne'
      have hTl : (((fs.set i fs[i+1]).set (i+1) fs[i]).map List.flatten).flatten.length≤5 * l.length:=by
        rw [List.map_set,List.map_set]
        have e1:=mq ((fs.map List.flatten).set i fs[i+1].flatten) (i+1) fs[i].flatten
        have e2:=mq (fs.map List.flatten) i fs[i+1].flatten
        have e3:=mu (L:=fs.map List.flatten) (i:=i) (y:=fs[i].flatten) (by rw [List.getElem?_map,List.getElem?_eq_getElem hi];rfl)
        have e4:=mu (L:=fs.map List.flatten) (i:=i+1) (y:=fs[i+1].flatten) (by rw [List.getElem?_map,List.getElem?_eq_getElem hi1];rfl)
        omega
      rw [hs]
      refine ⟨_,rfl,hT0,hTl,fun l2 hl2=>?_⟩
      obtain ⟨k2,q1,q2,q3⟩:=qf h5 h6 hok hne' l2 hl2
      have hlen2 : (cc l2 k2).length=fs.length:=by
        have:=congrArg List.length q2
        rwa [List.length_map,List.length_map,hln] at this
      refine ⟨k2,_,q1,?_,rfl,?_,?_,?_⟩
      · intro e
        rw [e] at hlen2
        exact h1 (List.length_eq_zero_iff.1 hlen2.symm)
      · rw [hlen2,hid,q2,hback];exact iF h2 h1
      · rw [hlen2,hid,q2,hback];exact hflat
      · rw [hlen2,hid,q2,hback,q3,← hhead];exact hwhole
  · refine stay ?_
    unfold dQ
    rw [if_neg (by rw [List.length_map];exact hi1)]
theorem pE {l : List Bt} {k : Nat} (n : Int) (hg : br l k) (hne : cc l k≠[]) :
    ∃ T,(iY ((cc l k).map (aY (l.take (au l k)))) (cg n (cc l k).length)).flatten=T∧(iY ((cc l k).map (aY (l.take (au l k)))) (cg n (cc l k).length)=[]∨0<T.length)∧T.length≤5 * l.length:=by
  obtain ⟨fs,h1,h2,h3,h4,h5,h6⟩:=mg hg hne
  have hhead : l.take (au l k)=(fs.map List.flatten).flatten:=by rw [h3];exact List.flatten_flatten
  have hflat : (fs.map List.flatten).flatten.length≤l.length:=by
    rw [← hhead,List.length_take]
    exact Nat.min_le_right _ _
  rw [h4]
  refine ⟨_,rfl,?_,?_⟩
  · unfold iY
    split
    · exact .inr (iF h2 h1)
    · unfold cz
      rw [← List.map_take,← List.map_drop,← List.map_append]
      by_cases he : fs.take (cg n (cc l k).length)++fs.drop (cg n (cc l k).length+1)=[]
      · exact .inl (by rw [he];rfl)
      · refine .inr (iF (fun f hf=>h2 f ?_) he)
        rcases List.mem_append.1 hf with hf | hf
        · exact List.mem_of_mem_take hf
        · exact List.mem_of_mem_drop hf
  · unfold iY
    split
    · omega
    · unfold cz
      rw [List.flatten_append,List.length_append]
      have e1 : (fs.map List.flatten).flatten.length=((fs.map List.flatten).take (cg n (cc l k).length)).flatten.length+((fs.map List.flatten).drop (cg n (cc l k).length)).flatten.length:=by
        conv=>lhs;rw [← List.take_append_drop (cg n (cc l k).length) (fs.map List.flatten)]
        rw [List.flatten_append,List.length_append]
      have e2 : ((fs.map List.flatten).drop (cg n (cc l k).length+1)).flatten.length≤((fs.map List.flatten).drop (cg n (cc l k).length)).flatten.length:=by
        rw [← List.drop_drop]
        cases (fs.map List.flatten).drop (cg n (cc l k).length) with
        | nil=>exact Nat.le_refl _
        | cons a r=>simp only [List.drop_succ_cons,List.drop_zero,List.flatten_cons,List.length_append];omega
      omega
theorem vu (l : List Bt) : ∀ k,(gm l k).length≤au l k
  | 0=>Nat.le_refl _
  | k+1=>by
    have h1:=vu l k
    have h2 : (bR l k).length≤aH (l.drop (au l k)):=by
      obtain ⟨e,he,_⟩:=j7 ((l.drop (au l k)).take (aH (l.drop (au l k))))
      have:=congrArg List.length he
      rw [List.length_append,List.length_take] at this
      show (aG _).length≤_
      omega
    rw [gm,List.length_append]
    show _≤au l k+aH _
    omega
theorem tJ (m : Int) (f : List (List Bt)) (h : okF f) : (bw m f.flatten).length≤4 * f.flatten.length:=by
  have h1 : (bG f.flatten).length≤f.flatten.length:=Nat.le_trans (vu _ _) (bF _ _)
  have h2 : (gY f.flatten).length≤f.flatten.length:=by
    unfold gY
    split
    · exact Nat.zero_le _
    · unfold bO
      rw [List.length_drop,List.length_take,List.length_drop]
      omega
  have h3:=l8 m (bG f.flatten) (iU (bG f.flatten)) (bG f.flatten).length
  unfold bw iM
  rw [List.length_append]
  omega
theorem qZ (m : Int) (f : List (List Bt)) : (bP m f.flatten).length≤4 * f.flatten.length:=by
  unfold bP
  rw [gQ]
  omega
end Rw
end
section
set_option maxRecDepth 10000
open Sl eu
namespace Rw
def oo (kd xn xm : Int) (tx l T : List Bt) : Prop:=∀ (h : aq) (w : World),h.l=l→h.ok w→dm w→ia w→eS w→Calls Tryd.prog 6 [h.v,.agg (bB kd xn xm tx).toArray].toArray w (de T w)
theorem kj {T : List Bt} {w w' : World} {e : Ending} (h : fq T w e w') : de T w e w':=by
  obtain ⟨x,h1,h2,h3,h4,_⟩:=h
  exact ⟨x,h1,h2,h3,h4⟩
theorem tK (l : List Bt) : (∃ k,br l k)∨kX l:=by
  by_cases hn : kX l
  · exact .inr hn
  · left
    have : ∃ j,j<(aM l).length∧bR l j=[]:=by
      apply Classical.byContradiction
      intro h
      exact hn fun j hj ht=>h ⟨j,hj,ht⟩
    have key : ∀ j,j<(aM l).length→bR l j=[]→∃ k,br l k:=by
      intro j
      induction j using Nat.strongRecOn with
      | ind j ih=>
        intro hj ht
        by_cases hm : ∃ i,i<j∧bR l i=[]
        · obtain ⟨i,hi,hti⟩:=hm
          exact ih i hi (by omega) hti
        · exact ⟨j,hj,ht,fun i hi hti=>hm ⟨i,hi,hti⟩⟩
    obtain ⟨j,hj,ht⟩:=this
    exact key j hj ht
theorem dD {kd xn xm : Int} {tx l : List Bt} (hl : l.length≤100000000) (hk1 : kd≠1) (hk2 : kd≠2) (hk6 : kd≠6) (hno : ¬ ∃ k,br l k∧cc l k≠[]) : oo kd xn xm tx l l:=by
  rintro h w rfl hs _ _ _
  rcases tK h.l with ⟨k,hg⟩ | hn
  · have hF : cc h.l k=[]:=Classical.byContradiction fun hF=>hno ⟨k,hg,hF⟩
    exact kF h kd xn xm tx w hs hl hk1 hk2 hk6 hg hF
  · exact iV h kd xn xm tx w hs hl hk1 hk2 hn
theorem ju {l : List Bt} {k : Nat} : (bO l k++l.drop (au l (k+1))).length≤l.length:=by
  have hat : au l (k+1)=au l k+aH (l.drop (au l k)):=rfl
  unfold bO
  rw [List.length_append,List.length_drop,List.length_take,List.length_drop,List.length_drop,hat]
  have:=bF l k
  omega
theorem q9 (xn xm : Int) (tx l : List Bt) (hl : l.length≤10000) : ∃ T,T.length≤10 * l.length+300∧oo 3 xn xm tx l T∧oo 3 xn xm tx T T:=by
  by_cases hf : ∃ k,br l k∧cc l k≠[]
  · obtain ⟨k,hg,hne⟩:=hf
    obtain ⟨p,T,h1,h2,h3,h4,h5⟩:=lB (bw xm) (fun f hf=>uY xm hf) (fun f hf=>tJ xm f hf) xn hg hne
    obtain ⟨k2,p2,q1,q2,q3,q4,q5⟩:=h5 _ rfl
    have hgl:=ju (l:=l) (k:=k)
    have hTl : (T++(bO l k++l.drop (au l (k+1)))).length≤10 * l.length+300:=by
      rw [List.length_append]
      omega
    refine ⟨_,hTl,?_,?_⟩
    · rintro h w rfl hs _ _ _
      exact j5 h xn xm tx w hs (by omega) hg rfl hne h1 h2 h3 (by omega)
    · rintro h w hh hs _ _ _
      rw [← hh] at q1 q2 q3 q4 q5 hTl ⊢
      have:=j5 h xn xm tx w hs (by omega) q1 rfl q2 q3 q4 h3 (by omega)
      rw [q5] at this
      exact this
  · exact ⟨l,by omega,dD (by omega) (by decide) (by decide) (by decide) hf,dD (by omega) (by decide) (by decide) (by decide) hf⟩
theorem ri (xn xm : Int) (tx l : List Bt) (hl : l.length≤10000) : ∃ T,T.length≤10 * l.length+300∧oo 4 xn xm tx l T∧oo 4 xn xm tx T T:=by
  by_cases hf : ∃ k,br l k∧cc l k≠[]
  · obtain ⟨k,hg,hne⟩:=hf
    obtain ⟨p,T,h1,h2,h3,h4,h5⟩:=lB (bP xm) (fun f hf=>th xm hf) (fun f hf=>qZ xm f) xn hg hne
    obtain ⟨k2,p2,q1,q2,q3,q4,q5⟩:=h5 _ rfl
    have hgl:=ju (l:=l) (k:=k)
    have hTl : (T++(bO l k++l.drop (au l (k+1)))).length≤10 * l.length+300:=by
      rw [List.length_append]
      omega
    refine ⟨_,hTl,?_,?_⟩
    · rintro h w rfl hs _ _ _
      exact gj h xn xm tx w hs (by omega) hg rfl hne h1 h2 h3 (by omega)
    · rintro h w hh hs _ _ _
      rw [← hh] at q1 q2 q3 q4 q5 hTl ⊢
      have:=gj h xn xm tx w hs (by omega) q1 rfl q2 q3 q4 h3 (by omega)
      rw [q5] at this
      exact this
  · exact ⟨l,by omega,dD (by omega) (by decide) (by decide) (by decide) hf,dD (by omega) (by decide) (by decide) (by decide) hf⟩
theorem pF (xn xm : Int) (tx l : List Bt) (hl : l.length≤10000) : ∃ T,T.length≤10 * l.length+300∧oo 7 xn xm tx l T∧oo 7 xn xm tx T l:=by
  by_cases hf : ∃ k,br l k∧cc l k≠[]
  · obtain ⟨k,hg,hne⟩:=hf
    obtain ⟨T,h2,h3,h4,h5⟩:=qY xn hg hne
    obtain ⟨k2,T2,q1,q2,q3,q4,q5,q6⟩:=h5 _ rfl
    have hgl:=ju (l:=l) (k:=k)
    have hTl : (T++(bO l k++l.drop (au l (k+1)))).length≤10 * l.length+300:=by
      rw [List.length_append]
      omega
    refine ⟨_,hTl,?_,?_⟩
    · rintro h w rfl hs _ _ _
      exact iZ h xn xm tx w hs (by omega) hg rfl hne h2 h3 (by omega)
    · rintro h w hh hs _ _ _
      rw [← hh] at q1 q2 q3 q6 hTl
      have:=iZ h xn xm tx w hs (by omega) q1 rfl q2 q3 q4 (by omega)
      rw [q6] at this
      exact this
  · exact ⟨l,by omega,dD (by omega) (by decide) (by decide) (by decide) hf,dD (by omega) (by decide) (by decide) (by decide) hf⟩
theorem pG (xn xm : Int) (tx l : List Bt) (hl : l.length≤10000) : ∃ T,T.length≤10 * l.length+300∧oo 2 xn xm tx l T∧oo 2 xn xm tx T T:=by
  have h1:=nq l.length l (Nat.le_refl _)
  have h2:=nr (cX l)
  have hW : iD l=dr (cX l):=lf l
  refine ⟨dr (cX l),by omega,?_,?_⟩
  · rintro h w rfl hs hm _ _
    have:=iS h xn xm tx w hs (by omega) (by rw [gW];omega) hm
    rw [hW] at this
    exact this.mono fun _ _=>kj
  · rintro h w hh hs hm _ _
    have hb : gV h.l=cX l:=by rw [hh,gW,iE]
    have:=iS h xn xm tx w hs (by rw [hh];omega) (by rw [hb];omega) hm
    rw [show iD h.l=dr (cX l) by rw [hh,lf,iE]] at this
    exact this.mono fun _ _=>kj
theorem lC (kd xn xm : Int) (tx l : List Bt) (hl : l.length≤10000) (hk : ∀ j ∈ [1,2,3,4,5,6,7,8],kd≠j) : oo kd xn xm tx l l:=by
  by_cases hf : ∃ k,br l k∧cc l k≠[]
  · obtain ⟨k,hg,hne⟩:=hf
    rintro h w rfl hs _ _ _
    exact nT h kd xn xm tx w hs (by omega) hk hg rfl hne
  · exact dD (by omega) (hk 1 (by simp)) (hk 2 (by simp)) (hk 6 (by simp)) hf
theorem nU (xn xm : Int) (tx l : List Bt) (hl : l.length≤100000) : ∃ T,T.length≤10 * l.length+300∧oo 1 xn xm tx l T:=by
  have h1:=nq l.length l (Nat.le_refl _)
  refine ⟨cX l,by omega,?_⟩
  rintro h w rfl hs hm _ _
  have:=oR h xn xm tx w hs (by omega) hm
  rw [gW] at this
  exact this.mono fun _ _=>kj
theorem add_one (xn xm : Int) (tx l : List Bt) (hl : l.length≤100000) : ∃ T,T.length≤10 * l.length+300∧oo 6 xn xm tx l T:=by
  rcases tK l with ⟨k,hg⟩ | hn
  · refine ⟨tD xm tx l,?_,?_⟩
    · unfold tD
      split
      · rename_i hc
        have h1:=nO xm
        unfold j9 at hc
        rw [Bool.and_eq_true,decide_eq_true_eq] at hc
        have h2:=hc.1
        unfold tw
        simp only [List.length_append,List.length_cons,List.length_nil]
        omega
      · omega
    · rintro h w rfl hs _ hT _
      exact qS h xn xm tx w hs (by omega) hT hg
  · refine ⟨l,by omega,?_⟩
    rintro h w rfl hs _ _ _
    exact iV h 6 xn xm tx w hs (by omega) (by decide) (by decide) hn
theorem drop_one (xn xm : Int) (tx l : List Bt) (hl : l.length≤100000) : ∃ T,T.length≤10 * l.length+300∧oo 5 xn xm tx l T:=by
  by_cases hf : ∃ k,br l k∧cc l k≠[]
  · obtain ⟨k,hg,hne⟩:=hf
    obtain ⟨T,h1,h2,h3⟩:=pE xn hg hne
    have hgl:=ju (l:=l) (k:=k)
    refine ⟨T++(bO l k++l.drop (au l (k+1))),by rw [List.length_append];omega,?_⟩
    rintro h w rfl hs _ _ hP
    exact o9 h xn xm tx w hs (by omega) hg rfl hne h1 h2 hP (by omega)
  · exact ⟨l,by omega,dD (by omega) (by decide) (by decide) (by decide) hf⟩
end Rw
end
section
set_option maxRecDepth 10000
open Sl bV eu
namespace Rw
def wk (n wd k : Nat) : Nat:=min wd (n - k * wd)
def mw (s : aq) (wd k : Nat) : aq:=⟨(s.snd (k * wd)).ad,wk s.l.length wd k,(s.l.drop (k * wd)).take (wk s.l.length wd k)⟩
def rH (n wd : Nat) : Nat:=(n+wd - 1) / wd
theorem tL {n wd k : Nat} (h : 0<wd) : k<rH n wd↔k * wd<n:=by
  unfold rH
  rw [← Nat.succ_le_iff,Nat.le_div_iff_mul_le h,Nat.succ_mul]
  omega
set_option maxHeartbeats 8000000 in
theorem rj (s : aq) (wd b2 b3 : Nat) (hwd : 0<wd) (hwd2 : wd≤1000000000) (hl : s.l.length≤1000000000) (W0 : World) (hs : s.ok W0) (hn2 : ∀ k ∈ dA s,k≠b2) (hn3 : ∀ k ∈ dA s,k≠b3) {t t' : TypeId} (hb2 : W0.heap[b2]?=some (.cells #[s.v] t (0,0))) (hb3 : W0.heap[b3]?=some (.cells #[N wd] t' (0,0))) :
    qy Tryd.prog 80 #[Pt b2 0,Pt b3 0] (fun k=>#[(mw s wd k).v]) (fun b=>b ∈ [b2,b3]) (dA s) (rH s.l.length wd) W0:=by
  intro l J X W hW hst hsx hlt hY h0
  have hl2 : b2<W0.heap.size:=(Array.getElem?_eq_some_iff.1 hb2).1
  have hl3 : b3<W0.heap.size:=(Array.getElem?_eq_some_iff.1 hb3).1
  refine callsIn_wide.2 ?_
  refine sv (n:=31) (vs:=[.func (.yield l) #[] #[],Pt b2 0,Pt b3 0]) Tryd.func80 rfl rfl rfl ?_
  repeat (first | refine FL.q (by (apply OQ.assign;rfl)) rfl rfl ?_ | refine FC.seq ?_ | refine FC.region ?_ | refine FC.block ?_ | refine FL.nil ?_ | refine FE.next ?_)
  refine FC.loop (fun k : Nat=>[(0,.func (.yield l) #[] #[]),(1,Pt b2 0),(2,Pt b3 0),(4,N (k * wd))])
    (fun k w=>k≤rH s.l.length wd∧s.ok w∧w.heap[b2]?=some (.cells #[s.v] t (0,0))∧w.heap[b3]?=some (.cells #[N wd] t' (0,0))∧∃ O : BP,J k O w∧O b2∧O b3) (fun k=>rH s.l.length wd - k) 0 ⟨Nat.zero_le _,c7 hs fun k hk=>hW k (cu hs k hk),(hW b2 hl2).trans hb2,(hW b3 hl3).trans hb3,_,h0,by simp,by simp⟩ (by rw [Nat.zero_mul];exact (by repeat (first | exact ax.nil | refine ax.cons _ _ _ rfl ?_))) ?_
  rintro k w ⟨hk,ok,hw2,hw3,O,hJ,hO2,hO3⟩
  have hc2 : cellAt (.cells #[s.v] t (0,0)) 0=some s.v:=rfl
  have hc3 : cellAt (.cells #[N wd] t' (0,0)) 0=some (N wd):=rfl
  have hch:=tL (n:=s.l.length) (k:=k) hwd
  have hcap:=ok.len
  have hYk:=fun O w' hk=>hY k O w' hk
  dsimp only at hYk
  obtain ⟨A,hA⟩ : ∃ A,k * wd=A:=⟨_,rfl⟩
  have hA1 : (k+1) * wd=A+wd:=by rw [Nat.succ_mul,hA]
  rw [hA] at hch ⊢
  refine GC.wide (m:=3) ?_
  repeat (first | refine GL.q (by first|(apply cr;rfl;rfl;exact hw2;exact hc2)|(apply OQ.len (k:=s.l.length) (ad:=s.ad) (cap:=s.cap);exact Tryd.underlying22;rfl)|(apply OQ.ij (a:=A) (b:=s.l.length);rfl;rfl)|(apply OQ.move;rfl)) rfl rfl ?_ | refine GC.seq ?_ | refine GC.region ?_ | refine GL.nil ?_ | refine FE.c6 ?_)
  refine GC.cond rfl (fun h=>?_) (fun h=>?_)
  rotate_left
  · have hkp : k=rH s.l.length wd:=by
      have:=of_decide_eq_false h
      omega
    clear h
    subst hkp
    repeat (first | refine GC.exit ?_ | refine FE.aS ?_ | refine FE.bE ?_)
    exact FE.jd rfl ⟨⟨_,rfl⟩,O,.inl hJ⟩
  have hAl : A<s.l.length:=of_decide_eq_true h
  clear h
  have hkp : k<rH s.l.length wd:=hch.2 hAl
  obtain ⟨c,hc⟩ : ∃ c,min wd (s.l.length - A)=c:=⟨_,rfl⟩
  have hcp : 0<c∧c≤s.l.length - A∧c≤wd:=by omega
  have hv : (.slice (if A+c=A then s.ad else s.ad.map (·.add (A * 1))) (A+c - A) (A+c - A) : Value)=(mw s wd k).v:=by
    unfold mw aq.v wk aq.snd
    rw [hA,hc,if_neg (by omega),if_neg (by omega),List.length_take,List.length_drop,Nat.add_sub_cancel_left,Nat.min_eq_left (by omega)]
  repeat (first | refine GC.seq ?_ | refine GC.block ?_ | refine GC.skip ?_ | refine FE.c6 ?_)
  refine GC.tail 6 (by kernel_rfl) rfl (by kernel_rfl) ?_
  have hw2' : ({ w with drawn:=w.drawn+1 } : World).heap[b2]?=some (.cells #[s.v] t (0,0)):=hw2
  have hw3' : ({ w with drawn:=w.drawn+1 } : World).heap[b3]?=some (.cells #[N wd] t' (0,0)):=hw3
  repeat (refine GQ.q (by first|(apply cr;rfl;rfl;exact hw2';exact hc2)|(apply cr;rfl;rfl;exact hw3';exact hc3)|(apply OQ.snd (s:=s) (m:=A);exact Tryd.underlying22;exact cn;rfl;rfl;exact (by omega))|(apply OQ.len (k:=(s.snd A).l.length) (ad:=(s.snd A).ad) (cap:=(s.snd A).cap);exact Tryd.underlying22;rfl)|(apply OQ.to;exact (OQ.xE (a:=wd) (c:=(s.snd A).l.length) rfl rfl);exact (show N _=N c by rw [show (s.snd A).l.length=s.l.length - A from List.length_drop,hc]))|(apply OQ.move;rfl)) rfl ?_)
  refine GQ.nil ?_
  have hj1:=hst _ _ _ (W2:={ w with drawn:=w.drawn+1 }) hJ ⟨rfl,rfl,rfl,Nat.le_refl _,fun _ _ _=>rfl⟩
  have hY2:=hYk _ _ hkp hj1
  refine GL.q (OQ.assign rfl) rfl rfl (GL.nil (FE.c6 ?_))
  repeat (first | refine GL.q (by first|(apply cr;rfl;rfl;exact hw2';exact hc2)|(apply OQ.bH (a:=A) (b:=c);rfl;rfl;exact (by omega))|(apply OQ.to;exact (OQ.nh (lo:=A) (hi:=A+c) (mx:=A+c) (len:=s.l.length) (cap:=s.cap) (ad:=s.ad) Tryd.underlying22 cn rfl rfl rfl rfl (by omega) (Nat.le_refl _) (by omega));exact hv)|(apply OQ.move;rfl)) rfl rfl ?_ | refine GC.seq ?_ | refine GC.region ?_)
  refine GL.yield (vs:=[(mw s wd k).v]) rfl rfl rfl hY2 ?_
  rintro e w3 ⟨hK,(⟨rfl,hJ3⟩ | ⟨rfl,hX3⟩)⟩
  · refine ⟨true,rfl,?_⟩
    repeat (first | refine GL.q (by (apply OQ.not;rfl)) rfl rfl ?_ | refine GL.nil ?_ | refine FE.c6 ?_)
    refine GC.cond rfl (fun h=>by cases h) (fun _=>?_)
    have hw23:=(hK.own b2 (.inl hO2)).trans hw2'
    have hw33:=(hK.own b3 (.inl hO3)).trans hw3'
    repeat (first | refine GL.q (by first|(apply cr;rfl;rfl;exact hw33;exact hc3)|(apply OQ.to;exact (OQ.bH (a:=A) (b:=wd) rfl rfl (by omega));exact (congrArg N hA1.symm))|(apply OQ.move;rfl)|(apply OQ.assign;rfl)) rfl rfl ?_ | refine GC.region ?_ | refine GC.skip ?_ | refine GL.nil ?_ | refine FE.c6 ?_ | refine FE.aj ?_)
    exact FE.again (i:=k) (k+1) ⟨hkp,c7 ok fun b hb=>hK.same b hb,hw23,hw33,_,hJ3,.inl hO2,.inl hO3⟩ (by omega) (by repeat (first | exact ax.nil | refine ax.cons _ _ _ rfl ?_))
  · refine ⟨false,rfl,?_⟩
    repeat (first | refine GL.q (by (apply OQ.not;rfl)) rfl rfl ?_ | refine GL.nil ?_ | refine FE.c6 ?_)
    refine GC.cond rfl (fun _=>?_) (fun h=>by cases h)
    refine GC.ret ?_
    repeat (first | refine FE.av ?_ | refine FE.aI ?_)
    exact FE.qm rfl ⟨⟨_,rfl⟩,_,.inr hX3⟩
theorem pH : aR Tryd.prog 66:=⟨_,Tryd.func66,rfl,by kernel_rfl⟩
def tM (p : Nat × Nat) : Value:=.func (.func 80) #[] [Pt p.1 0,Pt p.2 0].toArray
theorem xT : fM Tryd.prog 3=true:=by kernel_rfl
theorem OQ.xU {P : Program} {n : Nat} {w0 : World} {S : List Nat} {E : Env} {M : List az} {dst : Option Tmp} {ty : TypeId} {pos : String} {aft : Array Edge} {g : Option (Nat × Bool)} {f : FuncId} {xs : Array Operand} {caps : List Value} (hx : eY E xs.toList=some caps) : OQ P n E (aa w0 S M) ⟨dst,.makeFunc (.func f) #[] xs,ty,pos,aft,g⟩ (.func (.func f) #[] caps.toArray):=by
  refine OQ.run fun a hk w _=>?_
  have hm : xs.map a.eval=caps.toArray:=by
    have h1:=fB hk hx
    rw [← h1]
    apply Array.ext'
    simp
  simp [execOp,Instr.makeFunc,Sem.run_bind,hm]
theorem rm (s : aq) (wd : Nat) (hwd : 0<wd) (w : World) : Calls Tryd.prog 66 [s.v,N wd].toArray w fun e w'=>∃ p : Nat × Nat,e=.returned (tM p)∧aa w [] [⟨p.2,Row 3 [N wd],true⟩,⟨p.1,Row 22 [s.v],true⟩] w':=by
  refine enter (n:=9) Tryd.func66 rfl rfl rfl (aa.start w []) ?_
  refine JC.seq (JC.region ?_)
  refine JL.box (r:=[s.v]) rfl rfl rfl fun b2 _=>?_
  refine JL.box (r:=[N wd]) rfl rfl rfl fun b3 _=>?_
  have hg : decide ((wd : Int)<1)=false:=decide_eq_false (by omega)
  repeat (first | refine JL.q (by first|(apply OQ.load;exact xT;rfl;exact .here;exact (Row.cell (v:=N wd) rfl))|(apply OQ.kz (a:=(wd : Int)) (b:=1);rfl;rfl;exact hg)|(apply OQ.assign;rfl)) rfl ?_ | refine JC.seq ?_ | refine JC.region ?_ | refine JL.nil ?_ | refine JE.next ?_)
  refine JC.cond_false rfl rfl ?_
  repeat (first | refine JL.q (by first|(apply OQ.xU (caps:=[Pt b2 0,Pt b3 0]);rfl)|(apply OQ.assign;rfl)) rfl ?_ | refine JC.seq ?_ | refine JC.region ?_ | refine JC.skip ?_ | refine JL.nil ?_ | refine JE.next ?_)
  refine JC.ret ?_
  skip
  exact JE.aJ rfl (RV.tmp rfl) fun w' hw=>⟨(b2,b3),rfl,hw⟩
end Rw
end
section
set_option maxRecDepth 10000
open Sl bV eu
namespace Rw
def mE (wd : Nat) (l : List Bt) : Nat→List Bt
  | 0=>[]
  | k+1=>mE wd l k++((l.drop (k * wd)).take (wk l.length wd k)++[13,10])
def dF (wd : Nat) (l : List Bt) : List Bt:=mE wd l (rH l.length wd)
theorem mz {wd : Nat} {l : List Bt} (hwd : 0<wd) : ∀ k,k≤rH l.length wd→(mE wd l k).length≤3 * min (k * wd) l.length
  | 0,_=>Nat.zero_le _
  | k+1,hk=>by
    have ih:=mz (l:=l) hwd k (by omega)
    have hlt:=(tL (n:=l.length) (k:=k) hwd).1 (by omega)
    have hs : (k+1) * wd=k * wd+wd:=Nat.succ_mul _ _
    rw [mE,List.length_append,List.length_append,List.length_take,List.length_drop,hs]
    generalize k * wd=A at *
    unfold wk
    have h2 : ([13,10] : List Bt).length=2:=rfl
    rw [h2]
    omega
theorem tN (a : Act) (p1 : Nat) (v1 : Value) (hd : a.defers=[]) : ({ tmps:=(#[p1].zip #[v1]).foldl (fun t (x : Nat × Value)=>t.setIfInBounds x.1 x.2) a.tmps,defers:=[] } : Act)=a.put (some p1) v1:=by
  obtain ⟨tm,df⟩:=a
  simp only at hd
  subst hd
  simp [Act.put]
theorem tO {a : aq} {wd k : Nat} {w : World} (h : a.ok w) (hk : k * wd≤a.l.length) : (mw a wd k).ok w:=by
  have h1:=(h.snd (k * wd) hk).fst (wk a.l.length wd k)
  rw [fk] at h1
  exact ⟨by show ((a.l.drop _).take _).length≤_;rw [List.length_take];exact Nat.min_le_left _ _,h1.reads⟩
theorem nV {a : aq} {S : List Nat} (h : dW a S) : ∀ b ∈ dA a,b ∉ S:=by
  obtain ⟨ad,cap,l⟩:=a
  intro b hb
  cases l with
  | nil=>cases hb
  | cons c r=>
    cases ad with
    | none=>cases hb
    | some x=>
      obtain rfl:=List.mem_singleton.1 hb
      exact h (by simp) x rfl
theorem iG : aR Tryd.prog 45:=⟨_,Tryd.func45,rfl,by kernel_rfl⟩
structure w7 where
  q : Acc
  k : Nat
abbrev w8 (b3 : Nat) (mk : List Bt) (wd : Nat) (l : List Bt) (s : w7) : List az:=⟨b3,Row 22 [ak s.q (mk++mE wd l s.k).length],true⟩::an 5 s.q ((mk++mE wd l s.k).map U8)
theorem lD {b3 : Nat} {mk : List Bt} {wd : Nat} {l : List Bt} {s : w7} : ∀ e ∈ w8 b3 mk wd l s,∀ o,e.A o→o.isCells=true:=by
  intro e he o hA
  simp only [List.mem_cons] at he
  rcases he with rfl | he
  · exact aX o hA
  · exact cJ e he o hA
theorem tP {b3 : Nat} {mk : List Bt} {wd : Nat} {l : List Bt} {s : w7} : ∀ e ∈ w8 b3 mk wd l s,e.wr=true:=by
  intro e he
  simp only [List.mem_cons] at he
  rcases he with rfl | he
  · rfl
  · exact aT _ _ _ e he
set_option maxHeartbeats 8000000 in
theorem tQ (q0 : Acc) (mk : List Bt) (a : aq) (wd : Nat) (S : List Nat) (w : World) (h0 : aa w S (an 5 q0 (mk.map U8)) w) (hq0 : q0=none→mk=[]) (ha : a.ok w) (haw : dW a S) (hwd : 0<wd) (hwd2 : wd≤1000000000) (hl : a.l.length≤1000000000) (hml : mk.length≤10000000000) :
    Calls Tryd.prog 45 [ak q0 mk.length,a.v,N wd].toArray w fun e w'=>∃ q : {q : Acc // q=none→mk++dF wd a.l=[]},e=.returned (ak q.1 (mk++dF wd a.l).length)∧aa w S (an 5 q.1 ((mk++dF wd a.l).map U8)) w':=by
  refine jP (n:=18) Tryd.func45 rfl rfl rfl h0 ?_
  have hcv : (ak q0 mk.length).cells=[ak q0 mk.length].toArray:=by cases q0 <;> rfl
  refine JC.seq (JC.region ?_)
  refine JL.box (r:=[ak q0 mk.length]) rfl hcv rfl fun b3 _=>?_
  repeat (first | refine JL.q (by first|(apply OQ.move;rfl)|(apply OQ.assign;rfl)) rfl ?_ | refine JC.seq ?_ | refine JC.region ?_ | refine JL.nil ?_ | refine JE.next ?_)
  refine JL.bC (ι:=Nat × Nat) (vs:=[a.v,N wd]) (fun p=>tM p) (fun p=>[⟨p.2,Row 3 [N wd],true⟩,⟨p.1,Row 22 [a.v],true⟩]) pH rfl rfl (fun p e he=>by simp only [List.mem_cons,List.mem_nil_iff,or_false] at he;rcases he with rfl | rfl <;> rfl) (fun w' _=>rm a wd hwd w') ?_
  rintro ⟨p1,p2⟩
  repeat (first | refine JC.block ?_ | refine JL.nil ?_ | refine JE.next ?_)
  refine JC.jR (ι:=w7) (κ:=Unit) (τ:=w7) (fun k=>#[(mw a wd k).v]) [⟨p2,Row 3 [N wd],true⟩,⟨p1,Row 22 [a.v],true⟩] (dA a) (rH a.l.length wd) (fun k=>(11,(mw a wd k).v)::[(3,Pt b3 0)])
    (w8 b3 mk wd a.l) (fun k s=>s.k=k∧(s.q=none→mk++mE wd a.l k=[])) (w8 b3 mk wd a.l) (fun k _=>[(7,(mw a wd k).v),(3,Pt b3 0)]) (fun k s=>s.k=k∧(s.q=none→mk++mE wd a.l k=[]))
    (fun _=>[]) (fun _=>False)
    ?hput (fun _=>rfl) rfl (enters_of Tryd.func80 (by kernel_rfl) rfl) ?hseq (fun e he=>by simp only [List.mem_cons,List.mem_nil_iff,or_false] at he;rcases he with rfl | rfl <;> rfl) (fun _=>tP) (fun _=>tP) (fun _ e he=>by cases he) (fun _=>lD) (fun _=>lD) (fun _=>j3)
    (fun b hb=>⟨cu ha b hb,nV haw b hb⟩) ⟨q0,0⟩ ⟨rfl,fun e=>by rw [hq0 e];rfl⟩ ?hMz ?hasg ?hbody ?hdone (fun _ _ hf=>hf.elim)
  case hput=>
    intro k ac hac
    rw [tN ac 11 _ hac.defers]
    exact (hac.put 11 _ rfl).sub (by repeat (first | exact ax.nil | refine ax.cons _ _ _ rfl ?_))
  case hseq=>
    intro W hW
    obtain ⟨o2,ho2,hA2⟩:=hW.get (b:=p2) .here
    obtain ⟨o1,ho1,hA1⟩:=hW.get (b:=p1) (.there .here)
    have hno : ∀ b ∈ dA a,∀ e : az,e ∈ ([⟨p2,Row 3 [N wd],true⟩,⟨p1,Row 22 [a.v],true⟩] : List az)→b≠e.b:=fun b hb e he hbe=>by
      have h1:=cu ha b hb
      have h2:=nV haw b hb
      rcases (hW.all e (List.mem_append_left _ he)).2 (by simp only [List.mem_cons,List.mem_nil_iff,or_false] at he;rcases he with rfl | rfl <;> rfl) with h | h
      · exact h2 (hbe ▸ h)
      · omega
    have:=rj a wd p1 p2 hwd hwd2 hl W (cC ha hW haw) (fun k hk=>hno k hk ⟨p1,Row 22 [a.v],true⟩ (by simp)) (fun k hk=>hno k hk ⟨p2,Row 3 [N wd],true⟩ (by simp)) (by rw [ho1];exact congrArg some hA1) (by rw [ho2];exact congrArg some hA2)
    have hmm : (fun b=>b ∈ [p1,p2])=(fun b=>b ∈ ([⟨p2,Row 3 [N wd],true⟩,⟨p1,Row 22 [a.v],true⟩] : List az).map az.b):=funext fun b=>by simp [or_comm]
    rw [hmm] at this
    exact this
  case hMz=>
    intro w' hw'
    show aa w S (⟨p2,Row 3 [N wd],true⟩::⟨p1,Row 22 [a.v],true⟩::⟨b3,Row 22 [ak q0 (mk++[]).length],true⟩::an 5 q0 ((mk++[]).map U8)) w'
    rw [List.append_nil]
    exact hw'
  case hasg=>
    intro r k s w1 hi hk hH
    exact JR.region rfl dz (JL.q (OQ.assign rfl) rfl (JL.nil (JE.qx s hi (by repeat (first | exact ax.nil | refine ax.cons _ _ _ rfl ?_)) (aA.refl _))))
  case hdone=>
    rintro D ⟨q,k⟩ ⟨hk,hq⟩
    dsimp only at hk hq
    subst hk
    repeat (first | refine KL.q (by first|(apply OQ.load;exact bX;rfl;exact (.there .here);exact (Row.cell (v:=ak q (mk++mE wd a.l (rH a.l.length wd)).length) rfl))|(apply OQ.assign;rfl)) rfl ?_ | refine KC.seq ?_ | refine KC.region ?_ | refine KL.nil ?_ | refine KE.next ?_ | refine KE.aj ?_)
    refine KC.ret ?_
    exact KE.pZ rfl (RV.tmp rfl) fun w' hw=>⟨⟨q,hq⟩,rfl,hw.weak (.drop _ _ _ (aA.refl _))⟩
  case hbody=>
    rintro r k ⟨q,k'⟩ w1 ⟨hk',hq⟩ hk hH
    dsimp only at hk' hq
    subst hk'
    have hlt:=(tL (n:=a.l.length) (k:=k') hwd).1 hk
    have cok:=tO (cC ha hH haw) (Nat.le_of_lt hlt)
    have hcl:=mz (l:=a.l) hwd k' (by omega)
    have hcl1:=mz (l:=a.l) hwd (k'+1) (by omega)
    obtain ⟨m,hm⟩ : ∃ m,mk++mE wd a.l k'=m:=⟨_,rfl⟩
    have hm1 : mk++mE wd a.l (k'+1)=m++(mw a wd k').l++[13,10]:=by rw [mE,← hm];simp [mw]
    have hmn : m.length≤20000000000:=by rw [← hm,List.length_append];omega
    have hcn : (mw a wd k').l.length≤a.l.length:=by show ((a.l.drop _).take _).length≤_;rw [List.length_take,List.length_drop];omega
    have haw2 : ny (mw a wd k') (gJ (w8 b3 mk wd a.l ⟨q,k'⟩)):=fun h9 x hx hmem=>by
      have h8 : a.l≠[]:=fun e=>h9 (by show (a.l.drop _).take _=[];rw [e];simp)
      have hb:=(tO (k:=k') ha (Nat.le_of_lt hlt)).lt h9 x hx
      obtain ⟨e,he,hew,heb⟩:=dS.1 hmem
      rcases (hH.all e he).2 hew with h | h
      · obtain ⟨xa,hxa,hxb⟩ : ∃ xa,a.ad=some xa∧xa.block=x.block:=by
          have hx : (if a.cap=k' * wd then a.ad else a.ad.map (·.add (k' * wd * 1)))=some x:=hx
          split at hx
          · exact ⟨x,hx,rfl⟩
          · obtain ⟨xa,h1,h2⟩:=Option.map_eq_some_iff.1 hx
            exact ⟨xa,h1,by rw [← h2];unfold Addr.add;first | rfl|(split <;> rfl)|(cases xa;simp)⟩
        exact haw h8 xa hxa (by rw [hxb,← heb];exact h)
      · omega
    show JR _ _ _ _ _ _ _ _ _ (⟨b3,Row 22 [ak q (mk++mE wd a.l k').length],true⟩::an 5 q ((mk++mE wd a.l k').map U8))
    rw [hm] at hq ⊢
    repeat (first | refine JL.q (by first|(apply OQ.load;exact bX;rfl;exact .here;exact (Row.cell (v:=ak q m.length) rfl))|(apply OQ.move;rfl)) rfl ?_ | refine JR.seq ?_ | refine JR.block ?_ | refine JR.region rfl (by first | with_reducible exact ah | with_reducible exact ag ah | with_reducible exact ai ah | with_reducible exact ag (ai ah) | with_reducible exact af | with_reducible exact ag af | with_reducible exact ai af | with_reducible exact ag (ai af) | with_reducible exact ag (ag (ai af))) ?_)
    refine JL.perm (M':=an 5 q (m.map U8)++[⟨b3,Row 22 [ak q m.length],true⟩]) ?_ (List.perm_append_comm (l₁:=[_]))
    refine JL.bS (xs:=m.map U8) (cs:=(mw a wd k').l.map U8) (m:=(mw a wd k').l.length) (ad:=(mw a wd k').ad) (sc:=(mw a wd k').cap) q Tryd.underlying22 eD (fun e=>by rw [hq e];rfl) (by rw [List.length_map];rfl) rfl (List.length_map _) (fun w' hw'=>(dh cok hw' haw2).reads) (fun v hv=>by obtain ⟨c,_,rfl⟩:=List.mem_map.1 hv;rfl) rfl (by rw [List.length_map];omega) (by rw [List.length_map];omega) rfl fun q' hq'=>?_
    have hmc : m.map U8++(mw a wd k').l.map U8=(m++(mw a wd k').l).map U8:=(List.map_append ..).symm
    rw [hmc] at hq' ⊢
    rw [List.length_map]
    obtain ⟨m2,hm2⟩ : ∃ m2,m++(mw a wd k').l=m2:=⟨_,rfl⟩
    have hm2n : m2.length≤30000000000:=by rw [← hm2,List.length_append];omega
    rw [hm2] at hq' hm1 ⊢
    refine JL.perm (M':=⟨b3,Row 22 [ak q m.length],true⟩::an 5 q' (m2.map U8)) ?_ (List.perm_append_comm (l₂:=[_]))
    skip
    refine JL.aK (v:=ak q' m2.length) (r':=[ak q' m2.length]) bY rfl rfl (by cases q' <;> rfl) (by cases q' <;> rfl) .here Nat.zero_lt_one rfl ?_
    repeat (first | refine JL.q (by (apply OQ.load;exact bX;rfl;exact .here;exact (Row.cell (v:=ak q' m2.length) rfl))) rfl ?_ | refine JL.nil ?_ | with_reducible refine JE.bW ?_ | refine JR.region rfl (by first | with_reducible exact ah | with_reducible exact ag ah | with_reducible exact ai ah | with_reducible exact ag (ai ah) | with_reducible exact af | with_reducible exact ag af | with_reducible exact ai af | with_reducible exact ag (ai af) | with_reducible exact ag (ag (ai af))) ?_)
    refine JL.perm (M':=an 5 q' (m2.map U8)++[⟨b3,Row 22 [ak q' m2.length],true⟩]) ?_ (List.perm_append_comm (l₁:=[_]))
    refine JL.lO (r:=[13,10]) (xs:=m2.map U8) q' Tryd.underlying22 Tryd.underlying9 eD (fun e=>hq' e) (by rw [List.length_map];rfl) rfl (by simp) (by rw [List.length_map];simp;omega) rfl fun q2=>?_
    have hmd : m2.map U8++([13,10] : List Bt).map U8=(mk++mE wd a.l (k'+1)).map U8:=by rw [hm1,List.map_append]
    rw [hmd,List.length_map]
    refine JL.perm (M':=⟨b3,Row 22 [ak q' m2.length],true⟩::an 5 (some q2) ((mk++mE wd a.l (k'+1)).map U8)) ?_ (List.perm_append_comm (l₂:=[_]))
    refine JL.aK (v:=ak (some q2) (mk++mE wd a.l (k'+1)).length) (r':=[ak (some q2) (mk++mE wd a.l (k'+1)).length]) bY rfl rfl rfl rfl .here Nat.zero_lt_one rfl ?_
    repeat (first | refine JL.nil ?_ | with_reducible refine JE.aj ?_)
    exact JE.fZ ⟨some q2,k'+1⟩ ⟨rfl,nofun⟩ (aA.refl _)
end Rw
end
section
set_option maxRecDepth 10000
open Sl bV eu
namespace Rw
def nW : List Bt:=[70,114,111,109,58,32,97,64,98,10,10]
theorem vY : br nW 1:=by
  refine ⟨by decide +kernel,by decide +kernel,fun j hj=>?_⟩
  obtain rfl : j=0:=by omega
  decide +kernel
theorem xV : cc nW 1=[(0,10)]:=by decide +kernel
theorem xW : (([(0,10)].map (aY (nW.take (au nW 1)))).set (cg 0 1) (bP 2 (aY (nW.take (au nW 1)) (0,10)))).flatten=[102,82,111,109,58,32,97,64,98,10]:=by decide +kernel
theorem xX : [102,82,111,109,58,32,97,64,98,10]++(bO nW 1++nW.drop (au nW (1+1)))=[102,82,111,109,58,32,97,64,98,10,10]:=by decide +kernel
theorem kH : aR Tryd.prog 5:=⟨_,Tryd.func5,rfl,by kernel_rfl⟩
theorem tT (b : Nat) (w : World) (hs : aq.ok w ⟨some ⟨b,0,none⟩,11,nW⟩) : Calls Tryd.prog 6 [aq.v ⟨some ⟨b,0,none⟩,11,nW⟩,.agg (bB 4 0 2 []).toArray].toArray w (de [102,82,111,109,58,32,97,64,98,10,10] w):=by
  have:=gj ⟨some ⟨b,0,none⟩,11,nW⟩ 0 2 [] w hs (show 11≤100000000 by decide) vY xV (by simp) (p:=(0,10)) (by decide +kernel) xW (by decide) (by decide)
  rwa [show aq.l ⟨some ⟨b,0,none⟩,11,nW⟩=nW from rfl,xX] at this
set_option maxHeartbeats 8000000 in
theorem mA (w : World) : Calls Tryd.prog 5 ([] : List Value).toArray w fun e w'=>e=.returned (.bool true)∧Ext w w':=by
  refine enter (n:=7) Tryd.func5 rfl rfl rfl (aa.start w []) ?_
  repeat (first | refine JL.q (by (apply OQ.assign;rfl)) rfl ?_ | refine JC.seq ?_ | refine JC.region ?_ | refine JL.nil ?_ | refine JE.next ?_)
  refine JL.rO (xs:=[.const (U8 70),.const (U8 114),.const (U8 111),.const (U8 109),.const (U8 58),.const (U8 32),.const (U8 97),.const (U8 64),.const (U8 98),.const (U8 10),.const (U8 10)]) (vs:=nW.map U8) Tryd.underlying22 eD rfl rfl rfl rfl (by intro v hv;obtain ⟨c,_,rfl⟩:=List.mem_map.1 hv;rfl) rfl (by decide) (by decide) rfl fun b1 _=>?_
  refine JL.mark (r:=nW.map U8) (te:=5) Tryd.underlying22 Tryd.underlying5 rfl .here rfl ?_
  refine JL.q (OQ.oO (cs:=bB 4 0 2 []) [0,2] [.const (I 4),.const (I 2)] (vs:=[I 4,I 2]) rfl rfl (by kernel_rfl)) rfl ?_
  refine JL.fR (vs:=[aq.v ⟨some ⟨b1,0,none⟩,11,nW⟩,.agg (bB 4 0 2 []).toArray]) (S':=[]) [] gi rfl rfl (fun w' hw'=>tT b1 w' ⟨Nat.le_refl _,(by obtain ⟨o,ho,hA⟩:=hw'.get .here;exact Reads.block ho (vB.all _ hA))⟩) (.nil _) (by simp) ?_
  intro x hx w1 hw1 okx
  repeat (first | refine JL.q (by first|(apply OQ.wJ (s:=x);exact Tryd.underlying22;exact Tryd.underlying5;exact Tryd.underlying9;rfl;exact (fun w' hw'=>okx.holds hw' rfl))|(apply OQ.wI (r:=[102,82,111,109,58,32,97,64,98,10,10]);rfl;rfl;exact hx)|(apply OQ.assign;rfl)) rfl ?_ | refine JL.nil ?_ | refine JE.next ?_)
  refine JC.ret (JE.aJ rfl (RV.tmp rfl) ?_)
  exact fun w' hw=>⟨rfl,hw1.aC.trans hw.aC⟩
end Rw
end
section
set_option maxRecDepth 10000
open Sl
section
variable {P : Program} {n : Nat} {E : Env} {C : World→Prop} {dst : Option Tmp} {t t' ty : TypeId} {pos : String} {aft : Array Edge} {g : Option (Nat × Bool)} {x y : Operand}
end
theorem eC : aR Tryd.prog 7:=⟨_,Tryd.func7,rfl,by kernel_rfl⟩
set_option maxHeartbeats 8000000 in
theorem tU (a b : aq) (w : World) (ha : a.ok w) (hb : b.ok w) (hal : a.l.length<4611686018427387904) : Calls Tryd.prog 7 [a.v,b.v].toArray w fun e w'=>e=.returned (.bool (decide (a.l=b.l)))∧Ext w w':=by
  refine enter (n:=26) Tryd.func7 rfl rfl rfl (aa.start w []) ?_
  repeat (first | refine JL.q (by first|(apply OQ.move;rfl)|(apply OQ.assign;rfl)|(apply OQ.len;rfl;rfl)|(apply OQ.yd;rfl;rfl)) rfl ?_ | refine JC.seq ?_ | refine JC.region ?_ | refine JL.nil ?_ | refine JE.next ?_)
  refine JC.cond rfl (fun h=>?_) (fun h=>?_)
  · have h : ¬ a.l.length=b.l.length:=by simpa using h
    repeat (first | refine JL.q (by (apply OQ.assign;rfl)) rfl ?_ | refine JC.seq ?_ | refine JC.region ?_ | refine JL.nil ?_ | refine JE.next ?_)
    refine JC.ret ?_
    repeat (refine JE.av ?_)
    refine JE.aJ rfl (RV.tmp rfl) fun w' hw=>⟨?_,hw.aC⟩
    rw [decide_eq_false (fun e=>h (by rw [e]))]
  · have h : a.l.length=b.l.length:=by simpa using h
    repeat (first | refine JL.q (by (apply OQ.assign;rfl)) rfl ?_ | refine JC.seq ?_ | refine JC.region ?_ | refine JC.block ?_ | refine JC.skip ?_ | refine JL.nil ?_ | refine JE.next ?_)
    refine JC.loop (fun i : Nat=>[(0,a.v),(1,b.v),(5,N i)]) (fun _=>[]) (fun i=>a.l.length - i) (fun i=>i≤a.l.length∧a.l.take i=b.l.take i) 0 ⟨by omega,by simp⟩ (by repeat (first | exact ax.nil | refine ax.cons _ _ _ rfl ?_)) (aA.refl _) ?_
    rintro i ⟨hi,hI⟩
    repeat (first | refine JL.q (by first|(apply OQ.move;rfl)|(apply OQ.len;rfl;rfl)|(apply OQ.ij;rfl;rfl)) rfl ?_ | refine JC.seq ?_ | refine JC.region ?_ | refine JL.nil ?_ | refine JE.next ?_)
    refine JC.cond rfl (fun h2=>?_) (fun h2=>?_)
    · have hi' : i<a.l.length:=of_decide_eq_true h2
      clear h2
      obtain ⟨ba,ja,hae,hca⟩:=ha.reads.at (by simp;omega)
      obtain ⟨bb,jb,hbe,hcb⟩:=hb.reads.at (by simp;omega)
      have hca:=hca i _ (ig U8 0 hi')
      have hcb:=hcb i _ (ig U8 0 (show i<b.l.length by omega))
      have hav : a.v=.slice (some ⟨ba,ja,none⟩) a.l.length a.cap:=by rw [← hae];rfl
      have hbv : b.v=.slice (some ⟨bb,jb,none⟩) b.l.length b.cap:=by rw [← hbe];rfl
      rw [hav,hbv]
      repeat (first | refine JC.seq ?_ | refine JC.block ?_ | refine JC.skip ?_ | refine JE.next ?_)
      refine JC.quiet di (by kernel_rfl) ?_
      repeat (first | refine JQ.q (by first|(apply OQ.bZ;exact Tryd.underlying22;exact cn;rfl;rfl;exact hi')|(apply OQ.bZ;exact Tryd.underlying22;exact cn;rfl;rfl;exact (show i<b.l.length by omega))|(apply OQ.cA;exact og;rfl;exact (block_lt_of_cell hca);exact (by simp);exact hca)|(apply OQ.cA;exact og;rfl;exact (block_lt_of_cell hcb);exact (by simp);exact hcb)|(apply OQ.x7;rfl;rfl)|(apply OQ.move;rfl)) rfl ?_ | refine JQ.nil ?_ | refine JE.next ?_)
      refine JC.cond rfl (fun h3=>?_) (fun h3=>?_)
      · have h3 : ¬ a.l.getD i 0=b.l.getD i 0:=by simpa using h3
        repeat (first | refine JL.q (by (apply OQ.assign;rfl)) rfl ?_ | refine JC.seq ?_ | refine JC.region ?_ | refine JL.nil ?_ | refine JE.next ?_)
        refine JC.ret ?_
        repeat (first | refine JE.av ?_ | refine JE.aI ?_)
        refine JE.aJ rfl (RV.tmp rfl) fun w' hw=>⟨?_,hw.aC⟩
        rw [decide_eq_false (fun e=>h3 (by rw [e]))]
      · have h3 : a.l.getD i 0=b.l.getD i 0:=by simpa using h3
        rw [← hav,← hbv]
        repeat (first | refine JL.q (by first|(apply OQ.move;rfl)|(apply OQ.assign;rfl)|(apply OQ.bH;rfl;rfl;exact (by (try simp only []);omega))) rfl ?_ | refine JC.region ?_ | refine JC.skip ?_ | refine JL.nil ?_ | refine JE.next ?_ | refine JE.aj ?_)
        refine JE.again (i:=i) (i+1) ⟨by omega,?_⟩ (by omega) (by repeat (first | exact ax.nil | refine ax.cons _ _ _ rfl ?_)) (aA.refl _)
        have e1 : a.l[i]'hi'=b.l[i]'(by omega):=by
          simpa [List.getD,hi',show i<b.l.length by omega] using h3
        rw [List.take_succ_eq_append_getElem hi',List.take_succ_eq_append_getElem (show i<b.l.length by omega),hI,e1]
    · have hi' : ¬ i<a.l.length:=of_decide_eq_false h2
      obtain rfl : i=a.l.length:=by omega
      rw [List.take_length,h,List.take_length] at hI
      repeat (first | refine JL.q (by (apply OQ.assign;rfl)) rfl ?_ | refine JC.seq ?_ | refine JC.region ?_ | refine JC.exit ?_ | refine JL.nil ?_ | refine JE.next ?_ | refine JE.aS ?_ | refine JE.bE ?_)
      refine JC.ret ?_
      skip
      refine JE.aJ rfl (RV.tmp rfl) fun w' hw=>⟨?_,hw.aC⟩
      rw [decide_eq_true hI]
end
section
set_option maxRecDepth 10000
open Sl mO
namespace Rw
theorem OQ.xb {P : Program} {n : Nat} {E : Env} {C : World→Prop} {dst : Option Tmp} {t t' ty : TypeId} {pos : String} {aft : Array Edge} {g : Option (Nat × Bool)} {x y : Operand} {a b : BitVec 8} {c : Bool} (hx : ev E x=some (U8 a)) (hy : ev E y=some (U8 b)) (h : (!decide (a=b))=c) : OQ P n E C ⟨dst,.binOp .neq t x y t',ty,pos,aft,g⟩ (.bool c):=h ▸ OQ.vE hx hy rfl
theorem u5 {s : aq} {w : World} (hs : s.ok w) {i : Nat} (hi : i<s.l.length) : ∃ b j,s.v=.slice (some ⟨b,j,none⟩) s.l.length s.cap∧b<w.heap.size∧∀ k c,s.l[k]?=some c→w.cell? ⟨b,j+k,none⟩=some (U8 c):=by
  obtain ⟨b,j,had,hc⟩:=hs.reads.at (by rw [List.length_map];omega)
  refine ⟨b,j,by unfold aq.v;rw [had],?_,fun k c hk=>hc k _ (by rw [List.getElem?_map,hk];rfl)⟩
  exact block_lt_of_cell (hc i _ (by rw [List.getElem?_map,List.getElem?_eq_getElem hi];rfl))
end Rw
end
section
set_option maxRecDepth 10000
open Sl bV eu
namespace Rw
def tV (c : Bt) : Bool:=(!cE c && !decide (c=13)) && !decide (c=10)
def cH (l : List Bt) : List Bt:=l.filter tV
theorem rq (A M : List az) : aA A (A++M):=by
  induction A with
  | nil=>exact .nil _
  | cons e A ih=>exact .keep _ _ _ _ _ _ (fun _ h=>h) ih
theorem kn : aR Tryd.prog 64:=⟨_,Tryd.func64,rfl,by kernel_rfl⟩
set_option maxHeartbeats 8000000 in
theorem lE (s : aq) (w : World) (hs : s.ok w) (hl : s.l.length≤1000000000) :
    Calls Tryd.prog 64 [s.v].toArray w fun e w'=>e=.returned (Z (cH s.l))∧Ext w w':=by
  refine enter (n:=30) Tryd.func64 rfl rfl rfl (aa.start w []) ?_
  repeat (first | refine JL.q (by first|(apply OQ.len (k:=s.l.length) (ad:=s.ad) (cap:=s.cap);exact Tryd.underlying22;rfl)|(apply OQ.move;rfl)|(apply OQ.assign;rfl)) rfl ?_ | refine JC.seq ?_ | refine JC.region ?_ | refine JC.block ?_ | refine JL.nil ?_ | refine JE.next ?_)
  refine JC.loop (fun z : Nat × Acc=>[(0,s.v),(3,ak z.2 (cH (s.l.take z.1)).length),(6,s.v),(7,N s.l.length),(8,N z.1)]) (fun z=>an 5 z.2 ((cH (s.l.take z.1)).map U8)) (fun z=>s.l.length - z.1) (fun z=>z.1≤s.l.length∧(z.2=none→cH (s.l.take z.1)=[])) (0,none) ⟨Nat.zero_le _,fun _=>rfl⟩ (by repeat (first | exact ax.nil | refine ax.cons _ _ _ rfl ?_)) (aA.refl _) ?_
  rintro ⟨i,q⟩ ⟨hi,hq⟩
  dsimp only at hi hq ⊢
  repeat (first | refine JL.q (by (apply OQ.ij (a:=i) (b:=s.l.length);rfl;rfl)) rfl ?_ | refine JC.seq ?_ | refine JC.region ?_ | refine JL.nil ?_ | refine JE.next ?_)
  refine JC.cond rfl (fun hh=>?_) (fun hh=>?_)
  · have hi' : i<s.l.length:=of_decide_eq_true hh
    clear hh
    obtain ⟨bx,jx,hsv,hbx,hcx⟩:=u5 hs hi'
    obtain ⟨c,hc⟩ : ∃ c,s.l[i]?=some c:=⟨_,List.getElem?_eq_getElem hi'⟩
    have hci:=hcx i c hc
    obtain ⟨h1,h2⟩:=List.getElem?_eq_some_iff.1 hc
    have htk : cH (s.l.take (i+1))=cH (s.l.take i)++(if tV c then [c] else []):=by
      unfold cH
      rw [List.take_succ_eq_append_getElem h1,List.filter_append,h2]
      congr 1
      cases hh : tV c <;> simp [hh]
    have hml0 : (cH (s.l.take i)).length≤i:=by
      have h1 : (cH (s.l.take i)).length≤(s.l.take i).length:=List.length_filter_le _ _
      rw [List.length_take] at h1
      omega
    obtain ⟨m,hm⟩ : ∃ m,cH (s.l.take i)=m:=⟨_,rfl⟩
    rw [hm] at htk hq hml0 ⊢
    have hbl:=fun w' : World=>fG c w'
    obtain ⟨g1,hg1⟩ : ∃ g,cE c=g:=⟨_,rfl⟩
    obtain ⟨g2,hg2⟩ : ∃ g,(!decide (c=13))=g:=⟨_,rfl⟩
    obtain ⟨g3,hg3⟩ : ∃ g,(!decide (c=10))=g:=⟨_,rfl⟩
    rw [hg1] at hbl
    have hk : tV c=((!g1 && g2) && g3):=by unfold tV;rw [hg1,hg2,hg3]
    cases g1 <;> cases g2 <;> cases g3
    all_goals (repeat (first | refine JL.q (by first|(apply OQ.bZ (i:=i) (b:=bx) (j:=jx) (len:=s.l.length) (cap:=s.cap);exact Tryd.underlying22;exact cn;exact (congrArg some hsv);rfl;exact hi')|(apply OQ.cA;exact og;rfl;exact hbx;exact (by simp);exact hci)|(apply OQ.aB (vs:=[U8 c]);exact cF;rfl;exact (fun w' _=>hbl w'))|(apply OQ.not;rfl)|(apply OQ.xb (b:=13);rfl;rfl;exact hg2)|(apply OQ.xb (b:=10);rfl;rfl;exact hg3)|(apply OQ.aP;rfl;rfl)|(apply OQ.bz;rfl;rfl)|(apply OQ.move;rfl)|(apply OQ.assign;rfl)) rfl ?_ | refine JC.seq ?_ | refine JC.region ?_ | refine JC.block ?_ | refine JC.skip ?_ | refine JL.nil ?_ | refine JE.next ?_ | refine JL.aN rfl rfl ?_ | refine JL.cj rfl rfl rfl rfl ?_))
    all_goals first
      | (refine JC.cond_false rfl rfl ?_
         have hn : cH (s.l.take (i+1))=m:=by rw [htk,hk];simp
         repeat (first | refine JL.q (by first|(apply OQ.bH (a:=i) (b:=1);rfl;rfl;exact (by omega))|(apply OQ.move;rfl)) rfl ?_ | refine JC.region ?_ | refine JC.skip ?_ | refine JL.nil ?_ | refine JE.next ?_ | refine JE.aj ?_)
         rw [← hn]
         refine JE.again (i:=(i,q)) (i+1,q) ⟨hi',fun e=>hn.trans (hq e)⟩ (show s.l.length - (i+1)<s.l.length - i by omega) (by repeat (first | exact ax.nil | refine ax.cons _ _ _ rfl ?_)) (aA.refl _)
         done)
      | skip
    refine JC.cond_true rfl rfl ?_
    have hn : cH (s.l.take (i+1))=m++[c]:=by rw [htk,hk];rfl
    repeat (first | refine JL.q (by (apply OQ.move;rfl)) rfl ?_ | refine JC.region ?_)
    refine JL.gA (v:=U8 c) Tryd.underlying22 eD rfl rfl rfl rfl fun bl _=>?_
    refine JL.perm (M':=an 5 q (m.map U8)++[⟨bl,Row 5 [U8 c],true⟩]) ?_ (by exact List.perm_append_comm (l₁:=[_]))
    refine JL.bS (xs:=m.map U8) (cs:=[U8 c]) (m:=1) (ad:=some ⟨bl,0,none⟩) (sc:=1) q Tryd.underlying22 eD (fun e=>by rw [hq e];rfl) (by rw [List.length_map];rfl) rfl rfl (fun w' hw'=>?_) (fun v hv=>by rw [List.mem_singleton.1 hv];rfl) rfl (by rw [List.length_map];omega) (by rw [List.length_map];omega) rfl fun q3 hq3=>?_
    · obtain ⟨o,ho,hA⟩:=hw'.get (b:=bl) (A:=Row 5 [U8 c]) (wr:=true) (kE .here)
      exact Reads.block ho (Row.all o hA)
    have hmc : m.map U8++[U8 c]=(m++[c]).map U8:=by rw [List.map_append];rfl
    rw [hmc] at hq3
    rw [hmc,List.length_map]
    repeat (first | refine JL.q (by first|(apply OQ.bH (a:=i) (b:=1);rfl;rfl;exact (by omega))|(apply OQ.move;rfl)|(apply OQ.assign;rfl)) rfl ?_ | refine JC.region ?_ | refine JL.nil ?_ | refine JE.next ?_ | refine JE.aj ?_)
    rw [← hn]
    refine JE.again (i:=(i,q)) (i+1,q3) ⟨hi',fun e=>?_⟩ (show s.l.length - (i+1)<s.l.length - i by omega) (by repeat (first | exact ax.nil | refine ax.cons _ _ _ rfl ?_)) (rq _ _)
    exact absurd (hq3 e) (by simp)
  · have hi' : i=s.l.length:=by have:=of_decide_eq_false hh;omega
    subst hi'
    clear hh
    rw [List.take_length] at hq ⊢
    have hav : ak q (cH s.l).length=(eH q (cH s.l)).v:=(e9 q _).symm
    have hal : (eH q (cH s.l)).l=cH s.l:=eI hq
    rw [hav]
    repeat (first | refine JL.q (by first|(apply OQ.to;exact (OQ.wJ (s:=eH q (cH s.l)) Tryd.underlying22 Tryd.underlying5 Tryd.underlying9 rfl (fun w' hw'=>fc (M:=[]) (by rw [List.append_nil];exact hw')));exact (congrArg Z hal))|(apply OQ.move;rfl)|(apply OQ.assign;rfl)) rfl ?_ | refine JC.seq ?_ | refine JC.region ?_ | refine JC.exit ?_ | refine JL.nil ?_ | refine JE.next ?_ | refine JE.aS ?_ | refine JE.bE ?_)
    refine JC.ret ?_
    skip
    exact JE.aJ rfl (RV.tmp rfl) fun w' hw=>⟨rfl,hw.aC⟩
end Rw
end
section
set_option maxRecDepth 10000
open Sl eu mO
namespace Rw
def nX : List Bt:=[67,111,110,116,101,110,116,45,84,114,97,110,115,102,101,114,45,69,110,99,111,100,105,110,103,58,98,97,115,101,54,52]
def ko (p : Nat) (t : List Bt) : Nat:=
  if preB t [45,45]=true then 1 else if p=1∧t=[] then 0 else if p=2∧t=[] then 3 else if p=1∧bV.bD (cH t) nX=true then 2 else p
theorem ru : aR Tryd.prog 65:=⟨_,Tryd.func65,rfl,by kernel_rfl⟩
set_option maxHeartbeats 16000000 in
theorem tW (p : Nat) (t : aq) (w : World) (ht : t.ok w) (hl : t.l.length≤1000000000) :
    Calls Tryd.prog 65 [N p,t.v].toArray w fun e w'=>e=.returned (N (ko p t.l))∧Ext w w':=by
  refine enter (n:=35) Tryd.func65 rfl rfl rfl (aa.start w []) ?_
  have hdl : (cH t.l).length≤t.l.length:=List.length_filter_le _ _
  repeat (first | refine JL.q (by first|(apply OQ.move;rfl)|(apply OQ.assign;rfl)) rfl ?_ | refine JC.seq ?_ | refine JC.region ?_ | refine JC.block ?_ | refine JL.nil ?_ | refine JE.next ?_)
  refine JL.rO (xs:=[.const (U8 45),.const (U8 45)]) (vs:=[U8 45,U8 45]) Tryd.underlying22 eD rfl rfl rfl rfl (by intro v hv;simp only [List.mem_cons,List.not_mem_nil,or_false] at hv;rcases hv with rfl | rfl <;> rfl) rfl (by decide) (by decide) rfl fun b1 _=>?_
  refine JL.mark (r:=[U8 45,U8 45]) (te:=5) Tryd.underlying22 Tryd.underlying5 rfl .here rfl ?_
  obtain ⟨g,hg⟩ : ∃ g,preB t.l [45,45]=g:=⟨_,rfl⟩
  have hp : ∀ w',aa w [] [⟨b1,vB 5 [U8 45,U8 45],true⟩] w'→Calls Tryd.prog 79 [t.v,aq.v ⟨some ⟨b1,0,none⟩,2,[45,45]⟩].toArray w' fun e w2=>e=.returned (.bool g)∧Ext w' w2:=fun w' hw'=>by
    have:=ur t ⟨some ⟨b1,0,none⟩,2,[45,45]⟩ w' (ht.holds hw' rfl) (fH (l:=[45,45]) hw' .here)
    rw [show preB t.l (aq.l ⟨some ⟨b1,0,none⟩,2,[45,45]⟩)=g from hg] at this
    exact this
  obtain ⟨r,hr⟩ : ∃ r,ko p t.l=r:=⟨_,rfl⟩
  rw [hr]
  unfold ko at hr
  rw [hg] at hr
  repeat (first | refine JL.q (by first|(apply OQ.aB (vs:=[t.v,aq.v ⟨some ⟨b1,0,none⟩,2,[45,45]⟩]);exact rT;rfl;exact hp)|(apply OQ.assign;rfl)) rfl ?_ | refine JL.nil ?_ | refine JE.next ?_)
  cases g with
  | true=>
    refine JC.cond_true rfl rfl ?_
    have hr2 : r=1:=hr.symm.trans (if_pos rfl)
    rw [hr2]
    repeat (first | refine JL.q (by (apply OQ.assign;rfl)) rfl ?_ | refine JC.seq ?_ | refine JC.region ?_ | refine JL.nil ?_ | refine JE.next ?_)
    refine JC.ret ?_
    repeat (first | refine JE.av ?_ | refine JE.aI ?_)
    exact JE.aJ rfl (RV.tmp rfl) fun w' hw=>⟨rfl,hw.aC⟩
  | false=>
    refine JC.cond_false rfl rfl ?_
    rw [if_neg (by decide)] at hr
    obtain ⟨q1,hq1⟩ : ∃ q,decide ((p : Int)=1)=q:=⟨_,rfl⟩
    obtain ⟨q2,hq2⟩ : ∃ q,decide ((p : Int)=2)=q:=⟨_,rfl⟩
    obtain ⟨q0,hq0⟩ : ∃ q,decide ((t.l.length : Int)=0)=q:=⟨_,rfl⟩
    have e0 : t.l=[]↔q0=true:=by
      rw [← hq0,decide_eq_true_eq]
      exact ⟨fun h=>by rw [h];rfl,fun h=>List.length_eq_zero_iff.1 (by omega)⟩
    have e1 : p=1↔q1=true:=by rw [← hq1,decide_eq_true_eq];exact ⟨fun h=>by omega,fun h=>by omega⟩
    have e2 : p=2↔q2=true:=by rw [← hq2,decide_eq_true_eq];exact ⟨fun h=>by omega,fun h=>by omega⟩
    obtain ⟨sm,hsm⟩ : ∃ sm,bV.bD (cH t.l) nX=sm:=⟨_,rfl⟩
    rw [hsm] at hr
    have hd : ∀ (M : List az) (w' : World),aa w [] M w'→Calls Tryd.prog 64 [t.v].toArray w' fun e w2=>e=.returned (Z (cH t.l))∧Ext w' w2:=fun M w' hw'=>lE t w' (ht.holds hw' rfl) hl
    have hs : ∀ (M : List az) (w' : World),aa w [] M w'→Calls Tryd.prog 42 [Z (cH t.l),Z nX].toArray w' fun e w2=>e=.returned (.bool sm)∧Ext w' w2:=fun M w' hw'=>by
      have:=fL (cH t.l) nX w' (by omega)
      rw [hsm] at this
      exact this
    cases q1 with
    | true=>
      have hq2f : q2=false:=by rw [← hq2];have:=of_decide_eq_true hq1;exact decide_eq_false (by omega)
      subst hq2f
      cases q0 with
      | true=>
        repeat (first | refine JL.q (by first|(apply OQ.aU (b:=1);rfl;rfl;exact hq1)|(apply OQ.len (k:=t.l.length) (ad:=t.ad) (cap:=t.cap);exact Tryd.underlying22;rfl)|(apply OQ.aU (b:=0);rfl;rfl;exact hq0)|(apply OQ.aP;rfl;rfl)|(apply OQ.move;rfl)|(apply OQ.assign;rfl)) rfl ?_ | refine JC.seq ?_ | refine JC.region ?_ | refine JL.nil ?_ | refine JE.next ?_ | refine JL.aN rfl rfl ?_)
        refine JC.cond_true rfl rfl ?_
        have hr2 : r=0:=by rw [← hr];simp [e0,e1,e2]
        rw [hr2]
        repeat (first | refine JL.q (by (apply OQ.assign;rfl)) rfl ?_ | refine JC.seq ?_ | refine JC.region ?_ | refine JL.nil ?_ | refine JE.next ?_)
        refine JC.ret ?_
        repeat (first | refine JE.av ?_ | refine JE.aI ?_)
        exact JE.aJ rfl (RV.tmp rfl) fun w' hw=>⟨rfl,hw.aC⟩
      | false=>
        repeat (first | refine JL.q (by first|(apply OQ.aU (b:=1);rfl;rfl;exact hq1)|(apply OQ.len (k:=t.l.length) (ad:=t.ad) (cap:=t.cap);exact Tryd.underlying22;rfl)|(apply OQ.aU (b:=0);rfl;rfl;exact hq0)|(apply OQ.aP;rfl;rfl)|(apply OQ.move;rfl)|(apply OQ.assign;rfl)) rfl ?_ | refine JC.seq ?_ | refine JC.region ?_ | refine JL.nil ?_ | refine JE.next ?_ | refine JL.aN rfl rfl ?_)
        refine JC.cond_false rfl rfl ?_
        repeat (first | refine JL.q (by first|(apply OQ.aU (b:=2);rfl;rfl;exact hq2)|(apply OQ.bz;rfl;rfl)|(apply OQ.move;rfl)|(apply OQ.assign;rfl)) rfl ?_ | refine JC.seq ?_ | refine JC.region ?_ | refine JL.nil ?_ | refine JE.next ?_ | refine JL.cj rfl rfl rfl rfl ?_)
        refine JC.cond_false rfl rfl ?_
        repeat (first | refine JL.q (by first|(apply OQ.aU (b:=1);rfl;rfl;exact hq1)|(apply OQ.aB (vs:=[t.v]);exact kn;rfl;exact (hd _))|(apply OQ.aB (vs:=[Z (cH t.l),Z nX]);exact fz;rfl;exact (hs _))|(apply OQ.aP;rfl;rfl)|(apply OQ.move;rfl)|(apply OQ.assign;rfl)) rfl ?_ | refine JC.seq ?_ | refine JC.region ?_ | refine JL.nil ?_ | refine JE.next ?_ | refine JL.aN rfl rfl ?_)
        cases sm with
        | true=>
          refine JC.cond_true rfl rfl ?_
          have hr2 : r=2:=by rw [← hr];simp [e0,e1,e2]
          rw [hr2]
          repeat (first | refine JL.q (by (apply OQ.assign;rfl)) rfl ?_ | refine JC.seq ?_ | refine JC.region ?_ | refine JL.nil ?_ | refine JE.next ?_)
          refine JC.ret ?_
          repeat (first | refine JE.av ?_ | refine JE.aI ?_)
          exact JE.aJ rfl (RV.tmp rfl) fun w' hw=>⟨rfl,hw.aC⟩
        | false=>
          refine JC.cond_false rfl rfl ?_
          have hr2 : r=p:=by rw [← hr];simp [e0,e1,e2]
          rw [hr2]
          repeat (first | refine JL.q (by first|(apply OQ.move;rfl)|(apply OQ.assign;rfl)) rfl ?_ | refine JC.seq ?_ | refine JC.region ?_ | refine JC.skip ?_ | refine JL.nil ?_ | refine JE.next ?_ | refine JE.aj ?_)
          refine JC.ret ?_
          skip
          exact JE.aJ rfl (RV.tmp rfl) fun w' hw=>⟨rfl,hw.aC⟩
    | false=>
      repeat (first | refine JL.q (by first|(apply OQ.aU (b:=1);rfl;rfl;exact hq1)|(apply OQ.bz;rfl;rfl)|(apply OQ.move;rfl)|(apply OQ.assign;rfl)) rfl ?_ | refine JC.seq ?_ | refine JC.region ?_ | refine JL.nil ?_ | refine JE.next ?_ | refine JL.cj rfl rfl rfl rfl ?_)
      refine JC.cond_false rfl rfl ?_
      cases q2 with
      | true=>
        cases q0 with
        | true=>
          repeat (first | refine JL.q (by first|(apply OQ.aU (b:=2);rfl;rfl;exact hq2)|(apply OQ.len (k:=t.l.length) (ad:=t.ad) (cap:=t.cap);exact Tryd.underlying22;rfl)|(apply OQ.aU (b:=0);rfl;rfl;exact hq0)|(apply OQ.aP;rfl;rfl)|(apply OQ.move;rfl)|(apply OQ.assign;rfl)) rfl ?_ | refine JC.seq ?_ | refine JC.region ?_ | refine JL.nil ?_ | refine JE.next ?_ | refine JL.aN rfl rfl ?_)
          refine JC.cond_true rfl rfl ?_
          have hr2 : r=3:=by rw [← hr];simp [e0,e1,e2]
          rw [hr2]
          repeat (first | refine JL.q (by (apply OQ.assign;rfl)) rfl ?_ | refine JC.seq ?_ | refine JC.region ?_ | refine JL.nil ?_ | refine JE.next ?_)
          refine JC.ret ?_
          repeat (first | refine JE.av ?_ | refine JE.aI ?_)
          exact JE.aJ rfl (RV.tmp rfl) fun w' hw=>⟨rfl,hw.aC⟩
        | false=>
          repeat (first | refine JL.q (by first|(apply OQ.aU (b:=2);rfl;rfl;exact hq2)|(apply OQ.len (k:=t.l.length) (ad:=t.ad) (cap:=t.cap);exact Tryd.underlying22;rfl)|(apply OQ.aU (b:=0);rfl;rfl;exact hq0)|(apply OQ.aP;rfl;rfl)|(apply OQ.move;rfl)|(apply OQ.assign;rfl)) rfl ?_ | refine JC.seq ?_ | refine JC.region ?_ | refine JL.nil ?_ | refine JE.next ?_ | refine JL.aN rfl rfl ?_)
          refine JC.cond_false rfl rfl ?_
          repeat (first | refine JL.q (by first|(apply OQ.aU (b:=1);rfl;rfl;exact hq1)|(apply OQ.bz;rfl;rfl)|(apply OQ.move;rfl)|(apply OQ.assign;rfl)) rfl ?_ | refine JC.seq ?_ | refine JC.region ?_ | refine JL.nil ?_ | refine JE.next ?_ | refine JL.cj rfl rfl rfl rfl ?_)
          refine JC.cond_false rfl rfl ?_
          have hr2 : r=p:=by rw [← hr];simp [e0,e1,e2]
          rw [hr2]
          repeat (first | refine JL.q (by first|(apply OQ.move;rfl)|(apply OQ.assign;rfl)) rfl ?_ | refine JC.seq ?_ | refine JC.region ?_ | refine JC.skip ?_ | refine JL.nil ?_ | refine JE.next ?_ | refine JE.aj ?_)
          refine JC.ret ?_
          skip
          exact JE.aJ rfl (RV.tmp rfl) fun w' hw=>⟨rfl,hw.aC⟩
      | false=>
        repeat (first | refine JL.q (by first|(apply OQ.aU (b:=2);rfl;rfl;exact hq2)|(apply OQ.bz;rfl;rfl)|(apply OQ.move;rfl)|(apply OQ.assign;rfl)) rfl ?_ | refine JC.seq ?_ | refine JC.region ?_ | refine JL.nil ?_ | refine JE.next ?_ | refine JL.cj rfl rfl rfl rfl ?_)
        refine JC.cond_false rfl rfl ?_
        repeat (first | refine JL.q (by first|(apply OQ.aU (b:=1);rfl;rfl;exact hq1)|(apply OQ.bz;rfl;rfl)|(apply OQ.move;rfl)|(apply OQ.assign;rfl)) rfl ?_ | refine JC.seq ?_ | refine JC.region ?_ | refine JL.nil ?_ | refine JE.next ?_ | refine JL.cj rfl rfl rfl rfl ?_)
        refine JC.cond_false rfl rfl ?_
        have hr2 : r=p:=by rw [← hr];simp [e0,e1,e2]
        rw [hr2]
        repeat (first | refine JL.q (by first|(apply OQ.move;rfl)|(apply OQ.assign;rfl)) rfl ?_ | refine JC.seq ?_ | refine JC.region ?_ | refine JC.skip ?_ | refine JL.nil ?_ | refine JE.next ?_ | refine JE.aj ?_)
        refine JC.ret ?_
        skip
        exact JE.aJ rfl (RV.tmp rfl) fun w' hw=>⟨rfl,hw.aC⟩
end Rw
end
end Go.Proofs.YtbmagnpmfpfckaaDoor
