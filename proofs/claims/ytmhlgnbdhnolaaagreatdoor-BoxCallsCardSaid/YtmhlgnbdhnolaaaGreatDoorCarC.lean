/-
  THE TIED CARD OF BoxCalls: whatever comes in, the law returns true, and what came in reads as it did.
  Condition: the listed tables, as the card ties them (of these the proof reads the project's own alone).
-/
import Derived.Test.YtmhlgnbdhnolaaaGreatDoorQf
import Derived.Test.YtmhlgnbdhnolaaaGreatDoorCards
import Derived.SizedLaws
namespace Go.Proofs.YtmhlgnbdhnolaaaGreatDoor
section
set_option maxRecDepth 10000
open Go.ChangeShapes Go.WideShapes Go.ChangeAt Go.RowKit
open Go.ChangeMaps (open_string shut_string)
open Sl
set_option linter.unusedVariables false
theorem vZ {H : Type} {P : Program} {ts : List TypeId} {ds : List (DataW H)} (h : (DataW.weightsEach P ts ds).all (·≤reachBytes)=true) {j n : Nat} {t : TypeId} {d : DataW H} (ht : ts[j]?=some t) (hd : ds[j]?=some d) (hn : n ∈ d.weights P t) : n<140737488351233:=by
  have h1:=List.all_eq_true.1 h _ (DataW.weights_mem_each ht hd n hn)
  have h2 : reachBytes=140737488351232:=by decide
  have h3 : n≤reachBytes:=by simpa using h1
  omega
set_option maxHeartbeats 4000000 in
set_option maxRecDepth 100000 in
theorem kY (os : Os) (started : os.Started) (H : Type) (enc : TypeId × Value→H) :
    ReturnsInHanded {} Tryz.checked os 3 .any (fun w args=>(Rows.boxCallsSpec.pre enc Tryz.prog Tryz.f3 Rows.boxCallsRow.domain false w args∧laidMetH Tryz.prog Rows.boxCallsRow.laid w)∧sizedMet enc Tryz.prog Tryz.f3 (OpenSpec.ofChange Rows.boxCallsSpec) false w args) (Rows.boxCallsSpec.post enc Tryz.prog Tryz.f3 false true false false):=by
  refine returnsInHanded_of_change_and (C:=Tryz.checked) (X:=fun w _=>laidMetH Tryz.prog Rows.boxCallsRow.laid w) (fun _ _ _ hh h=>h.of_heap hh) D4 started (by kernel_rfl) Tryz.func3
    (ChangeSpec.witness_shaped (enc:=enc) (C:=Tryz.checked) (os:=os) (X:=fun w _=>laidMetH Tryz.prog Rows.boxCallsRow.laid w) false (World.laidAll Tryz.prog os Rows.boxCallsRow.laid) #[.slice none 0 0,.string ⟨#[]⟩] 8 (World.laidAll_os _ _ _)
      (vX os) (by kernel_rfl) (by kernel_rfl) (by kernel_rfl) (Aq os _)) ?_
  intro W base args ds gs before hval0 hW hcnd hsz hL _
  have hval : ∀ (j : Nat) t v,Tryz.f3.params[j]?=some t→args[j]?=some v→Value.okWide Tryz.prog W .any base t v:=hval0
  have hW':=hW
  obtain ⟨p,q,hA0,hV,rfl,hfz,hnd⟩:=hW
  have hA : DataW.TrodAll enc Tryz.prog W 0 (fun _=>true) true Tryz.f3.params.toList args.toList ds p:=hA0
  rw [Tryz.params3] at hA hval
  obtain ⟨v0,vs0,d0,ds0,p0,q0,hargs,rfl,rfl,h0,r0⟩:=trodAll_cons hA
  obtain ⟨v1,vs1,d1,ds1,p1,q1,rfl,rfl,rfl,h1,r1⟩:=trodAll_cons r0
  obtain ⟨rfl,rfl,rfl⟩:=trodAll_nil r1
  obtain rfl : args=#[v0,v1]:=by cases args;simp_all
  obtain ⟨rfl,rfl⟩:=trodVars_none hV
  have k0:=h0
  have lt0 : ∀ x ∈ p0,x.block<W.heap.size:=by obtain ⟨m,hm⟩:=k0;exact DataW.trod_lt m _ _ _ hm
  obtain ⟨s0,rfl,ok0⟩ : ∃ k : uC,v0=k.v∧k.ok W:=by
    obtain ⟨fuel,hf⟩:=h0
    exact tE (hval 0 22 v0 rfl rfl) hf
  obtain ⟨z1,rfl,rfl,rfl,w1⟩:=open_string (show Tryz.prog.underlying 9=some .string by kernel_rfl) (hval 1 9 v1 rfl rfl) h1
  obtain ⟨s1,rfl⟩ : ∃ s : List Bt,z1=bR s:=⟨bytesOf z1,(jw z1).symm⟩
  have szf : s1.length<9223372036854775808:=by
    have:=vZ hsz (j:=1) (n:=s1.length) (t:=9) (by kernel_rfl) rfl (by simp [DataW.weights,bR])
    omega
  clear hA0 hval0
  refine (pH s0 s1 W ok0 szf (rE hL)).mono fun e W' ⟨he,hx⟩=>?_
  have bel:=kE.below hx
  subst he
  exact ⟨_,rfl,_,_,_,[],_,[],hW',trodAll_mk1 (shut_bool (show Tryz.prog.underlying 4=some .bool by kernel_rfl) _),(trodAll_cons_mk (Below.trod yD (by kernel_rfl) (of_decide_eq_true (by kernel_rfl)) k0 bel lt0) (trodAll_cons_mk (shut_string (show Tryz.prog.underlying 9=some .string by kernel_rfl) w1) trodAll_mk0)),rfl,bel.frame _,fun h=>by cases h⟩
theorem pI : Rows.BoxCallsSaid:=
  OpenClaim.holds_of_wide 3 Tryz.f3 rfl rfl rfl rfl rfl rfl rfl ⟨rfl,rfl,rfl,rfl,rfl⟩ rfl rfl rfl rfl rfl (by kernel_rfl) Tryz.func3 (by kernel_rfl)
    (of_decide_eq_true (by kernel_rfl)) (by unfold Func.isWrapper;first|(rw [if_pos (by decide +kernel)];kernel_rfl)|(rw [if_neg (by decide +kernel)];exact ⟨rfl,rfl⟩))
    (fun os started H enc _=>kY os started H enc)
theorem boxCalls_card : Rows.BoxCallsCardSaid:=
  Claim7.holds_tied_plain_at .later [] [.data,.data,.data,.sentinel,.sentinel] true (true,"96942947482b6be1c665b39e07f118974a30e2ed9c9228c469b954124a298056") true
    pI (fun _ h=>by cases h) (by kernel_rfl) (fun _ h=>by cases h) boxCalls_row_tie rfl ⟨rfl,rfl⟩ (by kernel_rfl) rfl
    (fun f fn hf hfn=>by
      obtain rfl : f=3:=Option.some.inj ((show Tryz.prog.funcNamed "despatch/despatchlaw17.BoxCalls" = some 3 by kernel_rfl).symm.trans hf) |>.symm
      obtain rfl : fn=Tryz.f3:=(Option.some.inj (Tryz.func3.symm.trans hfn)).symm
      exact ⟨by kernel_rfl,fun j t ht=>by
        rw [Tryz.params3] at ht
        have hm : t ∈ [22,9]:=by simpa using Array.mem_of_getElem? ht
        have hall : ([22,9].all fun u=>!Tryz.prog.wantsStandIn u)=true:=by kernel_rfl
        exact (show Tryz.prog.wantsStandIn t=false by simpa using List.all_eq_true.1 hall t hm)⟩)
    (by kernel_rfl)
#print axioms boxCalls_card
end
end Go.Proofs.YtmhlgnbdhnolaaaGreatDoor
