/-
  THE TIED CARD OF TalkSends: whatever comes in, the law returns true, and what came in reads as it did.
  Condition: the listed tables of Go's library, as the card ties them (the proof never reads them).
-/
import Derived.Test.YtjeeilmkjjbonaaGreatDoorPf
import Derived.Test.YtjeeilmkjjbonaaGreatDoorCards
namespace Go.Proofs.YtjeeilmkjjbonaaGreatDoor
section
set_option maxRecDepth 10000
open Go.ChangeShapes Go.WideShapes Go.ChangeAt Go.RowKit
open Go.ChangeMaps (open_string shut_string)
open Sl
set_option linter.unusedVariables false
set_option maxHeartbeats 4000000 in
set_option maxRecDepth 100000 in
theorem jK (os : Os) (started : os.Started) (H : Type) (enc : TypeId × Value→H) :
    ReturnsInHanded {} Tryz.checked os 4 .any (fun w args=>(Rows.talkSendsSpec.pre enc Tryz.prog Tryz.f4 Rows.talkSendsRow.domain false w args∧laidMetH Tryz.prog Rows.talkSendsRow.laid w)∧sizedMet enc Tryz.prog Tryz.f4 (OpenSpec.ofChange Rows.talkSendsSpec) false w args) (Rows.talkSendsSpec.post enc Tryz.prog Tryz.f4 false true false false):=by
  refine iL (C:=Tryz.checked) (X:=fun w _=>laidMetH Tryz.prog Rows.talkSendsRow.laid w) (fun _ _ _ hh h=>h.of_heap hh) BU started (by kernel_rfl) Tryz.func4
    (ChangeSpec.witness_shaped (enc:=enc) (C:=Tryz.checked) (os:=os) (X:=fun w _=>laidMetH Tryz.prog Rows.talkSendsRow.laid w) false (World.laidAll Tryz.prog os Rows.talkSendsRow.laid) #[.agg #[.string ⟨#[]⟩,.slice none 0 0,.slice none 0 0]] 8 (World.laidAll_os _ _ _)
      (vk os) (by kernel_rfl) (by kernel_rfl) (by kernel_rfl) (yZ os _)) ?_
  intro W base args ds gs before hval0 hW hcnd hsz hL hsh
  have hm : e7 W:=cell_of_shapedOpen_int (zero:=#[.int .i64 0]) (t:=3) hsh (of_decide_eq_true (by kernel_rfl)) (by kernel_rfl) rfl (by kernel_rfl) (by kernel_rfl) Tryz.underlying3
  have hval : ∀ (j : Nat) t v,Tryz.f4.params[j]?=some t→args[j]?=some v→Value.okWide Tryz.prog W .any base t v:=hval0
  have hW':=hW
  obtain ⟨p,q,hA0,hV,rfl,hfz,hnd⟩:=hW
  have hA : DataW.TrodAll enc Tryz.prog W 0 (fun _=>true) true Tryz.f4.params.toList args.toList ds p:=hA0
  rw [Tryz.params4] at hA hval
  obtain ⟨v0,vs0,d0,ds0,p0,q0,hargs,rfl,rfl,h0,r0⟩:=trodAll_cons hA
  obtain ⟨rfl,rfl,rfl⟩:=trodAll_nil r0
  obtain rfl : args=#[v0]:=by cases args;simp_all
  obtain ⟨rfl,rfl⟩:=trodVars_none hV
  have k0:=h0
  have lt0 : ∀ x ∈ p0,x.block<W.heap.size:=by obtain ⟨m,hm⟩:=k0;exact DataW.trod_lt m _ _ _ hm
  obtain ⟨s0,rfl,ok0⟩ : ∃ m : dF.Mr,v0=.agg m.cs.toArray∧m.to.ok W∧m.b.ok W:=by
    obtain ⟨fuel,hf⟩:=h0
    exact vl (hval 0 38 v0 rfl rfl) hf
  clear hA0 hval0
  refine (dF.l6 s0 W ok0.1 ok0.2 hm).mono fun e W' ⟨he,hx⟩=>?_
  have bel:=kM.below hx
  subst he
  exact ⟨_,rfl,_,_,_,[],_,[],hW',trodAll_mk1 (shut_bool (show Tryz.prog.underlying 4=some .bool by kernel_rfl) _),(trodAll_cons_mk (Below.trod xV (by kernel_rfl) (of_decide_eq_true (by kernel_rfl)) k0 bel lt0) trodAll_mk0),rfl,bel.frame _,fun h=>by cases h⟩
theorem l7 : Rows.TalkSendsSaid:=
  OpenClaim.holds_of_wide 4 Tryz.f4 rfl rfl rfl rfl rfl rfl rfl ⟨rfl,rfl,rfl,rfl,rfl⟩ rfl rfl rfl rfl rfl (by kernel_rfl) Tryz.func4 (by kernel_rfl)
    (of_decide_eq_true (by kernel_rfl)) (by unfold Func.isWrapper;first|(rw [if_pos (by decide +kernel)];kernel_rfl)|(rw [if_neg (by decide +kernel)];exact ⟨rfl,rfl⟩))
    (fun os started H enc _=>jK os started H enc)
theorem talkSends_card : Rows.TalkSendsCardSaid:=
  Claim7.holds_tied_plain_at .later [] [.data,.pinned,.pinned] true (true,"8130e0a5ed434a8a86e2a1e49f6007d992634c06aa192ac2de78a3fe7a0ff0c2") true
    l7 (fun _ h=>by cases h) (by kernel_rfl) (fun _ h=>by cases h) talkSends_row_tie rfl ⟨rfl,rfl⟩ (by kernel_rfl) rfl
    (fun f fn hf hfn=>by
      obtain rfl : f=4:=Option.some.inj ((show Tryz.prog.funcNamed "despatch/despatchlaw21.TalkSends" = some 4 by kernel_rfl).symm.trans hf) |>.symm
      obtain rfl : fn=Tryz.f4:=(Option.some.inj (Tryz.func4.symm.trans hfn)).symm
      exact ⟨by kernel_rfl,fun j t ht=>by
        rw [Tryz.params4] at ht
        have hm : t ∈ [38]:=by simpa using Array.mem_of_getElem? ht
        have hall : ([38].all fun u=>!Tryz.prog.wantsStandIn u)=true:=by kernel_rfl
        exact (show Tryz.prog.wantsStandIn t=false by simpa using List.all_eq_true.1 hall t hm)⟩)
    (by kernel_rfl)
#print axioms talkSends_card
end
end Go.Proofs.YtjeeilmkjjbonaaGreatDoor
