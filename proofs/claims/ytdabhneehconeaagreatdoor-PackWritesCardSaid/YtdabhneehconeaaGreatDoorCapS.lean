/-
  THE TIED CARD OF PackWrites: whatever comes in, the law returns true, and what came in reads as it did.
  Condition: the listed tables, as the card ties them (of these the proof reads the project's own alone).
-/
import Derived.Test.YtdabhneehconeaaGreatDoorDj
import Derived.Test.YtdabhneehconeaaGreatDoorCards
open Go.Proofs.YtdabhneehconeaaGreatDoor.YY
namespace Go.Proofs.YtdabhneehconeaaGreatDoor
section
open Go.ChangeShapes Go.WideShapes Go.ChangeAt Go.RowKit
open Go.ChangeMaps (open_string shut_string)
open Sl
set_option linter.unusedVariables false
set_option maxRecDepth 100000
set_option maxHeartbeats 4000000
theorem qR(os:Os)(started:os.Started)(H:Type)(enc:TypeId × Value->H) :
  ReturnsInHanded {} Tryz.checked os 3 .any (fun w args=>(Rows.packWritesSpec.pre enc Tryz.prog Tryz.f3 Rows.packWritesRow.domain false w args/\laidMetH Tryz.prog Rows.packWritesRow.laid w)/\sizedMet enc Tryz.prog Tryz.f3 (OpenSpec.ofChange Rows.packWritesSpec) false w args) (Rows.packWritesSpec.post enc Tryz.prog Tryz.f3 false true false false):=by
 refine returnsInHanded_of_change_and (C:=Tryz.checked) (X:=fun w _=>laidMetH Tryz.prog Rows.packWritesRow.laid w) (fun _ _ _ hh h=>h.of_heap hh) TO started Y636 Tryz.func3
  (ChangeSpec.witness_shaped (enc:=enc) (C:=Tryz.checked) (os:=os) (X:=fun w _=>laidMetH Tryz.prog Rows.packWritesRow.laid w) false (World.laidAll Tryz.prog os Rows.packWritesRow.laid) #[.agg #[.string ⟨#[]⟩,.string ⟨#[]⟩,.string ⟨#[]⟩,.string ⟨#[]⟩,.bool false,.slice none 0 0,.slice none 0 0]] 8 (World.laidAll_os _ _ _)
    (IT os) Y636 Y636 Y636 (Ou os _)) ?_
 intro W base args ds gs before hval0 hW hcnd hsz hL _
 have hval:∀ (j:Nat) t v,Tryz.f3.params[j]?=some t->args[j]?=some v->Value.okWide Tryz.prog W .any base t v:=hval0
 have hW':=hW
 obtain⟨p,q,hA0,hV,rfl,hfz,hnd⟩:=hW
 have hA:DataW.TrodAll enc Tryz.prog W 0 (fun _=>true) true Tryz.f3.params.toList args.toList ds p:=hA0
 rw[Tryz.params3] at hA hval
 obtain⟨v0,vs0,d0,ds0,p0,q0,hargs,rfl,rfl,h0,r0⟩:=trodAll_cons hA
 obtain⟨rfl,rfl,rfl⟩:=trodAll_nil r0
 obtain rfl:args=#[v0]:=by cases args;simp_all
 obtain⟨rfl,rfl⟩:=trodVars_none hV
 have k0:=h0
 have lt0:∀ x∈p0,x.block<W.heap.size:=by obtain⟨m,hm⟩:=k0;exact DataW.trod_lt m _ _ _ hm
 obtain⟨s0,rfl,ok0⟩:∃ e:kG,v0=.agg e.cs.toArray/\e.ok W:=by
  obtain⟨fuel,hf⟩:=h0
  exact Q0 (hval 0 24 v0 rfl rfl) hf
 clear hA0 hval0
 refine(wQ s0 W ok0 (nM hL).1 (nM hL).2).mono fun e W' ⟨he,hx⟩=>?_
 have bel:=pV.below hx
 subst he
 exact⟨_,rfl,_,_,_,[],_,[],hW',trodAll_mk1 (shut_bool (show Tryz.prog.underlying 4=some .bool by kernel_rfl) _),(trodAll_cons_mk (Below.trod Mg Y636 (of_decide_eq_true Y636) k0 bel lt0) trodAll_mk0),rfl,bel.frame _,fun h=>by cases h⟩
theorem wR:Rows.PackWritesSaid:=
 OpenClaim.holds_of_wide 3 Tryz.f3 rfl rfl rfl rfl rfl rfl rfl ⟨rfl,rfl,rfl,rfl,rfl⟩ rfl rfl rfl rfl rfl Y636 Tryz.func3 Y636
  (of_decide_eq_true Y636) (by unfold Func.isWrapper;first|(rw[if_pos Y615];kernel_rfl)|(rw[if_neg Y615];exact⟨rfl,rfl⟩))
  (fun os started H enc _=>qR os started H enc)
theorem packWrites_card:Rows.PackWritesCardSaid:=
 Claim7.holds_tied_plain_at .later [] [.data,.data,.data,.pinned,.pinned] true (true,"7625617fff763b8e79b3a8c2358a0ce7647985e9b402ce7e4d14fa09732919fa") false
  wR (fun _ h=>by cases h) Y636 (fun _ h=>by cases h) packWrites_row_tie rfl ⟨rfl,rfl⟩ Y636 rfl
  (fun f fn hf hfn=>by
    obtain rfl:f=3:=Option.some.inj ((show Tryz.prog.funcNamed "despatch/despatchlaw13.PackWrites" = some 3 by kernel_rfl).symm.trans hf) |>.symm
    obtain rfl:fn=Tryz.f3:=(Option.some.inj (Tryz.func3.symm.trans hfn)).symm
    exact⟨by kernel_rfl,fun j t ht=>by
     rw[Tryz.params3] at ht
     have hm:t∈[24]:=by simpa using Array.mem_of_getElem? ht
     have hall:([24].all fun u=>!Tryz.prog.wantsStandIn u)=true:=by kernel_rfl
     exact(show Tryz.prog.wantsStandIn t=false by simpa using List.all_eq_true.1 hall t hm)⟩)
  Y636
#print axioms packWrites_card
end
end Go.Proofs.YtdabhneehconeaaGreatDoor
