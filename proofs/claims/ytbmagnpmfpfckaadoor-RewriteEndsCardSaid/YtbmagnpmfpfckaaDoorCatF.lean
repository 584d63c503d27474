/-
  THE TIED CARD OF RewriteEnds: whatever comes in, the law returns true, and what came in reads as it did.
  Condition: the listed tables, as the card ties them (the proof never reads them).
-/
import Derived.Test.YtbmagnpmfpfckaaDoorZc
import Derived.Test.YtbmagnpmfpfckaaDoorCards
namespace Go.Proofs.YtbmagnpmfpfckaaDoor
section
set_option maxRecDepth 10000
open Go.ChangeShapes Go.WideShapes Go.ChangeAt Go.RowKit
open Go.ChangeMaps (open_string shut_string)
open Sl
set_option linter.unusedVariables false
set_option maxHeartbeats 4000000 in
set_option maxRecDepth 100000 in
theorem cV (os : Os) (started : os.Started) (H : Type) (enc : TypeId × Value→H) :
    ReturnsInHanded {} Tryd.checked os 3 .any (fun w args=>(Rows.rewriteEndsSpec.pre enc Tryd.prog Tryd.f3 Rows.rewriteEndsRow.domain false w args∧laidMetH Tryd.prog Rows.rewriteEndsRow.laid w)∧sizedMet enc Tryd.prog Tryd.f3 (OpenSpec.ofChange Rows.rewriteEndsSpec) false w args) (Rows.rewriteEndsSpec.post enc Tryd.prog Tryd.f3 false true false false):=by
  refine cU (C:=Tryd.checked) (X:=fun w _=>laidMetH Tryd.prog Rows.rewriteEndsRow.laid w) (fun _ _ _ hh h=>h.of_heap hh) p4 started (by kernel_rfl) Tryd.func3
    (ChangeSpec.witness_shaped (enc:=enc) (C:=Tryd.checked) (os:=os) (X:=fun w _=>laidMetH Tryd.prog Rows.rewriteEndsRow.laid w) false (World.laidAll Tryd.prog os Rows.rewriteEndsRow.laid) #[.slice none 0 0] 8 (World.laidAll_os _ _ _)
      (ki os) (by kernel_rfl) (by kernel_rfl) (by kernel_rfl) (nj os _)) ?_
  intro W base args ds gs before hval0 hW hcnd hsz hL hsh
  have hm : bN W:=cell_of_shapedOpen_int (zero:=#[.int .i64 0]) (t:=3) hsh (of_decide_eq_true (by kernel_rfl)) (by kernel_rfl) rfl (by kernel_rfl) (by kernel_rfl) Tryd.underlying3
  have hval : ∀ (j : Nat) t v,Tryd.f3.params[j]?=some t→args[j]?=some v→Value.okWide Tryd.prog W .any base t v:=hval0
  have hW':=hW
  obtain ⟨p,q,hA0,hV,rfl,hfz,hnd⟩:=hW
  have hA : DataW.TrodAll enc Tryd.prog W 0 (fun _=>true) true Tryd.f3.params.toList args.toList ds p:=hA0
  rw [Tryd.params3] at hA hval
  obtain ⟨v0,vs0,d0,ds0,p0,q0,hargs,rfl,rfl,h0,r0⟩:=trodAll_cons hA
  obtain ⟨rfl,rfl,rfl⟩:=trodAll_nil r0
  obtain rfl : args=#[v0]:=by cases args;simp_all
  obtain ⟨rfl,rfl⟩:=trodVars_none hV
  have k0:=h0
  have lt0 : ∀ x ∈ p0,x.block<W.heap.size:=by obtain ⟨m,hm⟩:=k0;exact DataW.trod_lt m _ _ _ hm
  obtain ⟨s0,rfl,ok0,cap0⟩ : ∃ k : ai,v0=k.v∧k.ok W∧k.cap≤maxLen:=by
    obtain ⟨a,l,c,rfl⟩:=okWide_slice (show Tryd.prog.underlying 22=some (.slice 5) by kernel_rfl) (hval 0 22 v0 rfl rfl)
    obtain ⟨fuel,hf⟩:=h0
    exact oh hf
  clear hA0 hval0
  refine (Rw.er s0 W ok0 hm).mono fun e W' ⟨he,hx⟩=>?_
  have bel:=eD.below hx
  subst he
  exact ⟨_,rfl,_,_,_,[],_,[],hW',trodAll_mk1 (shut_bool (show Tryd.prog.underlying 4=some .bool by kernel_rfl) _),(trodAll_cons_mk (Below.trod mc (by kernel_rfl) (of_decide_eq_true (by kernel_rfl)) k0 bel lt0) trodAll_mk0),rfl,bel.frame _,fun h=>by cases h⟩
theorem eu : Rows.RewriteEndsSaid:=
  OpenClaim.holds_of_wide 3 Tryd.f3 rfl rfl rfl rfl rfl rfl rfl ⟨rfl,rfl,rfl,rfl,rfl⟩ rfl rfl rfl rfl rfl (by kernel_rfl) Tryd.func3 (by kernel_rfl)
    (of_decide_eq_true (by kernel_rfl)) (by unfold Func.isWrapper;first|(rw [if_pos (by decide +kernel)];kernel_rfl)|(rw [if_neg (by decide +kernel)];exact ⟨rfl,rfl⟩))
    (fun os started H enc _=>cV os started H enc)
theorem rewriteEnds_card : Rows.RewriteEndsCardSaid:=
  Claim7.holds_tied_plain_at .later [] [.data,.data,.data,.pinned] true (true,"30150bcd875592291d7a072ad87650dc5072089737f5ba566c8c27e557cd4ad5") false
    eu (fun _ h=>by cases h) (by kernel_rfl) (fun _ h=>by cases h) rewriteEnds_row_tie rfl ⟨rfl,rfl⟩ (by kernel_rfl) rfl
    (fun f fn hf hfn=>by
      obtain rfl : f=3:=Option.some.inj ((show Tryd.prog.funcNamed "despatch/despatchlaw20.RewriteEnds" = some 3 by kernel_rfl).symm.trans hf) |>.symm
      obtain rfl : fn=Tryd.f3:=(Option.some.inj (Tryd.func3.symm.trans hfn)).symm
      exact ⟨by kernel_rfl,fun j t ht=>by
        rw [Tryd.params3] at ht
        have hm : t ∈ [22]:=by simpa using Array.mem_of_getElem? ht
        have hall : ([22].all fun u=>!Tryd.prog.wantsStandIn u)=true:=by kernel_rfl
        exact (show Tryd.prog.wantsStandIn t=false by simpa using List.all_eq_true.1 hall t hm)⟩)
    (by kernel_rfl)
#print axioms rewriteEnds_card
end
end Go.Proofs.YtbmagnpmfpfckaaDoor
