/-
  THE TIED CARD OF RewriteAgain: whatever comes in, the law returns true, and what came in reads as it did.
  Condition: the listed tables, as the card ties them (of these the proof reads the project's own alone).
-/
import Derived.Test.YtbmagnpmfpfckaaDoorTe
import Derived.Test.YtbmagnpmfpfckaaDoorCards
namespace Go.Proofs.YtbmagnpmfpfckaaDoor
section
set_option maxRecDepth 10000
open Go.ChangeShapes Go.WideShapes Go.ChangeAt Go.RowKit
open Go.ChangeMaps (open_string shut_string)
open Sl
set_option linter.unusedVariables false
set_option maxHeartbeats 4000000 in
set_option maxRecDepth 100000 in
theorem fO (os : Os) (started : os.Started) (H : Type) (enc : TypeId × Value→H) :
    ReturnsInHanded {} Tryd.checked os 4 .any (fun w args=>(Rows.rewriteAgainSpec.pre enc Tryd.prog Tryd.f4 Rows.rewriteAgainRow.domain false w args∧laidMetH Tryd.prog Rows.rewriteAgainRow.laid w)∧sizedMet enc Tryd.prog Tryd.f4 (OpenSpec.ofChange Rows.rewriteAgainSpec) false w args) (Rows.rewriteAgainSpec.post enc Tryd.prog Tryd.f4 false true false false):=by
  refine gp (C:=Tryd.checked) (X:=fun w _=>laidMetH Tryd.prog Rows.rewriteAgainRow.laid w) (fun _ _ _ hh h=>h.of_heap hh) xY started (by kernel_rfl) Tryd.func4
    (ChangeSpec.witness_shaped (enc:=enc) (C:=Tryd.checked) (os:=os) (X:=fun w _=>laidMetH Tryd.prog Rows.rewriteAgainRow.laid w) false (World.laidAll Tryd.prog os Rows.rewriteAgainRow.laid) #[.slice none 0 0,.agg #[.int .i64 0,.int .i64 0,.int .i64 0,.string ⟨#[]⟩]] 8 (World.laidAll_os _ _ _)
      (rF os) (by kernel_rfl) (by kernel_rfl) (by kernel_rfl) (ve os _)) ?_
  intro W base args ds gs before hval0 hW hcnd hsz hL hsh
  have hm : dm W:=cell_of_shapedOpen_int (zero:=#[.int .i64 0]) (t:=3) hsh (of_decide_eq_true (by kernel_rfl)) (by kernel_rfl) rfl (by kernel_rfl) (by kernel_rfl) Tryd.underlying3
  have hval : ∀ (j : Nat) t v,Tryd.f4.params[j]?=some t→args[j]?=some v→Value.okWide Tryd.prog W .any base t v:=hval0
  have hW':=hW
  obtain ⟨p,q,hA0,hV,rfl,hfz,hnd⟩:=hW
  have hA : DataW.TrodAll enc Tryd.prog W 0 (fun _=>true) true Tryd.f4.params.toList args.toList ds p:=hA0
  rw [Tryd.params4] at hA hval
  obtain ⟨v0,vs0,d0,ds0,p0,q0,hargs,rfl,rfl,h0,r0⟩:=trodAll_cons hA
  obtain ⟨v1,vs1,d1,ds1,p1,q1,rfl,rfl,rfl,h1,r1⟩:=trodAll_cons r0
  obtain ⟨rfl,rfl,rfl⟩:=trodAll_nil r1
  obtain rfl : args=#[v0,v1]:=by cases args;simp_all
  obtain ⟨rfl,rfl⟩:=trodVars_none hV
  have k0:=h0
  have lt0 : ∀ x ∈ p0,x.block<W.heap.size:=by obtain ⟨m,hm⟩:=k0;exact DataW.trod_lt m _ _ _ hm
  have k1:=h1
  have lt1 : ∀ x ∈ p1,x.block<W.heap.size:=by obtain ⟨m,hm⟩:=k1;exact DataW.trod_lt m _ _ _ hm
  obtain ⟨s0,rfl,ok0,cap0⟩ : ∃ k : aq,v0=k.v∧k.ok W∧k.cap≤maxLen:=by
    obtain ⟨a,l,c,rfl⟩:=okWide_slice (show Tryd.prog.underlying 22=some (.slice 5) by kernel_rfl) (hval 0 22 v0 rfl rfl)
    obtain ⟨fuel,hf⟩:=h0
    exact v7 hf
  obtain ⟨s1,rfl,ok1⟩ : ∃ k : v8,v1=k.v∧k.ok W:=by
    obtain ⟨fuel,hf⟩:=h1
    exact pM (hval 1 26 v1 rfl rfl) hf
  clear hA0 hval0
  refine (Rw.iH s0 s1 W ok0 ok1 (ie hL).1 (ie hL).2 hm).mono fun e W' ⟨he,hx⟩=>?_
  have bel:=jl.below hx
  subst he
  exact ⟨_,rfl,_,_,_,[],_,[],hW',trodAll_mk1 (shut_bool (show Tryd.prog.underlying 4=some .bool by kernel_rfl) _),(trodAll_cons_mk (Below.trod oe (by kernel_rfl) (of_decide_eq_true (by kernel_rfl)) k0 bel lt0) (trodAll_cons_mk (Below.trod oe (by kernel_rfl) (of_decide_eq_true (by kernel_rfl)) k1 bel lt1) trodAll_mk0)),rfl,bel.frame _,fun h=>by cases h⟩
theorem iI : Rows.RewriteAgainSaid:=
  OpenClaim.holds_of_wide 4 Tryd.f4 rfl rfl rfl rfl rfl rfl rfl ⟨rfl,rfl,rfl,rfl,rfl⟩ rfl rfl rfl rfl rfl (by kernel_rfl) Tryd.func4 (by kernel_rfl)
    (of_decide_eq_true (by kernel_rfl)) (by unfold Func.isWrapper;first|(rw [if_pos (by decide +kernel)];kernel_rfl)|(rw [if_neg (by decide +kernel)];exact ⟨rfl,rfl⟩))
    (fun os started H enc _=>fO os started H enc)
theorem rewriteAgain_card : Rows.RewriteAgainCardSaid:=
  Claim7.holds_tied_plain_at .later [] [.data,.data,.data,.pinned] true (true,"30150bcd875592291d7a072ad87650dc5072089737f5ba566c8c27e557cd4ad5") false
    iI (fun _ h=>by cases h) (by kernel_rfl) (fun _ h=>by cases h) rewriteAgain_row_tie rfl ⟨rfl,rfl⟩ (by kernel_rfl) rfl
    (fun f fn hf hfn=>by
      obtain rfl : f=4:=Option.some.inj ((show Tryd.prog.funcNamed "despatch/despatchlaw20.RewriteAgain" = some 4 by kernel_rfl).symm.trans hf) |>.symm
      obtain rfl : fn=Tryd.f4:=(Option.some.inj (Tryd.func4.symm.trans hfn)).symm
      exact ⟨by kernel_rfl,fun j t ht=>by
        rw [Tryd.params4] at ht
        have hm : t ∈ [22,26]:=by simpa using Array.mem_of_getElem? ht
        have hall : ([22,26].all fun u=>!Tryd.prog.wantsStandIn u)=true:=by kernel_rfl
        exact (show Tryd.prog.wantsStandIn t=false by simpa using List.all_eq_true.1 hall t hm)⟩)
    (by kernel_rfl)
#print axioms rewriteAgain_card
end
end Go.Proofs.YtbmagnpmfpfckaaDoor
