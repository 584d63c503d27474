/-
  THE TIED CARD OF RatchetCodes: whatever comes in, the law returns true, and what came in reads as it did.
  Condition: the listed tables, as the card ties them (of these the proof reads the project's own alone).
-/
import Derived.Test.YtkfeolclllhfpaaDoorRf
import Derived.Test.YtkfeolclllhfpaaDoorCards
namespace Go.Proofs.YtkfeolclllhfpaaDoor
section
set_option maxRecDepth 10000
open Go.ChangeShapes Go.WideShapes Go.ChangeAt Go.RowKit
open Go.ChangeMaps (open_string shut_string)
open Sl
set_option linter.unusedVariables false
set_option maxHeartbeats 4000000 in
set_option maxRecDepth 100000 in
theorem iY (os : Os) (started : os.Started) (H : Type) (enc : TypeId × Value→H) :
    ReturnsInHanded {} Tryd.checked os 4 .any (fun w args=>(Rows.ratchetCodesSpec.pre enc Tryd.prog Tryd.f4 Rows.ratchetCodesRow.domain false w args∧laidMetH Tryd.prog Rows.ratchetCodesRow.laid w)∧sizedMet enc Tryd.prog Tryd.f4 (OpenSpec.ofChange Rows.ratchetCodesSpec) false w args) (Rows.ratchetCodesSpec.post enc Tryd.prog Tryd.f4 false true false false):=by
  refine returnsInHanded_of_change_and (C:=Tryd.checked) (X:=fun w _=>laidMetH Tryd.prog Rows.ratchetCodesRow.laid w) (fun _ _ _ hh h=>h.of_heap hh) Gw started (by kernel_rfl) Tryd.func4
    (ChangeSpec.witness_shaped (enc:=enc) (C:=Tryd.checked) (os:=os) (X:=fun w _=>laidMetH Tryd.prog Rows.ratchetCodesRow.laid w) false (World.laidAll Tryd.prog os Rows.ratchetCodesRow.laid) #[.agg (Array.replicate 96 (Value.int .u8 0)++#[Value.bool false,Value.bool false]++Array.replicate 64 (Value.int .u8 0)++#[Value.int .i64 0,Value.int .i64 0,Value.int .i64 0,Value.slice none 0 0]),.slice none 0 0] 8 (World.laidAll_os _ _ _)
      (xA os) (by kernel_rfl) (by kernel_rfl) (by kernel_rfl) (BS os _)) ?_
  intro W base args ds gs before hval0 hW hcnd hsz hL _
  have hval : ∀ (j : Nat) t v,Tryd.f4.params[j]?=some t→args[j]?=some v→Value.okWide Tryd.prog W .any base t v:=hval0
  have hW':=hW
  obtain ⟨p,q,hA0,hV,rfl,hfz,hnd⟩:=hW
  have hA : DataW.TrodAll enc Tryd.prog W 0 (fun _=>true) true Tryd.f4.params.toList args.toList ds p:=hA0
  rw [Tryd.params4] at hA hval
  obtain ⟨v0,vs0,d0,ds0,p0,q0,hargs,rfl,rfl,h0,r0⟩:=trodAll_cons hA
  obtain ⟨v1,vs1,d1,ds1,p1,q1,rfl,rfl,rfl,h1,r1⟩:=trodAll_cons r0
  obtain ⟨rfl,rfl,rfl⟩:=trodAll_nil r1
  obtain rfl : args=#[v0,v1]:=by cases args;simp_all
  obtain ⟨rfl,rfl⟩:=trodVars_none hV
  have k0:=h0
  have lt0 : ∀ x ∈ p0,x.block<W.heap.size:=by obtain ⟨m,hm⟩:=k0;exact DataW.trod_lt m _ _ _ hm
  have k1:=h1
  have lt1 : ∀ x ∈ p1,x.block<W.heap.size:=by obtain ⟨m,hm⟩:=k1;exact DataW.trod_lt m _ _ _ hm
  obtain ⟨s0,rfl,ok0⟩ : ∃ k : DO,v0=k.v∧k.ok W:=by
    obtain ⟨fuel,hf⟩:=h0
    exact BQ (hval 0 26 v0 rfl rfl) hf
  obtain ⟨s1,rfl,ok1,cap1⟩ : ∃ k : aT,v1=k.v∧k.ok W∧k.cap≤maxLen:=by
    obtain ⟨a,l,c,rfl⟩:=okWide_slice (show Tryd.prog.underlying 27=some (.slice 5) by kernel_rfl) (hval 1 27 v1 rfl rfl)
    obtain ⟨fuel,hf⟩:=h1
    exact D2 hf
  clear hA0 hval0
  refine (lZ s0 s1 W ok0 ok1 (kL hL).1 (kL hL).2).mono fun e W' ⟨he,hx⟩=>?_
  have bel:=kM.below hx
  subst he
  exact ⟨_,rfl,_,_,_,[],_,[],hW',trodAll_mk1 (shut_bool (show Tryd.prog.underlying 4=some .bool by kernel_rfl) _),(trodAll_cons_mk (Below.trod s8 (by kernel_rfl) (of_decide_eq_true (by kernel_rfl)) k0 bel lt0) (trodAll_cons_mk (Below.trod s8 (by kernel_rfl) (of_decide_eq_true (by kernel_rfl)) k1 bel lt1) trodAll_mk0)),rfl,bel.frame _,fun h=>by cases h⟩
theorem l7 : Rows.RatchetCodesSaid:=
  OpenClaim.holds_of_wide 4 Tryd.f4 rfl rfl rfl rfl rfl rfl rfl ⟨rfl,rfl,rfl,rfl,rfl⟩ rfl rfl rfl rfl rfl (by kernel_rfl) Tryd.func4 (by kernel_rfl)
    (of_decide_eq_true (by kernel_rfl)) (by unfold Func.isWrapper;first|(rw [if_pos (by decide +kernel)];kernel_rfl)|(rw [if_neg (by decide +kernel)];exact ⟨rfl,rfl⟩))
    (fun os started H enc _=>iY os started H enc)
theorem ratchetCodes_card : Rows.RatchetCodesCardSaid:=
  Claim7.holds_tied_plain_at .later [] [.data,.data] true (true,"79b932a14f4c48ae8c991ea5a1c0a01d57a93b7fa4768c73af16103f33de6f1f") false
    l7 (fun _ h=>by cases h) (by kernel_rfl) (fun _ h=>by cases h) ratchetCodes_row_tie rfl ⟨rfl,rfl⟩ (by kernel_rfl) rfl
    (fun f fn hf hfn=>by
      obtain rfl : f=4:=Option.some.inj ((show Tryd.prog.funcNamed "despatch/despatchlaw19.RatchetCodes" = some 4 by kernel_rfl).symm.trans hf) |>.symm
      obtain rfl : fn=Tryd.f4:=(Option.some.inj (Tryd.func4.symm.trans hfn)).symm
      exact ⟨by kernel_rfl,fun j t ht=>by
        rw [Tryd.params4] at ht
        have hm : t ∈ [26,27]:=by simpa using Array.mem_of_getElem? ht
        have hall : ([26,27].all fun u=>!Tryd.prog.wantsStandIn u)=true:=by kernel_rfl
        exact (show Tryd.prog.wantsStandIn t=false by simpa using List.all_eq_true.1 hall t hm)⟩)
    (by kernel_rfl)
#print axioms ratchetCodes_card
end
end Go.Proofs.YtkfeolclllhfpaaDoor
