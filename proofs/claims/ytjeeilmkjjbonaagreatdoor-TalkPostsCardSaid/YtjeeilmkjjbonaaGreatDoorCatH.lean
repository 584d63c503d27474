/-
  THE TIED CARD OF TalkPosts: whatever comes in, the law returns true, and what came in reads as it did.
  Condition: the listed tables of Go's library, as the card ties them (the proof never reads them).
-/
import Derived.Test.YtjeeilmkjjbonaaGreatDoorOe
import Derived.Test.YtjeeilmkjjbonaaGreatDoorCards
namespace Go.Proofs.YtjeeilmkjjbonaaGreatDoor
section
set_option maxRecDepth 10000
open Go.ChangeShapes Go.WideShapes Go.ChangeAt Go.RowKit
open Go.ChangeMaps (open_string shut_string)
open Sl
set_option linter.unusedVariables false
set_option maxHeartbeats 4000000 in
set_option maxRecDepth 100000 in
theorem ic (os : Os) (started : os.Started) (H : Type) (enc : TypeId × Value→H) :
    ReturnsInHanded {} Tryz.checked os 3 .any (fun w args=>(Rows.talkPostsSpec.pre enc Tryz.prog Tryz.f3 Rows.talkPostsRow.domain false w args∧laidMetH Tryz.prog Rows.talkPostsRow.laid w)∧sizedMet enc Tryz.prog Tryz.f3 (OpenSpec.ofChange Rows.talkPostsSpec) false w args) (Rows.talkPostsSpec.post enc Tryz.prog Tryz.f3 false true false false):=by
  refine gf (C:=Tryz.checked) (X:=fun w _=>laidMetH Tryz.prog Rows.talkPostsRow.laid w) (fun _ _ _ hh h=>h.of_heap hh) yj started (by kernel_rfl) Tryz.func3
    (ChangeSpec.witness_shaped (enc:=enc) (C:=Tryz.checked) (os:=os) (X:=fun w _=>laidMetH Tryz.prog Rows.talkPostsRow.laid w) false (World.laidAll Tryz.prog os Rows.talkPostsRow.laid) #[.slice none 0 0,.slice none 0 0] 8 (World.laidAll_os _ _ _)
      (rK os) (by kernel_rfl) (by kernel_rfl) (by kernel_rfl) (vo os _)) ?_
  intro W base args ds gs before hval0 hW hcnd hsz hL hsh
  have hm : fA W:=cell_of_shapedOpen_int (zero:=#[.int .i64 0]) (t:=3) hsh (of_decide_eq_true (by kernel_rfl)) (by kernel_rfl) rfl (by kernel_rfl) (by kernel_rfl) Tryz.underlying3
  have hval : ∀ (j : Nat) t v,Tryz.f3.params[j]?=some t→args[j]?=some v→Value.okWide Tryz.prog W .any base t v:=hval0
  have hW':=hW
  obtain ⟨p,q,hA0,hV,rfl,hfz,hnd⟩:=hW
  have hA : DataW.TrodAll enc Tryz.prog W 0 (fun _=>true) true Tryz.f3.params.toList args.toList ds p:=hA0
  rw [Tryz.params3] at hA hval
  obtain ⟨v0,vs0,d0,ds0,p0,q0,hargs,rfl,rfl,h0,r0⟩:=trodAll_cons hA
  obtain ⟨v1,vs1,d1,ds1,p1,q1,rfl,rfl,rfl,h1,r1⟩:=trodAll_cons r0
  obtain ⟨rfl,rfl,rfl⟩:=trodAll_nil r1
  obtain rfl : args=#[v0,v1]:=by cases args;simp_all
  obtain ⟨rfl,rfl⟩:=trodVars_none hV
  have k0:=h0
  have lt0 : ∀ x ∈ p0,x.block<W.heap.size:=by obtain ⟨m,hm⟩:=k0;exact DataW.trod_lt m _ _ _ hm
  have k1:=h1
  have lt1 : ∀ x ∈ p1,x.block<W.heap.size:=by obtain ⟨m,hm⟩:=k1;exact DataW.trod_lt m _ _ _ hm
  obtain ⟨s0,rfl,ok0,cap0⟩ : ∃ k : aC,v0=k.v∧k.ok W∧k.cap≤maxLen:=by
    obtain ⟨a,l,c,rfl⟩:=okWide_slice (show Tryz.prog.underlying 22=some (.slice 5) by kernel_rfl) (hval 0 22 v0 rfl rfl)
    obtain ⟨fuel,hf⟩:=h0
    exact wR hf
  obtain ⟨s1,rfl,ok1,cap1⟩ : ∃ k : rY,v1=k.v∧k.ok W∧k.cap≤maxLen:=by
    obtain ⟨a,l,c,rfl⟩:=okWide_slice (show Tryz.prog.underlying 23=some (.slice 3) by kernel_rfl) (hval 1 23 v1 rfl rfl)
    obtain ⟨fuel,hf⟩:=h1
    exact wS hf
  clear hA0 hval0
  refine (dx.jV s0 s1 W ok0 ok1 hm).mono fun e W' ⟨he,hx⟩=>?_
  have bel:=iM.below hx
  subst he
  exact ⟨_,rfl,_,_,_,[],_,[],hW',trodAll_mk1 (shut_bool (show Tryz.prog.underlying 4=some .bool by kernel_rfl) _),(trodAll_cons_mk (Below.trod nE (by kernel_rfl) (of_decide_eq_true (by kernel_rfl)) k0 bel lt0) (trodAll_cons_mk (Below.trod nE (by kernel_rfl) (of_decide_eq_true (by kernel_rfl)) k1 bel lt1) trodAll_mk0)),rfl,bel.frame _,fun h=>by cases h⟩
theorem jW : Rows.TalkPostsSaid:=
  OpenClaim.holds_of_wide 3 Tryz.f3 rfl rfl rfl rfl rfl rfl rfl ⟨rfl,rfl,rfl,rfl,rfl⟩ rfl rfl rfl rfl rfl (by kernel_rfl) Tryz.func3 (by kernel_rfl)
    (of_decide_eq_true (by kernel_rfl)) (by unfold Func.isWrapper;first|(rw [if_pos (by decide +kernel)];kernel_rfl)|(rw [if_neg (by decide +kernel)];exact ⟨rfl,rfl⟩))
    (fun os started H enc _=>ic os started H enc)
theorem talkPosts_card : Rows.TalkPostsCardSaid:=
  Claim7.holds_tied_plain_at .later [] [.data,.pinned,.pinned] true (true,"8130e0a5ed434a8a86e2a1e49f6007d992634c06aa192ac2de78a3fe7a0ff0c2") true
    jW (fun _ h=>by cases h) (by kernel_rfl) (fun _ h=>by cases h) talkPosts_row_tie rfl ⟨rfl,rfl⟩ (by kernel_rfl) rfl
    (fun f fn hf hfn=>by
      obtain rfl : f=3:=Option.some.inj ((show Tryz.prog.funcNamed "despatch/despatchlaw21.TalkPosts" = some 3 by kernel_rfl).symm.trans hf) |>.symm
      obtain rfl : fn=Tryz.f3:=(Option.some.inj (Tryz.func3.symm.trans hfn)).symm
      exact ⟨by kernel_rfl,fun j t ht=>by
        rw [Tryz.params3] at ht
        have hm : t ∈ [22,23]:=by simpa using Array.mem_of_getElem? ht
        have hall : ([22,23].all fun u=>!Tryz.prog.wantsStandIn u)=true:=by kernel_rfl
        exact (show Tryz.prog.wantsStandIn t=false by simpa using List.all_eq_true.1 hall t hm)⟩)
    (by kernel_rfl)
#print axioms talkPosts_card
end
end Go.Proofs.YtjeeilmkjjbonaaGreatDoor
