/-
  THE TIED CARD OF RatchetParts: whatever comes in, the law returns true, and what came in reads as it did.
  Condition: the listed tables, as the card ties them (of these the proof reads the project's own alone).
-/
import Derived.Test.YtgkninhgcpbfnaaGreatDoorKg
import Derived.Test.YtgkninhgcpbfnaaGreatDoorCards
namespace Go.Proofs.YtgkninhgcpbfnaaGreatDoor
section
set_option maxRecDepth 10000
open Go.ChangeShapes Go.WideShapes Go.ChangeAt Go.RowKit
open Go.ChangeMaps (open_string shut_string)
open Sl
set_option linter.unusedVariables false
set_option maxHeartbeats 4000000 in
set_option maxRecDepth 100000 in
theorem mW (os : Os) (started : os.Started) (H : Type) (enc : TypeId × Value→H) :
    ReturnsInHanded {} Tryz.checked os 5 .any (fun w args=>(Rows.ratchetPartsSpec.pre enc Tryz.prog Tryz.f5 Rows.ratchetPartsRow.domain false w args∧laidMetH Tryz.prog Rows.ratchetPartsRow.laid w)∧sizedMet enc Tryz.prog Tryz.f5 (OpenSpec.ofChange Rows.ratchetPartsSpec) false w args) (Rows.ratchetPartsSpec.post enc Tryz.prog Tryz.f5 false true false false):=by
  refine returnsInHanded_of_change_and (C:=Tryz.checked) (X:=fun w _=>laidMetH Tryz.prog Rows.ratchetPartsRow.laid w) (fun _ _ _ hh h=>h.of_heap hh) Mx started (by kernel_rfl) Tryz.func5
    (ChangeSpec.witness_shaped (enc:=enc) (C:=Tryz.checked) (os:=os) (X:=fun w _=>laidMetH Tryz.prog Rows.ratchetPartsRow.laid w) false (World.laidAll Tryz.prog os Rows.ratchetPartsRow.laid) #[.agg (Array.replicate 32 (.int .u8 0)),.agg (Array.replicate 32 (.int .u8 0)),.agg (Array.replicate 32 (.int .u8 0)),.agg (Array.replicate 32 (.int .u8 0)),.slice none 0 0,.slice none 0 0,.slice none 0 0] 8 (World.laidAll_os _ _ _)
      (Cx os) (by kernel_rfl) (by kernel_rfl) (by kernel_rfl) (GC os _)) ?_
  intro W base args ds gs before hval0 hW hcnd hsz hL _
  have hval : ∀ (j : Nat) t v,Tryz.f5.params[j]?=some t→args[j]?=some v→Value.okWide Tryz.prog W .any base t v:=hval0
  have hW':=hW
  obtain ⟨p,q,hA0,hV,rfl,hfz,hnd⟩:=hW
  have hA : DataW.TrodAll enc Tryz.prog W 0 (fun _=>true) true Tryz.f5.params.toList args.toList ds p:=hA0
  rw [Tryz.params5] at hA hval
  obtain ⟨v0,vs0,d0,ds0,p0,q0,hargs,rfl,rfl,h0,r0⟩:=trodAll_cons hA
  obtain ⟨v1,vs1,d1,ds1,p1,q1,rfl,rfl,rfl,h1,r1⟩:=trodAll_cons r0
  obtain ⟨v2,vs2,d2,ds2,p2,q2,rfl,rfl,rfl,h2,r2⟩:=trodAll_cons r1
  obtain ⟨v3,vs3,d3,ds3,p3,q3,rfl,rfl,rfl,h3,r3⟩:=trodAll_cons r2
  obtain ⟨v4,vs4,d4,ds4,p4,q4,rfl,rfl,rfl,h4,r4⟩:=trodAll_cons r3
  obtain ⟨v5,vs5,d5,ds5,p5,q5,rfl,rfl,rfl,h5,r5⟩:=trodAll_cons r4
  obtain ⟨v6,vs6,d6,ds6,p6,q6,rfl,rfl,rfl,h6,r6⟩:=trodAll_cons r5
  obtain ⟨rfl,rfl,rfl⟩:=trodAll_nil r6
  obtain rfl : args=#[v0,v1,v2,v3,v4,v5,v6]:=by cases args;simp_all
  obtain ⟨rfl,rfl⟩:=trodVars_none hV
  have k0:=h0
  have lt0 : ∀ x ∈ p0,x.block<W.heap.size:=by obtain ⟨m,hm⟩:=k0;exact DataW.trod_lt m _ _ _ hm
  have k1:=h1
  have lt1 : ∀ x ∈ p1,x.block<W.heap.size:=by obtain ⟨m,hm⟩:=k1;exact DataW.trod_lt m _ _ _ hm
  have k2:=h2
  have lt2 : ∀ x ∈ p2,x.block<W.heap.size:=by obtain ⟨m,hm⟩:=k2;exact DataW.trod_lt m _ _ _ hm
  have k3:=h3
  have lt3 : ∀ x ∈ p3,x.block<W.heap.size:=by obtain ⟨m,hm⟩:=k3;exact DataW.trod_lt m _ _ _ hm
  have k4:=h4
  have lt4 : ∀ x ∈ p4,x.block<W.heap.size:=by obtain ⟨m,hm⟩:=k4;exact DataW.trod_lt m _ _ _ hm
  have k5:=h5
  have lt5 : ∀ x ∈ p5,x.block<W.heap.size:=by obtain ⟨m,hm⟩:=k5;exact DataW.trod_lt m _ _ _ hm
  have k6:=h6
  have lt6 : ∀ x ∈ p6,x.block<W.heap.size:=by obtain ⟨m,hm⟩:=k6;exact DataW.trod_lt m _ _ _ hm
  obtain ⟨s0,rfl,ok0⟩ : ∃ r : List (BitVec 8),v0=.agg (r.map U8).toArray∧r.length=32:=by
    obtain ⟨fuel,hf⟩:=h0
    exact vQ (hval 0 23 v0 rfl rfl) hf
  obtain ⟨s1,rfl,ok1⟩ : ∃ r : List (BitVec 8),v1=.agg (r.map U8).toArray∧r.length=32:=by
    obtain ⟨fuel,hf⟩:=h1
    exact vQ (hval 1 23 v1 rfl rfl) hf
  obtain ⟨s2,rfl,Ls⟩ : ∃ r : List (BitVec 8),v2=.agg (r.map U8).toArray∧r.length=32:=by
    obtain ⟨fuel,hf⟩:=h2
    exact vQ (hval 2 23 v2 rfl rfl) hf
  obtain ⟨s3,rfl,Lt⟩ : ∃ r : List (BitVec 8),v3=.agg (r.map U8).toArray∧r.length=32:=by
    obtain ⟨fuel,hf⟩:=h3
    exact vQ (hval 3 23 v3 rfl rfl) hf
  obtain ⟨s4,rfl,ME,cap4⟩ : ∃ k : aM,v4=k.v∧k.ok W∧k.cap≤maxLen:=by
    obtain ⟨a,l,c,rfl⟩:=okWide_slice (show Tryz.prog.underlying 27=some (.slice 5) by kernel_rfl) (hval 4 27 v4 rfl rfl)
    obtain ⟨fuel,hf⟩:=h4
    exact zG hf
  obtain ⟨s5,rfl,ok5,cap5⟩ : ∃ k : aM,v5=k.v∧k.ok W∧k.cap≤maxLen:=by
    obtain ⟨a,l,c,rfl⟩:=okWide_slice (show Tryz.prog.underlying 27=some (.slice 5) by kernel_rfl) (hval 5 27 v5 rfl rfl)
    obtain ⟨fuel,hf⟩:=h5
    exact zG hf
  obtain ⟨s6,rfl,ok6,cap6⟩ : ∃ k : aM,v6=k.v∧k.ok W∧k.cap≤maxLen:=by
    obtain ⟨a,l,c,rfl⟩:=okWide_slice (show Tryz.prog.underlying 27=some (.slice 5) by kernel_rfl) (hval 6 27 v6 rfl rfl)
    obtain ⟨fuel,hf⟩:=h6
    exact zG hf
  clear hA0 hval0
  refine (pR s0 s1 s2 s3 s4 s5 s6 W ok0 ok1 Ls Lt ME ok5 ok6 (oS hL).1 (oS hL).2).mono fun e W' ⟨he,hx⟩=>?_
  have bel:=oT.below hx
  subst he
  exact ⟨_,rfl,_,_,_,[],_,[],hW',trodAll_mk1 (shut_bool (show Tryz.prog.underlying 4=some .bool by kernel_rfl) _),(trodAll_cons_mk (Below.trod iQ (by kernel_rfl) (of_decide_eq_true (by kernel_rfl)) k0 bel lt0) (trodAll_cons_mk (Below.trod iQ (by kernel_rfl) (of_decide_eq_true (by kernel_rfl)) k1 bel lt1) (trodAll_cons_mk (Below.trod iQ (by kernel_rfl) (of_decide_eq_true (by kernel_rfl)) k2 bel lt2) (trodAll_cons_mk (Below.trod iQ (by kernel_rfl) (of_decide_eq_true (by kernel_rfl)) k3 bel lt3) (trodAll_cons_mk (Below.trod iQ (by kernel_rfl) (of_decide_eq_true (by kernel_rfl)) k4 bel lt4) (trodAll_cons_mk (Below.trod iQ (by kernel_rfl) (of_decide_eq_true (by kernel_rfl)) k5 bel lt5) (trodAll_cons_mk (Below.trod iQ (by kernel_rfl) (of_decide_eq_true (by kernel_rfl)) k6 bel lt6) trodAll_mk0))))))),rfl,bel.frame _,fun h=>by cases h⟩
theorem pS : Rows.RatchetPartsSaid:=
  OpenClaim.holds_of_wide 5 Tryz.f5 rfl rfl rfl rfl rfl rfl rfl ⟨rfl,rfl,rfl,rfl,rfl⟩ rfl rfl rfl rfl rfl (by kernel_rfl) Tryz.func5 (by kernel_rfl)
    (of_decide_eq_true (by kernel_rfl)) (by unfold Func.isWrapper;first|(rw [if_pos (by decide +kernel)];kernel_rfl)|(rw [if_neg (by decide +kernel)];exact ⟨rfl,rfl⟩))
    (fun os started H enc _=>mW os started H enc)
theorem ratchetParts_card : Rows.RatchetPartsCardSaid:=
  Claim7.holds_tied_plain_at .later [] [.data,.data] true (true,"61627e993abcb48ce75960080d1b837da484ae2eb80a1a86c5bb144dc4af4ea1") false
    pS (fun _ h=>by cases h) (by kernel_rfl) (fun _ h=>by cases h) ratchetParts_row_tie rfl ⟨rfl,rfl⟩ (by kernel_rfl) rfl
    (fun f fn hf hfn=>by
      obtain rfl : f=5:=Option.some.inj ((show Tryz.prog.funcNamed "despatch/despatchlaw19.RatchetParts" = some 5 by kernel_rfl).symm.trans hf) |>.symm
      obtain rfl : fn=Tryz.f5:=(Option.some.inj (Tryz.func5.symm.trans hfn)).symm
      exact ⟨by kernel_rfl,fun j t ht=>by
        rw [Tryz.params5] at ht
        have hm : t ∈ [23,23,23,23,27,27,27]:=by simpa using Array.mem_of_getElem? ht
        have hall : ([23,23,23,23,27,27,27].all fun u=>!Tryz.prog.wantsStandIn u)=true:=by kernel_rfl
        exact (show Tryz.prog.wantsStandIn t=false by simpa using List.all_eq_true.1 hall t hm)⟩)
    (by kernel_rfl)
#print axioms ratchetParts_card
end
end Go.Proofs.YtgkninhgcpbfnaaGreatDoor
