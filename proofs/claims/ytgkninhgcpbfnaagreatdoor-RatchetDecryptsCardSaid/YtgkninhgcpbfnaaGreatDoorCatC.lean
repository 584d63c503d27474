/-
  THE TIED CARD OF RatchetDecrypts: whatever comes in, the law returns true, and what came in reads as it did.
  Condition: the listed tables, as the card ties them (of these the proof reads the project's own alone).
-/
import Derived.Test.YtgkninhgcpbfnaaGreatDoorIh
import Derived.Test.YtgkninhgcpbfnaaGreatDoorCards
namespace Go.Proofs.YtgkninhgcpbfnaaGreatDoor
section
set_option maxRecDepth 10000
open Go.ChangeShapes Go.WideShapes Go.ChangeAt Go.RowKit
open Go.ChangeMaps (open_string shut_string)
open Sl
set_option linter.unusedVariables false
set_option maxHeartbeats 4000000 in
set_option maxRecDepth 100000 in
theorem lz (os : Os) (started : os.Started) (H : Type) (enc : TypeId × Value→H) :
    ReturnsInHanded {} Tryz.checked os 3 .any (fun w args=>(Rows.ratchetDecryptsSpec.pre enc Tryz.prog Tryz.f3 Rows.ratchetDecryptsRow.domain false w args∧laidMetH Tryz.prog Rows.ratchetDecryptsRow.laid w)∧sizedMet enc Tryz.prog Tryz.f3 (OpenSpec.ofChange Rows.ratchetDecryptsSpec) false w args) (Rows.ratchetDecryptsSpec.post enc Tryz.prog Tryz.f3 false true false false):=by
  refine returnsInHanded_of_change_and (C:=Tryz.checked) (X:=fun w _=>laidMetH Tryz.prog Rows.ratchetDecryptsRow.laid w) (fun _ _ _ hh h=>h.of_heap hh) Ni started (by kernel_rfl) Tryz.func3
    (ChangeSpec.witness_shaped (enc:=enc) (C:=Tryz.checked) (os:=os) (X:=fun w _=>laidMetH Tryz.prog Rows.ratchetDecryptsRow.laid w) false (World.laidAll Tryz.prog os Rows.ratchetDecryptsRow.laid) #[.agg (Array.replicate 96 (Value.int .u8 0)++#[Value.bool false,Value.bool false]++Array.replicate 64 (Value.int .u8 0)++#[Value.int .i64 0,Value.int .i64 0,Value.int .i64 0,Value.slice none 0 0]),.slice none 0 0,.slice none 0 0,.agg (Array.replicate 32 (.int .u8 0))] 8 (World.laidAll_os _ _ _)
      (C6 os) (by kernel_rfl) (by kernel_rfl) (by kernel_rfl) (HB os _)) ?_
  intro W base args ds gs before hval0 hW hcnd hsz hL _
  have hval : ∀ (j : Nat) t v,Tryz.f3.params[j]?=some t→args[j]?=some v→Value.okWide Tryz.prog W .any base t v:=hval0
  have hW':=hW
  obtain ⟨p,q,hA0,hV,rfl,hfz,hnd⟩:=hW
  have hA : DataW.TrodAll enc Tryz.prog W 0 (fun _=>true) true Tryz.f3.params.toList args.toList ds p:=hA0
  rw [Tryz.params3] at hA hval
  obtain ⟨v0,vs0,d0,ds0,p0,q0,hargs,rfl,rfl,h0,r0⟩:=trodAll_cons hA
  obtain ⟨v1,vs1,d1,ds1,p1,q1,rfl,rfl,rfl,h1,r1⟩:=trodAll_cons r0
  obtain ⟨v2,vs2,d2,ds2,p2,q2,rfl,rfl,rfl,h2,r2⟩:=trodAll_cons r1
  obtain ⟨v3,vs3,d3,ds3,p3,q3,rfl,rfl,rfl,h3,r3⟩:=trodAll_cons r2
  obtain ⟨rfl,rfl,rfl⟩:=trodAll_nil r3
  obtain rfl : args=#[v0,v1,v2,v3]:=by cases args;simp_all
  obtain ⟨rfl,rfl⟩:=trodVars_none hV
  have k0:=h0
  have lt0 : ∀ x ∈ p0,x.block<W.heap.size:=by obtain ⟨m,hm⟩:=k0;exact DataW.trod_lt m _ _ _ hm
  have k1:=h1
  have lt1 : ∀ x ∈ p1,x.block<W.heap.size:=by obtain ⟨m,hm⟩:=k1;exact DataW.trod_lt m _ _ _ hm
  have k2:=h2
  have lt2 : ∀ x ∈ p2,x.block<W.heap.size:=by obtain ⟨m,hm⟩:=k2;exact DataW.trod_lt m _ _ _ hm
  have k3:=h3
  have lt3 : ∀ x ∈ p3,x.block<W.heap.size:=by obtain ⟨m,hm⟩:=k3;exact DataW.trod_lt m _ _ _ hm
  obtain ⟨s0,rfl,ok0⟩ : ∃ k : J4,v0=k.v∧k.ok W:=by
    obtain ⟨fuel,hf⟩:=h0
    exact Hz (hval 0 26 v0 rfl rfl) hf
  obtain ⟨s1,rfl,ok1,cap1⟩ : ∃ k : aO,v1=k.v∧k.ok W∧k.cap≤maxLen:=by
    obtain ⟨a,l,c,rfl⟩:=okWide_slice (show Tryz.prog.underlying 27=some (.slice 5) by kernel_rfl) (hval 1 27 v1 rfl rfl)
    obtain ⟨fuel,hf⟩:=h1
    exact FH hf
  obtain ⟨s2,rfl,Mh,cap2⟩ : ∃ k : aO,v2=k.v∧k.ok W∧k.cap≤maxLen:=by
    obtain ⟨a,l,c,rfl⟩:=okWide_slice (show Tryz.prog.underlying 27=some (.slice 5) by kernel_rfl) (hval 2 27 v2 rfl rfl)
    obtain ⟨fuel,hf⟩:=h2
    exact FH hf
  obtain ⟨s3,rfl,Np⟩ : ∃ r : List (BitVec 8),v3=.agg (r.map U8).toArray∧r.length=32:=by
    obtain ⟨fuel,hf⟩:=h3
    exact J8 (hval 3 23 v3 rfl rfl) hf
  clear hA0 hval0
  refine (nu s0 s1 s2 s3 W ok0 ok1 Mh Np (pN hL).1 (pN hL).2).mono fun e W' ⟨he,hx⟩=>?_
  have bel:=pO.below hx
  subst he
  exact ⟨_,rfl,_,_,_,[],_,[],hW',trodAll_mk1 (shut_bool (show Tryz.prog.underlying 4=some .bool by kernel_rfl) _),(trodAll_cons_mk (Below.trod pK (by kernel_rfl) (of_decide_eq_true (by kernel_rfl)) k0 bel lt0) (trodAll_cons_mk (Below.trod pK (by kernel_rfl) (of_decide_eq_true (by kernel_rfl)) k1 bel lt1) (trodAll_cons_mk (Below.trod pK (by kernel_rfl) (of_decide_eq_true (by kernel_rfl)) k2 bel lt2) (trodAll_cons_mk (Below.trod pK (by kernel_rfl) (of_decide_eq_true (by kernel_rfl)) k3 bel lt3) trodAll_mk0)))),rfl,bel.frame _,fun h=>by cases h⟩
theorem nv : Rows.RatchetDecryptsSaid:=
  OpenClaim.holds_of_wide 3 Tryz.f3 rfl rfl rfl rfl rfl rfl rfl ⟨rfl,rfl,rfl,rfl,rfl⟩ rfl rfl rfl rfl rfl (by kernel_rfl) Tryz.func3 (by kernel_rfl)
    (of_decide_eq_true (by kernel_rfl)) (by unfold Func.isWrapper;first|(rw [if_pos (by decide +kernel)];kernel_rfl)|(rw [if_neg (by decide +kernel)];exact ⟨rfl,rfl⟩))
    (fun os started H enc _=>lz os started H enc)
theorem ratchetDecrypts_card : Rows.RatchetDecryptsCardSaid:=
  Claim7.holds_tied_plain_at .later [] [.data,.data] true (true,"61627e993abcb48ce75960080d1b837da484ae2eb80a1a86c5bb144dc4af4ea1") false
    nv (fun _ h=>by cases h) (by kernel_rfl) (fun _ h=>by cases h) ratchetDecrypts_row_tie rfl ⟨rfl,rfl⟩ (by kernel_rfl) rfl
    (fun f fn hf hfn=>by
      obtain rfl : f=3:=Option.some.inj ((show Tryz.prog.funcNamed "despatch/despatchlaw19.RatchetDecrypts" = some 3 by kernel_rfl).symm.trans hf) |>.symm
      obtain rfl : fn=Tryz.f3:=(Option.some.inj (Tryz.func3.symm.trans hfn)).symm
      exact ⟨by kernel_rfl,fun j t ht=>by
        rw [Tryz.params3] at ht
        have hm : t ∈ [26,27,27,23]:=by simpa using Array.mem_of_getElem? ht
        have hall : ([26,27,27,23].all fun u=>!Tryz.prog.wantsStandIn u)=true:=by kernel_rfl
        exact (show Tryz.prog.wantsStandIn t=false by simpa using List.all_eq_true.1 hall t hm)⟩)
    (by kernel_rfl)
#print axioms ratchetDecrypts_card
end
end Go.Proofs.YtgkninhgcpbfnaaGreatDoor
