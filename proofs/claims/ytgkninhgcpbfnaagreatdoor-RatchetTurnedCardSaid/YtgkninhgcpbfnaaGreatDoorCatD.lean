/-
  THE TIED CARD OF RatchetTurned: whatever comes in, the law returns true, and what came in reads as it did.
  Condition: the listed tables, as the card ties them (of these the proof reads the project's own alone).
-/
import Derived.Test.YtgkninhgcpbfnaaGreatDoorJg
import Derived.Test.YtgkninhgcpbfnaaGreatDoorCards
namespace Go.Proofs.YtgkninhgcpbfnaaGreatDoor
section
set_option maxRecDepth 10000
open Go.ChangeShapes Go.WideShapes Go.ChangeAt Go.RowKit
open Go.ChangeMaps (open_string shut_string)
open Sl
set_option linter.unusedVariables false
set_option maxHeartbeats 4000000 in
set_option maxRecDepth 100000 in
theorem mA (os : Os) (started : os.Started) (H : Type) (enc : TypeId × Value→H) :
    ReturnsInHanded {} Tryz.checked os 4 .any (fun w args=>(Rows.ratchetTurnedSpec.pre enc Tryz.prog Tryz.f4 Rows.ratchetTurnedRow.domain false w args∧laidMetH Tryz.prog Rows.ratchetTurnedRow.laid w)∧sizedMet enc Tryz.prog Tryz.f4 (OpenSpec.ofChange Rows.ratchetTurnedSpec) false w args) (Rows.ratchetTurnedSpec.post enc Tryz.prog Tryz.f4 false true false false):=by
  refine returnsInHanded_of_change_and (C:=Tryz.checked) (X:=fun w _=>laidMetH Tryz.prog Rows.ratchetTurnedRow.laid w) (fun _ _ _ hh h=>h.of_heap hh) Nn started (by kernel_rfl) Tryz.func4
    (ChangeSpec.witness_shaped (enc:=enc) (C:=Tryz.checked) (os:=os) (X:=fun w _=>laidMetH Tryz.prog Rows.ratchetTurnedRow.laid w) false (World.laidAll Tryz.prog os Rows.ratchetTurnedRow.laid) #[.agg (Array.replicate 32 (.int .u8 0)),.agg (Array.replicate 32 (.int .u8 0)),.agg (Array.replicate 32 (.int .u8 0)),.agg (Array.replicate 32 (.int .u8 0)),.slice none 0 0,.int .i64 0,.int .u8 0] 8 (World.laidAll_os _ _ _)
      (Da os) (by kernel_rfl) (by kernel_rfl) (by kernel_rfl) (HF os _)) ?_
  intro W base args ds gs before hval0 hW hcnd hsz hL _
  have hval : ∀ (j : Nat) t v,Tryz.f4.params[j]?=some t→args[j]?=some v→Value.okWide Tryz.prog W .any base t v:=hval0
  have hW':=hW
  obtain ⟨p,q,hA0,hV,rfl,hfz,hnd⟩:=hW
  have hA : DataW.TrodAll enc Tryz.prog W 0 (fun _=>true) true Tryz.f4.params.toList args.toList ds p:=hA0
  rw [Tryz.params4] at hA hval
  obtain ⟨v0,vs0,d0,ds0,p0,q0,hargs,rfl,rfl,h0,r0⟩:=trodAll_cons hA
  obtain ⟨v1,vs1,d1,ds1,p1,q1,rfl,rfl,rfl,h1,r1⟩:=trodAll_cons r0
  obtain ⟨v2,vs2,d2,ds2,p2,q2,rfl,rfl,rfl,h2,r2⟩:=trodAll_cons r1
  obtain ⟨v3,vs3,d3,ds3,p3,q3,rfl,rfl,rfl,h3,r3⟩:=trodAll_cons r2
  obtain ⟨v4,vs4,d4,ds4,p4,q4,rfl,rfl,rfl,h4,r4⟩:=trodAll_cons r3
  obtain ⟨v5,vs5,d5,ds5,p5,q5,rfl,rfl,rfl,h5,r5⟩:=trodAll_cons r4
  obtain ⟨v6,vs6,d6,ds6,p6,q6,rfl,rfl,rfl,h6,r6⟩:=trodAll_cons r5
  obtain ⟨rfl,rfl,rfl⟩:=trodAll_nil r6
  obtain rfl : args=#[v0,v1,v2,v3,v4,v5,v6]:=by cases args;simp_all
  obtain ⟨rfl,rfl⟩:=trodVars_none hV
  have k0:=h0
  have lt0 : ∀ x ∈ p0,x.block<W.heap.size:=by obtain ⟨m,hm⟩:=k0;exact DataW.trod_lt m _ _ _ hm
  have k1:=h1
  have lt1 : ∀ x ∈ p1,x.block<W.heap.size:=by obtain ⟨m,hm⟩:=k1;exact DataW.trod_lt m _ _ _ hm
  have k2:=h2
  have lt2 : ∀ x ∈ p2,x.block<W.heap.size:=by obtain ⟨m,hm⟩:=k2;exact DataW.trod_lt m _ _ _ hm
  have k3:=h3
  have lt3 : ∀ x ∈ p3,x.block<W.heap.size:=by obtain ⟨m,hm⟩:=k3;exact DataW.trod_lt m _ _ _ hm
  have k4:=h4
  have lt4 : ∀ x ∈ p4,x.block<W.heap.size:=by obtain ⟨m,hm⟩:=k4;exact DataW.trod_lt m _ _ _ hm
  obtain ⟨s0,rfl,ok0⟩ : ∃ r : List (BitVec 8),v0=.agg (r.map U8).toArray∧r.length=32:=by
    obtain ⟨fuel,hf⟩:=h0
    exact wz (hval 0 23 v0 rfl rfl) hf
  obtain ⟨s1,rfl,ok1⟩ : ∃ r : List (BitVec 8),v1=.agg (r.map U8).toArray∧r.length=32:=by
    obtain ⟨fuel,hf⟩:=h1
    exact wz (hval 1 23 v1 rfl rfl) hf
  obtain ⟨s2,rfl,Mj⟩ : ∃ r : List (BitVec 8),v2=.agg (r.map U8).toArray∧r.length=32:=by
    obtain ⟨fuel,hf⟩:=h2
    exact wz (hval 2 23 v2 rfl rfl) hf
  obtain ⟨s3,rfl,Ml⟩ : ∃ r : List (BitVec 8),v3=.agg (r.map U8).toArray∧r.length=32:=by
    obtain ⟨fuel,hf⟩:=h3
    exact wz (hval 3 23 v3 rfl rfl) hf
  obtain ⟨s4,rfl,Nu,cap4⟩ : ∃ k : aJ,v4=k.v∧k.ok W∧k.cap≤maxLen:=by
    obtain ⟨a,l,c,rfl⟩:=okWide_slice (show Tryz.prog.underlying 27=some (.slice 5) by kernel_rfl) (hval 4 27 v4 rfl rfl)
    obtain ⟨fuel,hf⟩:=h4
    exact Ka hf
  obtain ⟨s5,rfl,rfl,rfl,w5⟩:=open_int (show Tryz.prog.underlying 3=some (.int .i64) by kernel_rfl) (hval 5 3 v5 rfl rfl) h5
  obtain ⟨z6,rfl,rfl,rfl,w6⟩:=open_int (show Tryz.prog.underlying 5=some (.int .u8) by kernel_rfl) (hval 6 5 v6 rfl rfl) h6
  obtain ⟨s6,rfl⟩ : ∃ a : BitVec 8,z6=(a.toNat : Int):=J9 w6
  clear hA0 hval0
  refine (oX s0 s1 s2 s3 s4 s5 s6 W ok0 ok1 Mj Ml Nu (oY hL).1 (oY hL).2).mono fun e W' ⟨he,hx⟩=>?_
  have bel:=o9.below hx
  subst he
  exact ⟨_,rfl,_,_,_,[],_,[],hW',trodAll_mk1 (shut_bool (show Tryz.prog.underlying 4=some .bool by kernel_rfl) _),(trodAll_cons_mk (Below.trod mw (by kernel_rfl) (of_decide_eq_true (by kernel_rfl)) k0 bel lt0) (trodAll_cons_mk (Below.trod mw (by kernel_rfl) (of_decide_eq_true (by kernel_rfl)) k1 bel lt1) (trodAll_cons_mk (Below.trod mw (by kernel_rfl) (of_decide_eq_true (by kernel_rfl)) k2 bel lt2) (trodAll_cons_mk (Below.trod mw (by kernel_rfl) (of_decide_eq_true (by kernel_rfl)) k3 bel lt3) (trodAll_cons_mk (Below.trod mw (by kernel_rfl) (of_decide_eq_true (by kernel_rfl)) k4 bel lt4) (trodAll_cons_mk (shut_int (show Tryz.prog.underlying 3=some (.int .i64) by kernel_rfl) w5) (trodAll_cons_mk (shut_int (show Tryz.prog.underlying 5=some (.int .u8) by kernel_rfl) w6) trodAll_mk0))))))),rfl,bel.frame _,fun h=>by cases h⟩
theorem oZ : Rows.RatchetTurnedSaid:=
  OpenClaim.holds_of_wide 4 Tryz.f4 rfl rfl rfl rfl rfl rfl rfl ⟨rfl,rfl,rfl,rfl,rfl⟩ rfl rfl rfl rfl rfl (by kernel_rfl) Tryz.func4 (by kernel_rfl)
    (of_decide_eq_true (by kernel_rfl)) (by unfold Func.isWrapper;first|(rw [if_pos (by decide +kernel)];kernel_rfl)|(rw [if_neg (by decide +kernel)];exact ⟨rfl,rfl⟩))
    (fun os started H enc _=>mA os started H enc)
theorem ratchetTurned_card : Rows.RatchetTurnedCardSaid:=
  Claim7.holds_tied_plain_at .later [] [.data,.data] true (true,"61627e993abcb48ce75960080d1b837da484ae2eb80a1a86c5bb144dc4af4ea1") false
    oZ (fun _ h=>by cases h) (by kernel_rfl) (fun _ h=>by cases h) ratchetTurned_row_tie rfl ⟨rfl,rfl⟩ (by kernel_rfl) rfl
    (fun f fn hf hfn=>by
      obtain rfl : f=4:=Option.some.inj ((show Tryz.prog.funcNamed "despatch/despatchlaw19.RatchetTurned" = some 4 by kernel_rfl).symm.trans hf) |>.symm
      obtain rfl : fn=Tryz.f4:=(Option.some.inj (Tryz.func4.symm.trans hfn)).symm
      exact ⟨by kernel_rfl,fun j t ht=>by
        rw [Tryz.params4] at ht
        have hm : t ∈ [23,23,23,23,27,3,5]:=by simpa using Array.mem_of_getElem? ht
        have hall : ([23,23,23,23,27,3,5].all fun u=>!Tryz.prog.wantsStandIn u)=true:=by kernel_rfl
        exact (show Tryz.prog.wantsStandIn t=false by simpa using List.all_eq_true.1 hall t hm)⟩)
    (by kernel_rfl)
#print axioms ratchetTurned_card
end
end Go.Proofs.YtgkninhgcpbfnaaGreatDoor
