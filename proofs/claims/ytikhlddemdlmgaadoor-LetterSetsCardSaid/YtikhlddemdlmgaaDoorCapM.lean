/-
  THE TIED CARD OF LetterSets: whatever comes in, the law returns true, and what came in reads as it did.
  Condition: the listed tables of Go's library, as the card ties them (the proof never reads them).
-/
import Derived.Test.YtikhlddemdlmgaaDoorBe
import Derived.Test.YtikhlddemdlmgaaDoorCards
namespace Go.Proofs.YtikhlddemdlmgaaDoor
set_option maxRecDepth 10000
open Go.ChangeShapes Go.WideShapes Go.ChangeAt Go.RowKit
open Go.ChangeMaps (open_string shut_string)
open Sl
set_option linter.unusedVariables false

set_option maxHeartbeats 4000000 in
set_option maxRecDepth 100000 in
theorem letterSets_lifted (os : Os) (started : os.Started) (H : Type) (enc : TypeId × Value → H) :
    ReturnsInHanded {} Tryd.checked os 4 .any (fun w args => (Rows.letterSetsSpec.pre enc Tryd.prog Tryd.f4 Rows.letterSetsRow.domain false w args ∧ laidMetH Tryd.prog Rows.letterSetsRow.laid w) ∧ sizedMet enc Tryd.prog Tryd.f4 (OpenSpec.ofChange Rows.letterSetsSpec) false w args) (Rows.letterSetsSpec.post enc Tryd.prog Tryd.f4 false true false false) := by
  refine returnsInHanded_of_change_and (C := Tryd.checked) (X := fun w _ => laidMetH Tryd.prog Rows.letterSetsRow.laid w) (fun _ _ _ hh h => h.of_heap hh) ownQ started (by kernel_rfl) Tryd.func4
    (ChangeSpec.witness_shaped (enc := enc) (C := Tryd.checked) (os := os) (X := fun w _ => laidMetH Tryd.prog Rows.letterSetsRow.laid w) false (World.laidAll Tryd.prog os Rows.letterSetsRow.laid) #[.agg #[.slice none 0 0, .slice none 0 0], .string ⟨#[]⟩, .string ⟨#[]⟩, .string ⟨#[]⟩] 8 (World.laidAll_os _ _ _)
      (wit_shape os) (by kernel_rfl) (by kernel_rfl) (by kernel_rfl) (wit_met os _)) ?_
  intro W base args ds gs before hval0 hW hcnd hsz hL _
  have hval : ∀ (j : Nat) t v, Tryd.f4.params[j]? = some t → args[j]? = some v → Value.okWide Tryd.prog W .any base t v := hval0
  have hW' := hW
  obtain ⟨p, q, hA0, hV, rfl, hfz, hnd⟩ := hW
  have hA : DataW.TrodAll enc Tryd.prog W 0 (fun _ => true) true Tryd.f4.params.toList args.toList ds p := hA0
  rw [Tryd.params4] at hA hval
  obtain ⟨v0, vs0, d0, ds0, p0, q0, hargs, rfl, rfl, h0, r0⟩ := trodAll_cons hA
  obtain ⟨v1, vs1, d1, ds1, p1, q1, rfl, rfl, rfl, h1, r1⟩ := trodAll_cons r0
  obtain ⟨v2, vs2, d2, ds2, p2, q2, rfl, rfl, rfl, h2, r2⟩ := trodAll_cons r1
  obtain ⟨v3, vs3, d3, ds3, p3, q3, rfl, rfl, rfl, h3, r3⟩ := trodAll_cons r2
  obtain ⟨rfl, rfl, rfl⟩ := trodAll_nil r3
  obtain rfl : args = #[v0, v1, v2, v3] := by cases args; simp_all
  obtain ⟨rfl, rfl⟩ := trodVars_none hV
  have k0 := h0
  have lt0 : ∀ x ∈ p0, x.block < W.heap.size := by obtain ⟨m, hm⟩ := k0; exact DataW.trod_lt m _ _ _ hm
  obtain ⟨f0, s0, rfl, okf0, oks0, sm0⟩ : ∃ (f : Sl2) (s : Sl8), v0 = .agg #[f.v, s.v] ∧ f.ok W ∧ s.ok W ∧ small2 f := by
    obtain ⟨fuel, hf⟩ := h0
    exact letter_of (hval 0 25 v0 rfl rfl) hf
  obtain ⟨z1, rfl, rfl, rfl, w1⟩ := open_string (show Tryd.prog.underlying 9 = some .string by kernel_rfl) (hval 1 9 v1 rfl rfl) h1
  obtain ⟨s1, rfl⟩ : ∃ s : List Bt, z1 = strB s := ⟨bytesOf z1, (strB_bytesOf z1).symm⟩
  obtain ⟨z2, rfl, rfl, rfl, w2⟩ := open_string (show Tryd.prog.underlying 9 = some .string by kernel_rfl) (hval 2 9 v2 rfl rfl) h2
  obtain ⟨s2, rfl⟩ : ∃ s : List Bt, z2 = strB s := ⟨bytesOf z2, (strB_bytesOf z2).symm⟩
  obtain ⟨z3, rfl, rfl, rfl, w3⟩ := open_string (show Tryd.prog.underlying 9 = some .string by kernel_rfl) (hval 3 9 v3 rfl rfl) h3
  obtain ⟨s3, rfl⟩ : ∃ s : List Bt, z3 = strB s := ⟨bytesOf z3, (strB_bytesOf z3).symm⟩
  clear hA0 hval0
  refine (law_letterSets letterOk f0 s0 s1 s2 s3 W okf0 oks0 sm0).mono fun e W' ⟨he, hx⟩ => ?_
  have bel := Chg.below hx
  subst he
  exact ⟨_, rfl, _, _, _, [], _, [], hW', trodAll_mk1 (shut_bool (show Tryd.prog.underlying 4 = some .bool by kernel_rfl) _), (trodAll_cons_mk (Below.trod laidOutQ (by kernel_rfl) (of_decide_eq_true (by kernel_rfl)) k0 bel lt0) (trodAll_cons_mk (shut_string (show Tryd.prog.underlying 9 = some .string by kernel_rfl) w1) (trodAll_cons_mk (shut_string (show Tryd.prog.underlying 9 = some .string by kernel_rfl) w2) (trodAll_cons_mk (shut_string (show Tryd.prog.underlying 9 = some .string by kernel_rfl) w3) trodAll_mk0)))), rfl, bel.frame _, fun h => by cases h⟩

/-- THE STATEMENT. -/
theorem letterSets_row : Rows.LetterSetsSaid :=
  OpenClaim.holds_of_wide 4 Tryd.f4 rfl rfl rfl rfl rfl rfl rfl ⟨rfl, rfl, rfl, rfl, rfl⟩ rfl rfl rfl rfl rfl (by kernel_rfl) Tryd.func4 (by kernel_rfl)
    (of_decide_eq_true (by kernel_rfl)) (by unfold Func.isWrapper; first | (rw [if_pos (by decide +kernel)]; kernel_rfl) | (rw [if_neg (by decide +kernel)]; exact ⟨rfl, rfl⟩))
    (fun os started H enc _ => letterSets_lifted os started H enc)

/-- THE TIED CARD. -/
theorem letterSets_card : Rows.LetterSetsCardSaid :=
  Claim7.holds_tied_plain_at .later [] [.data, .pinned] true (true, "969e8b6f39930648faf7687412b38324373b3e367010553214e5ff5a9ddd555b") false
    letterSets_row (fun _ h => by cases h) (by kernel_rfl) (fun _ h => by cases h) letterSets_row_tie rfl ⟨rfl, rfl⟩ (by kernel_rfl) rfl
    (fun f fn hf hfn => by
      obtain rfl : f = 4 := Option.some.inj ((show Tryd.prog.funcNamed "despatch/despatchlaw11.LetterSets" = some 4 by kernel_rfl).symm.trans hf) |>.symm
      obtain rfl : fn = Tryd.f4 := (Option.some.inj (Tryd.func4.symm.trans hfn)).symm
      exact ⟨by kernel_rfl, fun j t ht => by
        rw [Tryd.params4] at ht
        have hm : t ∈ [25, 9, 9, 9] := by simpa using Array.mem_of_getElem? ht
        have hall : ([25, 9, 9, 9].all fun u => !Tryd.prog.wantsStandIn u) = true := by kernel_rfl
        exact (show Tryd.prog.wantsStandIn t = false by simpa using List.all_eq_true.1 hall t hm)⟩)
    (by kernel_rfl)
#print axioms letterSets_card
end Go.Proofs.YtikhlddemdlmgaaDoor
