/-
  TokenValues: wherever what comes in holds at most 1048576 values and letters, the law returns true, and what came in reads as it did.
  Condition: that bound.
-/
import Derived.Test.YtchoiikhepjdiaaDoorTokT
import Derived.Test.YtchoiikhepjdiaaDoorBf
import Derived.Test.YtchoiikhepjdiaaDoorCards
import Derived.Test.YtchoiikhepjdiaaDoorPrp
import Derived.JoinedCond
import Derived.Deep.DeepHandedRow
namespace Go.Proofs.YtchoiikhepjdiaaDoor
set_option maxRecDepth 10000
open Go.ChangeShapes Go.WideShapes Go.ChangeAt Go.RowKit
open Go.ChangeMaps (open_string shut_string)
open Sl
set_option linter.unusedVariables false

set_option maxHeartbeats 4000000 in
set_option maxRecDepth 100000 in
theorem tokenValues_lifted (os : Os) (started : os.Started) (H : Type) (enc : TypeId × Value → H) (F : Stop.Interp) :
    ReturnsInHanded {} Tryd.checked os 12 .any ((Rows.OpenSpec.upto Rows.tokenValuesSpec).preRow enc Tryd.prog Tryd.f12 Rows.tokenValuesUptoRow.domain false Rows.tokenValuesUptoRow.laid) (((Rows.OpenSpec.upto Rows.tokenValuesSpec).at F).post enc Tryd.prog Tryd.f12 false true false false) := by
  refine returnsInHanded_of_row (C := Tryd.checked) (s := Rows.OpenSpec.upto Rows.tokenValuesSpec) ownQ started (by kernel_rfl) Tryd.func12
    ⟨World.laidAll Tryd.prog os Rows.tokenValuesUptoRow.laid, fun _ _ => 0, ⟨#[], #[.string ⟨#[]⟩, .slice none 0 0, .string ⟨#[]⟩], []⟩, World.laidAll_os _ _ _, wit_shape os,
      rfl, (Input.okWide_of_okWideB (by kernel_rfl)).2,
      OpenSpec.preRow_of_cond 8 (x := ([.lit (.string []), .nil, .lit (.string [])], [], [])) (by kernel_rfl) (by kernel_rfl) (fun k hk => by cases hk; kernel_rfl) (by kernel_rfl) (wit_met os _),
      by simp only [Assume.holds]; exact ⟨by simp, by simp, fun _ => Modest.zero, by simp, by simp⟩⟩ ?_
  intro W base args ds gs before hval0 hW hcnd hcond _ _ _ _
  have hk := hcond _ rfl
  have hval : ∀ (j : Nat) t v, Tryd.f12.params[j]? = some t → args[j]? = some v → Value.okWide Tryd.prog W .any base t v := hval0
  have hW' := hW
  obtain ⟨p, q, hA0, hV, rfl, hfz, hnd⟩ := hW
  have hA : DataW.TrodAll enc Tryd.prog W 0 (fun _ => true) true Tryd.f12.params.toList args.toList ds p := hA0
  rw [Tryd.params12] at hA hval
  obtain ⟨v0, vs0, d0, ds0, p0, q0, hargs, rfl, rfl, h0, r0⟩ := trodAll_cons hA
  obtain ⟨v1, vs1, d1, ds1, p1, q1, rfl, rfl, rfl, h1, r1⟩ := trodAll_cons r0
  obtain ⟨v2, vs2, d2, ds2, p2, q2, rfl, rfl, rfl, h2, r2⟩ := trodAll_cons r1
  obtain ⟨rfl, rfl, rfl⟩ := trodAll_nil r2
  obtain rfl : args = #[v0, v1, v2] := by cases args; simp_all
  obtain ⟨rfl, rfl⟩ := trodVars_none hV
  have k1 := h1
  have lt1 : ∀ x ∈ p1, x.block < W.heap.size := by obtain ⟨m, hm⟩ := k1; exact DataW.trod_lt m _ _ _ hm
  obtain ⟨z0, rfl, rfl, rfl, w0⟩ := open_string (show Tryd.prog.underlying 9 = some .string by kernel_rfl) (hval 0 9 v0 rfl rfl) h0
  obtain ⟨s0, rfl⟩ : ∃ s : List Bt, z0 = strB s := ⟨bytesOf z0, (strB_bytesOf z0).symm⟩
  obtain ⟨s1, rfl, ok1, cap1, sm1, bu1, we1⟩ : ∃ k : Sl2, v1 = k.v ∧ k.ok W ∧ k.cap ≤ maxLen ∧ (∀ p ∈ k.l, p.1.length < 9223372036854775808 ∧ p.2.length < 9223372036854775808) ∧ (∀ p ∈ k.l, p.1.length ≤ Rows.uptoBulk d1 ∧ p.2.length ≤ Rows.uptoBulk d1) ∧ (∀ p ∈ k.l, p.1.length ∈ d1.weights Tryd.prog 53 ∧ p.2.length ∈ d1.weights Tryd.prog 53) := by
    obtain ⟨a, l, c, rfl⟩ := okWide_slice (show Tryd.prog.underlying 53 = some (.slice 55) by kernel_rfl) (hval 1 53 v1 rfl rfl)
    obtain ⟨fuel, hf⟩ := h1
    exact sl2_full (str := 9) (show Tryd.prog.underlying 53 = some (.slice 55) by kernel_rfl) (by kernel_rfl) (by kernel_rfl) (by kernel_rfl) (by kernel_rfl) (by kernel_rfl) hf
  have sz1 : ∀ p ∈ s1.l, p.1.length ≤ 2000000 ∧ p.2.length ≤ 2000000 := fun p hp => by
    have h1 := bu1 p hp
    have h2 : Rows.uptoBulkAll _ ≤ 1048576 := of_decide_eq_true hk
    simp only [Rows.uptoBulkAll, List.append_nil, List.cons_append, List.nil_append] at h2
    omega
  obtain ⟨z2, rfl, rfl, rfl, w2⟩ := open_string (show Tryd.prog.underlying 9 = some .string by kernel_rfl) (hval 2 9 v2 rfl rfl) h2
  obtain ⟨s2, rfl⟩ : ∃ s : List Bt, z2 = strB s := ⟨bytesOf z2, (strB_bytesOf z2).symm⟩
  clear hA0 hval0
  refine (law_tokenValues tokenOk s0 s1 s2 W ok1 sz1).mono fun e W' ⟨he, hx⟩ => ?_
  have bel := Chg.below hx
  subst he
  exact ⟨_, rfl, _, _, _, [], _, [], hW', trodAll_mk1 (shut_bool (show Tryd.prog.underlying 4 = some .bool by kernel_rfl) _), (trodAll_cons_mk (shut_string (show Tryd.prog.underlying 9 = some .string by kernel_rfl) w0) (trodAll_cons_mk (Below.trod laidOutQ (by kernel_rfl) (of_decide_eq_true (by kernel_rfl)) k1 bel lt1) (trodAll_cons_mk (shut_string (show Tryd.prog.underlying 9 = some .string by kernel_rfl) w2) trodAll_mk0))), rfl, bel.frame _, fun h => by cases h⟩

/-- THE STATEMENT. -/
theorem tokenValuesUpto_row : Rows.TokenValuesUptoSaid :=
  OpenClaim.holds_of_cond 12 Tryd.f12 rfl rfl rfl rfl rfl rfl rfl ⟨rfl, rfl, rfl, rfl, rfl⟩ rfl rfl rfl rfl rfl (by kernel_rfl) Tryd.func12 (by kernel_rfl)
    (of_decide_eq_true (by kernel_rfl)) (by unfold Func.isWrapper; first | (rw [if_pos (by decide +kernel)]; kernel_rfl) | (rw [if_neg (by decide +kernel)]; exact ⟨rfl, rfl⟩))
    (fun os started H enc _ F => by rw [OpenClaim.pre_eq_preRow]; exact tokenValues_lifted os started H enc F)

/-- THE TIED CARD. -/
theorem tokenValuesUpto_card : Rows.TokenValuesUptoCardSaid :=
  Claim7.holds_tied_plain_at .later [] [.data, .pinned, .pinned] true (true, "2114596cad5ba5e9db4703dc337b16e4e12a797d9e3302a32ae52352160a5352") false
    tokenValuesUpto_row (fun _ h => by cases h) (by kernel_rfl) (fun _ h => by cases h) tokenValuesUpto_row_tie rfl ⟨rfl, rfl⟩ (by kernel_rfl) rfl
    (fun f fn hf hfn => by
      obtain rfl : f = 12 := Option.some.inj ((show Tryd.prog.funcNamed "despatch/despatchlaw10.TokenValues" = some 12 by kernel_rfl).symm.trans hf) |>.symm
      obtain rfl : fn = Tryd.f12 := (Option.some.inj (Tryd.func12.symm.trans hfn)).symm
      exact ⟨by kernel_rfl, fun j t ht => by
        rw [Tryd.params12] at ht
        have hm : t ∈ [9, 53, 9] := by simpa using Array.mem_of_getElem? ht
        have hall : ([9, 53, 9].all fun u => !Tryd.prog.wantsStandIn u) = true := by kernel_rfl
        exact (show Tryd.prog.wantsStandIn t = false by simpa using List.all_eq_true.1 hall t hm)⟩)
    (by kernel_rfl)
#print axioms tokenValuesUpto_card
end Go.Proofs.YtchoiikhepjdiaaDoor
