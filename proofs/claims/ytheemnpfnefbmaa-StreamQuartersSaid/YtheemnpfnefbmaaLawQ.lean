/-
  StreamQuarters: whatever comes in, the law returns true, and what came in reads as it did.
  Condition: none.
-/
import Derived.Test.YtheemnpfnefbmaaStrQ
import Derived.Test.YtheemnpfnefbmaaRows
import Derived.ProofKit
import Derived.OpenShut
import Derived.Below
import Derived.Stop.Joined
namespace Go.Proofs.Ytheemnpfnefbmaa
open Go.ChangeShapes Go.WideShapes Go.ChangeAt Go.RowKit
open Sl Sha Str
set_option linter.unusedVariables false

theorem ownQ : ownKnob Try.prog.godebug = none := by kernel_rfl
theorem laidOutQ : laidOutB Try.prog = true := by kernel_rfl
theorem u32_of {z : Int} (h : (Lit.int .u32 z).wf = true) : U32 (BitVec.ofInt 32 z) = .int .u32 z := by
  have h0 : 0 ≤ z ∧ z ≤ 4294967295 := by
    have h1 : (decide (0 ≤ z) && decide (z ≤ 4294967295)) = true := h
    simpa using h1
  have h2 : ((BitVec.ofInt 32 z).toNat : Int) = z := by
    rw [BitVec.toNat_ofInt]
    omega
  unfold U32
  rw [h2]
theorem words_of {H : Type} {enc : TypeId × Value → H} {W : World} {base fuel : Nat} {v : Value} {x : DataW H × List MemPlace} (hok : Value.okWide Try.prog W .any base 23 v) (h : DataW.trod enc Try.prog W 0 (fun _ => true) true fuel 23 v.cells.toList = some x) :
    ∃ r : List (BitVec 32), v = .agg (r.map U32).toArray ∧ r.length = 4 := by
  have hu : Try.prog.underlying 23 = some (.array 4 22) := by kernel_rfl
  have hc : Try.prog.cellsOf 23 = 4 := by kernel_rfl
  obtain ⟨xs, m', _, ex, _, hl, hel⟩ := DataW.trod_array hu h
  have c5 : Try.prog.cellsOf 22 = 1 := by kernel_rfl
  simp only [Value.okWide, hu] at hok
  obtain ⟨cs, rfl, hsz, _⟩ := hok
  rw [hc] at hsz
  have hk : ∀ i, ∃ k : BitVec 32, i < 4 → cs[i]? = some (U32 k) := by
    intro i
    by_cases hi : i < 4
    · have h1 := hel i hi
      rw [c5, Nat.mul_one, List.getElem?_eq_getElem (by omega)] at h1
      obtain ⟨z, e1, e2, hw⟩ := DataW.trod_int (show Try.prog.underlying 22 = some (.int .u32) by kernel_rfl) h1
      refine ⟨BitVec.ofInt 32 z, fun _ => ?_⟩
      have h0 : ((cs.toList.drop i).take 1)[0]? = some (.int .u32 z) := by
        have : (Value.agg cs).cells = cs := rfl
        rw [this] at e1
        rw [e1]; rfl
      rw [u32_of hw]
      simpa using h0
    · exact ⟨0, fun h => absurd h hi⟩
  let f : Nat → BitVec 32 := fun i => Classical.choose (hk i)
  have hf : ∀ i, i < 4 → cs[i]? = some (U32 (f i)) := fun i => Classical.choose_spec (hk i)
  refine ⟨(List.range 4).map f, ?_, by simp⟩
  congr 1
  apply Array.ext_getElem?
  intro i
  by_cases hi : i < 4
  · rw [hf i hi]
    simp [hi]
  · rw [Array.getElem?_eq_none (by omega), Array.getElem?_eq_none (by simp; omega)]
theorem OQ.eqb_t {P : Program} {n : Nat} {E : Env} {C : World → Prop} {dst : Option Tmp} {t t' ty : TypeId} {pos : String} {aft : Array Edge} {g : Option (Nat × Bool)} {x y : Operand} {a c : Bool} (hu : P.underlying t = some .bool) (hx : ev E x = some (.bool a)) (hy : ev E y = some (.bool c)) (h : a = c) : OQ P n E C ⟨dst, .binOp .eql t x y t', ty, pos, aft, g⟩ (.bool true) := by
  have := OQ.eqb (P := P) (n := n) (C := C) (dst := dst) (ty := ty) (t := t) (t' := t') (pos := pos) (aft := aft) (g := g) hu hx hy
  rwa [show (a == c) = true by simpa using h] at this

set_option maxHeartbeats 8000000 in
theorem law_streamQuarters (v u : List W) (w : World) (hv : v.length = 4) (hu : u.length = 4) :
    Calls Try.prog 3 [.agg (v.map U32).toArray, .agg (u.map U32).toArray].toArray w fun e w' => e = .returned (.bool true) ∧ Ext w w' := by
  obtain ⟨a, b, c, d, rfl⟩ : ∃ a b c d, v = [a, b, c, d] := by
    match v, hv with
    | [a, b, c, d], _ => exact ⟨a, b, c, d, rfl⟩
  obtain ⟨a', b', c', d', rfl⟩ : ∃ a b c d, u = [a, b, c, d] := by
    match u, hu with
    | [a, b, c, d], _ => exact ⟨a, b, c, d, rfl⟩
  clear hv hu
  have hq : decide (qr a b c d = qr a' b' c' d') = decide ([a, b, c, d] = [a', b', c', d']) := by
    refine decide_eq_decide.2 ⟨fun h => ?_, fun h => ?_⟩
    · obtain ⟨rfl, rfl, rfl, rfl⟩ := qr_inj h
      rfl
    · simp only [List.cons.injEq, and_true] at h
      obtain ⟨rfl, rfl, rfl, rfl⟩ := h
      rfl
  have hz : qr 0 0 0 0 = ([0, 0, 0, 0] : List W) := by decide +kernel
  refine enter (n := 22) Try.func3 rfl rfl rfl (Holds.start w []) ?_
  repeat (first | refine JL.q (by first | (apply OQ.move; exact rfl) | (apply OQ.assign; exact rfl)) rfl ?_ | refine JC.seq ?_ | refine JC.region ?_ | refine JC.block ?_ | refine JC.skip ?_ | refine JC.exit ?_ | refine JL.nil ?_ | refine JE.next ?_ | refine JE.blk_normal ?_ | refine JE.then_exit ?_ | refine JE.blk_hit ?_ | refine JE.blk_miss rfl ?_ | refine JE.then_ret ?_ | refine JE.blk_ret ?_ | refine JC.label ?_ | refine JL.gon rfl rfl ?_ | refine JL.gskip rfl rfl rfl rfl ?_)
  refine JL.box (r := [a, b, c, d].map U32) rfl rfl rfl fun b2 _ => ?_
  refine JL.box (r := [a', b', c', d'].map U32) rfl rfl rfl fun b3 _ => ?_
  repeat (first | refine JL.q (by first | (apply OQ.callx; exact goes_speaks3; exact rfl; exact (fun w' _ => speaks3_any w')) | (apply OQ.not; exact rfl) | (apply OQ.move; exact rfl) | (apply OQ.assign; exact rfl)) rfl ?_ | refine JC.seq ?_ | refine JC.region ?_ | refine JC.block ?_ | refine JC.skip ?_ | refine JC.exit ?_ | refine JL.nil ?_ | refine JE.next ?_ | refine JE.blk_normal ?_ | refine JE.then_exit ?_ | refine JE.blk_hit ?_ | refine JE.blk_miss rfl ?_ | refine JE.then_ret ?_ | refine JE.blk_ret ?_ | refine JC.label ?_ | refine JL.gon rfl rfl ?_ | refine JL.gskip rfl rfl rfl rfl ?_)
  refine JC.cond_false rfl rfl ?_
  repeat (first | refine JL.q (by first | (apply OQ.move; exact rfl) | (apply OQ.assign; exact rfl)) rfl ?_ | refine JC.seq ?_ | refine JC.region ?_ | refine JC.block ?_ | refine JC.skip ?_ | refine JC.exit ?_ | refine JL.nil ?_ | refine JE.next ?_ | refine JE.blk_normal ?_ | refine JE.then_exit ?_ | refine JE.blk_hit ?_ | refine JE.blk_miss rfl ?_ | refine JE.then_ret ?_ | refine JE.blk_ret ?_ | refine JC.label ?_ | refine JL.gon rfl rfl ?_ | refine JL.gskip rfl rfl rfl rfl ?_)
  refine JC.quiet mixQ (by kernel_rfl) ?_
  repeat (first | refine JL.q (by first | (apply OQ.load_agg (b := b2) (cs := [a, b, c, d].map U32); exact q4a; exact q4s; exact rfl; exact (.there .here); exact rfl; exact Row.all) | (apply OQ.load_agg (b := b3) (cs := [a', b', c', d'].map U32); exact q4a; exact q4s; exact rfl; exact .here; exact rfl; exact Row.all) | (apply OQ.callx (vs := [.agg ([a, b, c, d].map U32).toArray]); exact goes_quarter; exact rfl; exact (fun w' _ => quarter_any a b c d w')) | (apply OQ.callx (vs := [.agg ([a', b', c', d'].map U32).toArray]); exact goes_quarter; exact rfl; exact (fun w' _ => quarter_any a' b' c' d' w')) | (apply OQ.move; exact rfl) | (apply OQ.assign; exact rfl)) rfl ?_ | refine JQ.q (by first | (apply OQ.load_agg (b := b2) (cs := [a, b, c, d].map U32); exact q4a; exact q4s; exact rfl; exact (.there .here); exact rfl; exact Row.all) | (apply OQ.load_agg (b := b3) (cs := [a', b', c', d'].map U32); exact q4a; exact q4s; exact rfl; exact .here; exact rfl; exact Row.all) | (apply OQ.callx (vs := [.agg ([a, b, c, d].map U32).toArray]); exact goes_quarter; exact rfl; exact (fun w' _ => quarter_any a b c d w')) | (apply OQ.callx (vs := [.agg ([a', b', c', d'].map U32).toArray]); exact goes_quarter; exact rfl; exact (fun w' _ => quarter_any a' b' c' d' w')) | (apply OQ.move; exact rfl) | (apply OQ.assign; exact rfl)) rfl ?_ | refine JC.seq ?_ | refine JC.region ?_ | refine JC.block ?_ | refine JC.skip ?_ | refine JC.exit ?_ | refine JL.nil ?_ | refine JQ.nil ?_ | refine JQ.nil_tail ?_ | refine JE.next ?_ | refine JE.blk_normal ?_ | refine JE.then_exit ?_ | refine JE.blk_hit ?_ | refine JE.blk_miss rfl ?_ | refine JE.then_ret ?_ | refine JE.blk_ret ?_ | refine JC.label ?_ | refine JL.gon rfl rfl ?_ | refine JQ.gon rfl rfl ?_ | refine JL.gskip rfl rfl rfl rfl ?_ | refine JQ.gskip rfl rfl rfl rfl ?_)
  refine JQ.q (OQ.eqW (r := qr a b c d) (q := qr a' b' c' d') Try.underlying23 Try.underlying22 q1s q4g rfl rfl rfl rfl) rfl ?_
  repeat (first | refine JL.q (by first | (apply OQ.load_agg (b := b2) (cs := [a, b, c, d].map U32); exact q4a; exact q4s; exact rfl; exact (.there .here); exact rfl; exact Row.all) | (apply OQ.load_agg (b := b3) (cs := [a', b', c', d'].map U32); exact q4a; exact q4s; exact rfl; exact .here; exact rfl; exact Row.all) | (apply OQ.move; exact rfl) | (apply OQ.assign; exact rfl)) rfl ?_ | refine JQ.q (by first | (apply OQ.load_agg (b := b2) (cs := [a, b, c, d].map U32); exact q4a; exact q4s; exact rfl; exact (.there .here); exact rfl; exact Row.all) | (apply OQ.load_agg (b := b3) (cs := [a', b', c', d'].map U32); exact q4a; exact q4s; exact rfl; exact .here; exact rfl; exact Row.all) | (apply OQ.move; exact rfl) | (apply OQ.assign; exact rfl)) rfl ?_ | refine JC.seq ?_ | refine JC.region ?_ | refine JC.block ?_ | refine JC.skip ?_ | refine JC.exit ?_ | refine JL.nil ?_ | refine JQ.nil ?_ | refine JQ.nil_tail ?_ | refine JE.next ?_ | refine JE.blk_normal ?_ | refine JE.then_exit ?_ | refine JE.blk_hit ?_ | refine JE.blk_miss rfl ?_ | refine JE.then_ret ?_ | refine JE.blk_ret ?_ | refine JC.label ?_ | refine JL.gon rfl rfl ?_ | refine JQ.gon rfl rfl ?_ | refine JL.gskip rfl rfl rfl rfl ?_ | refine JQ.gskip rfl rfl rfl rfl ?_)
  refine JQ.q (OQ.eqW (r := [a, b, c, d]) (q := [a', b', c', d']) Try.underlying23 Try.underlying22 q1s q4g rfl rfl rfl rfl) rfl ?_
  refine JQ.q (OQ.eqb_t Try.underlying4 rfl rfl hq) rfl ?_
  repeat (first | refine JL.q (by first | (apply OQ.move; exact rfl) | (apply OQ.assign; exact rfl)) rfl ?_ | refine JQ.q (by first | (apply OQ.move; exact rfl) | (apply OQ.assign; exact rfl)) rfl ?_ | refine JC.seq ?_ | refine JC.region ?_ | refine JC.block ?_ | refine JC.skip ?_ | refine JC.exit ?_ | refine JL.nil ?_ | refine JQ.nil ?_ | refine JQ.nil_tail ?_ | refine JE.next ?_ | refine JE.blk_normal ?_ | refine JE.then_exit ?_ | refine JE.blk_hit ?_ | refine JE.blk_miss rfl ?_ | refine JE.then_ret ?_ | refine JE.blk_ret ?_ | refine JC.label ?_ | refine JL.gon rfl rfl ?_ | refine JQ.gon rfl rfl ?_ | refine JL.gskip rfl rfl rfl rfl ?_ | refine JQ.gskip rfl rfl rfl rfl ?_)
  refine JQ.q (OQ.pure (v := .agg (([0, 0, 0, 0] : List W).map U32).toArray) rfl rfl (by kernel_rfl)) rfl ?_
  repeat (first | refine JL.q (by first | (apply OQ.callx (vs := [.agg (([0, 0, 0, 0] : List W).map U32).toArray]); exact goes_quarter; exact rfl; exact (fun w' _ => quarter_any 0 0 0 0 w')) | (apply OQ.move; exact rfl) | (apply OQ.assign; exact rfl)) rfl ?_ | refine JQ.q (by first | (apply OQ.callx (vs := [.agg (([0, 0, 0, 0] : List W).map U32).toArray]); exact goes_quarter; exact rfl; exact (fun w' _ => quarter_any 0 0 0 0 w')) | (apply OQ.move; exact rfl) | (apply OQ.assign; exact rfl)) rfl ?_ | refine JC.seq ?_ | refine JC.region ?_ | refine JC.block ?_ | refine JC.skip ?_ | refine JC.exit ?_ | refine JL.nil ?_ | refine JQ.nil ?_ | refine JQ.nil_tail ?_ | refine JE.next ?_ | refine JE.blk_normal ?_ | refine JE.then_exit ?_ | refine JE.blk_hit ?_ | refine JE.blk_miss rfl ?_ | refine JE.then_ret ?_ | refine JE.blk_ret ?_ | refine JC.label ?_ | refine JL.gon rfl rfl ?_ | refine JQ.gon rfl rfl ?_ | refine JL.gskip rfl rfl rfl rfl ?_ | refine JQ.gskip rfl rfl rfl rfl ?_)
  refine JQ.q (OQ.pure (v := .agg (([0, 0, 0, 0] : List W).map U32).toArray) rfl rfl (by kernel_rfl)) rfl ?_
  repeat (first | refine JL.q (by first | (apply OQ.eqW_t (r := qr 0 0 0 0) (q := [0, 0, 0, 0]); exact Try.underlying23; exact Try.underlying22; exact q1s; exact q4g; exact rfl; exact rfl; exact rfl; exact rfl; exact hz) | (apply OQ.pick_t; exact rfl; exact rfl) | (apply OQ.move; exact rfl) | (apply OQ.assign; exact rfl)) rfl ?_ | refine JQ.q (by first | (apply OQ.eqW_t (r := qr 0 0 0 0) (q := [0, 0, 0, 0]); exact Try.underlying23; exact Try.underlying22; exact q1s; exact q4g; exact rfl; exact rfl; exact rfl; exact rfl; exact hz) | (apply OQ.pick_t; exact rfl; exact rfl) | (apply OQ.move; exact rfl) | (apply OQ.assign; exact rfl)) rfl ?_ | refine JC.seq ?_ | refine JC.region ?_ | refine JC.block ?_ | refine JC.skip ?_ | refine JC.exit ?_ | refine JL.nil ?_ | refine JQ.nil ?_ | refine JQ.nil_tail ?_ | refine JE.next ?_ | refine JE.blk_normal ?_ | refine JE.then_exit ?_ | refine JE.blk_hit ?_ | refine JE.blk_miss rfl ?_ | refine JE.then_ret ?_ | refine JE.blk_ret ?_ | refine JC.label ?_ | refine JL.gon rfl rfl ?_ | refine JQ.gon rfl rfl ?_ | refine JL.gskip rfl rfl rfl rfl ?_ | refine JQ.gskip rfl rfl rfl rfl ?_)
  refine JC.ret ?_
  repeat (first | refine JL.q (by first | (apply OQ.move; exact rfl) | (apply OQ.assign; exact rfl)) rfl ?_ | refine JQ.q (by first | (apply OQ.move; exact rfl) | (apply OQ.assign; exact rfl)) rfl ?_ | refine JC.seq ?_ | refine JC.region ?_ | refine JC.block ?_ | refine JC.skip ?_ | refine JC.exit ?_ | refine JL.nil ?_ | refine JQ.nil ?_ | refine JQ.nil_tail ?_ | refine JE.next ?_ | refine JE.blk_normal ?_ | refine JE.then_exit ?_ | refine JE.blk_hit ?_ | refine JE.blk_miss rfl ?_ | refine JE.then_ret ?_ | refine JE.blk_ret ?_ | refine JC.label ?_ | refine JL.gon rfl rfl ?_ | refine JQ.gon rfl rfl ?_ | refine JL.gskip rfl rfl rfl rfl ?_ | refine JQ.gskip rfl rfl rfl rfl ?_)
  exact JE.ret1 rfl (RV.tmp rfl) fun w' hw => ⟨rfl, hw.chg⟩

set_option maxRecDepth 100000 in
theorem streamQuarters_lifted (os : Os) (started : os.Started) (H : Type) (enc : TypeId × Value → H) :
    ReturnsInHanded {} Try.checked os 3 .any (Rows.streamQuartersSpec.pre6 enc Try.prog Try.f3 Rows.streamQuartersRow.domain false) (Rows.streamQuartersSpec.post enc Try.prog Try.f3 false true false false) := by
  refine returnsInHanded_of_change (C := Try.checked) ownQ started (by kernel_rfl) Try.func3
    (ChangeSpec.witness6 (enc := enc) (C := Try.checked) false ⟨#[], #[.agg (Array.replicate 4 (.int .u32 0)), .agg (Array.replicate 4 (.int .u32 0))], []⟩ 8 (by kernel_rfl) (by kernel_rfl) (by kernel_rfl) (by kernel_rfl)) ?_
  intro W base args ds gs before hval0 hW hcnd _
  have hval : ∀ (j : Nat) t v, Try.f3.params[j]? = some t → args[j]? = some v → Value.okWide Try.prog W .any base t v := hval0
  have hW' := hW
  obtain ⟨p, q, hA0, hV, rfl, hfz, hnd⟩ := hW
  have hA : DataW.TrodAll enc Try.prog W 0 (fun _ => true) true Try.f3.params.toList args.toList ds p := hA0
  rw [Try.params3] at hA hval
  obtain ⟨v0, vs0, d0, ds0, p0, q0, hargs, rfl, rfl, h0, r0⟩ := trodAll_cons hA
  obtain ⟨v1, vs1, d1, ds1, p1, q1, rfl, rfl, rfl, h1, r1⟩ := trodAll_cons r0
  obtain ⟨rfl, rfl, rfl⟩ := trodAll_nil r1
  obtain rfl : args = #[v0, v1] := by cases args; simp_all
  obtain ⟨rfl, rfl⟩ := trodVars_none hV
  have k0 := h0
  have lt0 : ∀ x ∈ p0, x.block < W.heap.size := by obtain ⟨m, hm⟩ := k0; exact DataW.trod_lt m _ _ _ hm
  have k1 := h1
  have lt1 : ∀ x ∈ p1, x.block < W.heap.size := by obtain ⟨m, hm⟩ := k1; exact DataW.trod_lt m _ _ _ hm
  obtain ⟨s0, rfl, ok0⟩ : ∃ r : List (BitVec 32), v0 = .agg (r.map U32).toArray ∧ r.length = 4 := by
    obtain ⟨fuel, hf⟩ := h0
    exact words_of (hval 0 23 v0 rfl rfl) hf
  obtain ⟨s1, rfl, ok1⟩ : ∃ r : List (BitVec 32), v1 = .agg (r.map U32).toArray ∧ r.length = 4 := by
    obtain ⟨fuel, hf⟩ := h1
    exact words_of (hval 1 23 v1 rfl rfl) hf
  clear hA0 hval0
  refine (law_streamQuarters s0 s1 W ok0 ok1).mono fun e W' ⟨he, hx⟩ => ?_
  have bel := Chg.below hx
  subst he
  exact ⟨_, rfl, _, _, _, [], _, [], hW', trodAll_mk1 (shut_bool (show Try.prog.underlying 4 = some .bool by kernel_rfl) _), (trodAll_cons_mk (Below.trod laidOutQ (by kernel_rfl) (of_decide_eq_true (by kernel_rfl)) k0 bel lt0) (trodAll_cons_mk (Below.trod laidOutQ (by kernel_rfl) (of_decide_eq_true (by kernel_rfl)) k1 bel lt1) trodAll_mk0)), rfl, bel.frame _, fun h => by cases h⟩

/-- THE STATEMENT. -/
theorem streamQuarters_holds : Rows.StreamQuartersSaid :=
  OpenClaim.holds_of_wide 3 Try.f3 rfl rfl rfl rfl rfl rfl rfl ⟨rfl, rfl, rfl, rfl, rfl⟩ rfl rfl rfl rfl rfl (by kernel_rfl) Try.func3 (by kernel_rfl)
    (of_decide_eq_true (by kernel_rfl)) (by unfold Func.isWrapper; first | (rw [if_pos (by decide +kernel)]; kernel_rfl) | (rw [if_neg (by decide +kernel)]; exact ⟨rfl, rfl⟩))
    (fun os started H enc _ => streamQuarters_lifted os started H enc)
#print axioms streamQuarters_holds
end Go.Proofs.Ytheemnpfnefbmaa
