/-
  Of no statement by itself: the texts TkG, MibF, MimK, LtE, LtF, LtG, LtH, MibG, MibT, MibH, MibI, TkH, TokL, TkI, MibU, MibV, MimD, Slja, MimE in one.
  Conditions: each theorem's own.
-/
import Derived.Test.YtbbmhkdfdgnkpaaGreatDoorCe
set_option linter.unusedSimpArgs false
set_option linter.unusedVariables false
/-
  Of no statement by itself: what the landed token's param and Params give.
  Conditions: each theorem's own.
-/
namespace Go.Proofs.YtbbmhkdfdgnkpaaGreatDoor
set_option maxRecDepth 10000
open Sl Fld Tok
theorem goes_paramA : Goes Tryz.prog 93 := ⟨_, Tryz.func93, rfl, by kernel_rfl⟩
def pmV (o : Option (Pr × List Bt)) : Value := match o with
  | some (p, z) => .tuple #[.agg (pc p).toArray, Z z, .bool true]
  | none => .tuple #[.agg (pc ([], [])).toArray, Z [], .bool false]
set_option maxHeartbeats 32000000 in
theorem paramA_any (s : List Bt) (w : World) (hl : s.length < 1000000000) : Calls Tryz.prog 93 [Z s].toArray w fun e w' => e = .returned (pmV (paramL s)) ∧ Ext w w' := by
  refine enter (n := 51) Tryz.func93 rfl rfl rfl (Holds.start w []) ?_
  obtain ⟨ins, bg, e1, l1, b1, b2⟩ := cpV_parts 59 s
  have c1 := fun w' => cpw_any s 59 w'
  rw [e1] at c1
  have cP : ∀ (b : Nat) (w0 w' : World) (M : List Ent), Holds w0 [] (⟨b, Row 9 [Z notAtom], true⟩ :: M) w' → Calls Tryz.prog 91 [Z ins, prF b].toArray w' fun e w'' => e = .returned (.tuple #[Z (partL plainB ins).1, Z (partL plainB ins).2]) ∧ Ext w' w'' := fun b w0 w' M hw' => by
    have := partA_any ins (prF b) (prB notAtom) w' (fun_printed hw' .here) (by omega)
    rw [prB_atom] at this
    exact this
  obtain ⟨k1, k2, e3, q1, q2, hpl⟩ := partL_split plainB ins
  have hnl : (partL plainB ins).1.length + (partL plainB ins).2.length ≤ ins.length := by
    conv => rhs; rw [e3]
    simp only [List.length_append]
    omega
  clear e3 q1 q2 k1 k2
  have hP : paramL s = if s.head? = some 59 ∧ (partL plainB s.tail).1 ≠ [] ∧ (partL plainB s.tail).2.head? = some 61 ∧ (valL (partL plainB s.tail).2.tail).2.2 = true then
    some (((partL plainB s.tail).1.map small, (valL (partL plainB s.tail).2.tail).1), (valL (partL plainB s.tail).2.tail).2.1) else none := rfl
  have hn1 : bg = true → partL plainB s.tail = partL plainB ins := fun h => by rw [(b1 h).2]
  obtain ⟨n, u, hp⟩ : ∃ n u, partL plainB ins = (n, u) := ⟨_, _, rfl⟩
  rw [hp] at cP hpl hnl hn1
  dsimp only at cP hpl hnl
  clear hp
  obtain ⟨u2, go, e2, l2, g1, g2⟩ := cpV_parts 61 u
  have c2 := fun w' => cpw_any u 61 w'
  rw [e2] at c2
  have c3 := fun w' => readV_any u2 w' (by omega)
  have hg1 : go = true → valL u.tail = valL u2 := fun h => by rw [(g1 h).2]
  obtain ⟨v, z, ok, hv⟩ : ∃ v z ok, valL u2 = (v, z, ok) := ⟨_, _, _, rfl⟩
  rw [hv] at c3 hg1
  dsimp only at c3
  clear hv e1 e2
  repeat (first | refine JC.seq ?_ | refine JC.region ?_)
  refine JL.alloc parZ rfl fun bc _ => ?_
  cases gn : decide (n = [])
  case true =>
    have hN : paramL s = none := by
      rw [hP, if_neg]
      rintro ⟨h, hn, _⟩
      cases bg with
      | true => rw [hn1 rfl] at hn; exact hn (of_decide_eq_true gn)
      | false => exact (b2 rfl).1 h
    rw [hN]
    clear hP hn1 hg1 b1 b2 g1 g2 hN
    cases bg
    · repeat (first | refine JL.q (by first | (apply OQ.callx (vs := [Z s, Z [59]]); exact goes_cpw; exact rfl; exact (fun w' _ => c1 w')) | (apply OQ.extract; exact rfl; exact rfl) | (apply OQ.move; exact rfl) | (apply OQ.assign; exact rfl)) rfl ?_ | refine JC.seq ?_ | refine JC.region ?_ | refine JL.nil ?_ | refine JE.next ?_)
      refine JL.callg (ι := Nat) (vs := [Z notAtom]) prF (fun b => [⟨b, Row 9 [Z notAtom], true⟩]) goes_printed rfl rfl (fun b e he => by rw [List.mem_singleton.1 he]) (fun w' _ => printed_any notAtom w') fun b => ?_
      repeat (first | refine JL.q (by first | (apply OQ.callx (vs := [Z ins, prF b]); exact goes_partA; exact rfl; exact (fun w' hw' => cP b _ w' _ hw')) | (apply OQ.callx (vs := [Z u, Z [61]]); exact goes_cpw; exact rfl; exact (fun w' _ => c2 w')) | (apply OQ.callx (vs := [Z u2]); exact goes_readV; exact rfl; exact (fun w' _ => c3 w')) | (apply OQ.extract; exact rfl; exact rfl) | (apply OQ.not; exact rfl) | (apply OQ.pick_t; exact rfl; exact rfl) | (apply OQ.move; exact rfl) | (apply OQ.assign; exact rfl)) rfl ?_ | refine JC.seq ?_ | refine JC.region ?_ | refine JL.nil ?_ | refine JE.next ?_ | refine JL.gskip rfl rfl rfl rfl ?_)
      refine JC.cond rfl (fun _ => ?_) (fun h => by cases h)
      repeat (first | refine JL.q (by (apply OQ.build0)) rfl ?_ | refine JC.seq ?_ | refine JC.region ?_)
      refine JL.store_all (cs := pc ([], [])) parS rfl rfl rfl rfl (.there .here) rfl ?_
      repeat (first | refine JL.q (by (apply OQ.assign; exact rfl)) rfl ?_ | refine JL.nil ?_ | refine JE.next ?_)
      refine JC.ret ?_
      repeat (refine JE.then_ret ?_)
      exact JE.ret3 rfl (RV.cell_agg (cs := pc ([], [])) parA parS rfl (.there .here) rfl Row.all) (RV.tmp rfl) (RV.tmp rfl) fun w' hw => ⟨rfl, hw.chg⟩
    · repeat (first | refine JL.q (by first | (apply OQ.callx (vs := [Z s, Z [59]]); exact goes_cpw; exact rfl; exact (fun w' _ => c1 w')) | (apply OQ.extract; exact rfl; exact rfl) | (apply OQ.move; exact rfl) | (apply OQ.assign; exact rfl)) rfl ?_ | refine JC.seq ?_ | refine JC.region ?_ | refine JL.nil ?_ | refine JE.next ?_)
      refine JL.callg (ι := Nat) (vs := [Z notAtom]) prF (fun b => [⟨b, Row 9 [Z notAtom], true⟩]) goes_printed rfl rfl (fun b e he => by rw [List.mem_singleton.1 he]) (fun w' _ => printed_any notAtom w') fun b => ?_
      repeat (first | refine JL.q (by first | (apply OQ.callx (vs := [Z ins, prF b]); exact goes_partA; exact rfl; exact (fun w' hw' => cP b _ w' _ hw')) | (apply OQ.callx (vs := [Z u, Z [61]]); exact goes_cpw; exact rfl; exact (fun w' _ => c2 w')) | (apply OQ.callx (vs := [Z u2]); exact goes_readV; exact rfl; exact (fun w' _ => c3 w')) | (apply OQ.extract; exact rfl; exact rfl) | (apply OQ.not; exact rfl) | (apply OQ.pick_t; exact rfl; exact rfl) | (apply OQ.pick_f; exact rfl; exact rfl) | (apply OQ.eqSB (r := []); exact rfl; exact rfl; exact gn) | (apply OQ.move; exact rfl) | (apply OQ.assign; exact rfl)) rfl ?_ | refine JC.seq ?_ | refine JC.region ?_ | refine JL.nil ?_ | refine JE.next ?_ | refine JL.gon rfl rfl ?_ | refine JL.gskip rfl rfl rfl rfl ?_)
      refine JC.cond rfl (fun _ => ?_) (fun h => by cases h)
      repeat (first | refine JL.q (by (apply OQ.build0)) rfl ?_ | refine JC.seq ?_ | refine JC.region ?_)
      refine JL.store_all (cs := pc ([], [])) parS rfl rfl rfl rfl (.there .here) rfl ?_
      repeat (first | refine JL.q (by (apply OQ.assign; exact rfl)) rfl ?_ | refine JL.nil ?_ | refine JE.next ?_)
      refine JC.ret ?_
      repeat (refine JE.then_ret ?_)
      exact JE.ret3 rfl (RV.cell_agg (cs := pc ([], [])) parA parS rfl (.there .here) rfl Row.all) (RV.tmp rfl) (RV.tmp rfl) fun w' hw => ⟨rfl, hw.chg⟩
  cases bg
  · have hN : paramL s = none := by
      rw [hP, if_neg]
      rintro ⟨h, _⟩
      exact (b2 rfl).1 h
    rw [hN]
    clear hP hn1 hg1 b1 b2 g1 g2 hN
    repeat (first | refine JL.q (by first | (apply OQ.callx (vs := [Z s, Z [59]]); exact goes_cpw; exact rfl; exact (fun w' _ => c1 w')) | (apply OQ.extract; exact rfl; exact rfl) | (apply OQ.move; exact rfl) | (apply OQ.assign; exact rfl)) rfl ?_ | refine JC.seq ?_ | refine JC.region ?_ | refine JL.nil ?_ | refine JE.next ?_)
    refine JL.callg (ι := Nat) (vs := [Z notAtom]) prF (fun b => [⟨b, Row 9 [Z notAtom], true⟩]) goes_printed rfl rfl (fun b e he => by rw [List.mem_singleton.1 he]) (fun w' _ => printed_any notAtom w') fun b => ?_
    repeat (first | refine JL.q (by first | (apply OQ.callx (vs := [Z ins, prF b]); exact goes_partA; exact rfl; exact (fun w' hw' => cP b _ w' _ hw')) | (apply OQ.callx (vs := [Z u, Z [61]]); exact goes_cpw; exact rfl; exact (fun w' _ => c2 w')) | (apply OQ.callx (vs := [Z u2]); exact goes_readV; exact rfl; exact (fun w' _ => c3 w')) | (apply OQ.extract; exact rfl; exact rfl) | (apply OQ.not; exact rfl) | (apply OQ.pick_t; exact rfl; exact rfl) | (apply OQ.move; exact rfl) | (apply OQ.assign; exact rfl)) rfl ?_ | refine JC.seq ?_ | refine JC.region ?_ | refine JL.nil ?_ | refine JE.next ?_ | refine JL.gskip rfl rfl rfl rfl ?_)
    refine JC.cond rfl (fun _ => ?_) (fun h => by cases h)
    repeat (first | refine JL.q (by (apply OQ.build0)) rfl ?_ | refine JC.seq ?_ | refine JC.region ?_)
    refine JL.store_all (cs := pc ([], [])) parS rfl rfl rfl rfl (.there .here) rfl ?_
    repeat (first | refine JL.q (by (apply OQ.assign; exact rfl)) rfl ?_ | refine JL.nil ?_ | refine JE.next ?_)
    refine JC.ret ?_
    repeat (refine JE.then_ret ?_)
    exact JE.ret3 rfl (RV.cell_agg (cs := pc ([], [])) parA parS rfl (.there .here) rfl Row.all) (RV.tmp rfl) (RV.tmp rfl) fun w' hw => ⟨rfl, hw.chg⟩
  have h59 := (b1 rfl).1
  rw [hn1 rfl] at hP
  dsimp only at hP
  cases go
  · have hN : paramL s = none := by
      rw [hP, if_neg]
      rintro ⟨_, _, h, _⟩
      exact (g2 rfl).1 h
    rw [hN]
    clear hP hn1 hg1 b1 b2 g1 g2 hN
    repeat (first | refine JL.q (by first | (apply OQ.callx (vs := [Z s, Z [59]]); exact goes_cpw; exact rfl; exact (fun w' _ => c1 w')) | (apply OQ.extract; exact rfl; exact rfl) | (apply OQ.move; exact rfl) | (apply OQ.assign; exact rfl)) rfl ?_ | refine JC.seq ?_ | refine JC.region ?_ | refine JL.nil ?_ | refine JE.next ?_)
    refine JL.callg (ι := Nat) (vs := [Z notAtom]) prF (fun b => [⟨b, Row 9 [Z notAtom], true⟩]) goes_printed rfl rfl (fun b e he => by rw [List.mem_singleton.1 he]) (fun w' _ => printed_any notAtom w') fun b => ?_
    repeat (first | refine JL.q (by first | (apply OQ.callx (vs := [Z ins, prF b]); exact goes_partA; exact rfl; exact (fun w' hw' => cP b _ w' _ hw')) | (apply OQ.callx (vs := [Z u, Z [61]]); exact goes_cpw; exact rfl; exact (fun w' _ => c2 w')) | (apply OQ.callx (vs := [Z u2]); exact goes_readV; exact rfl; exact (fun w' _ => c3 w')) | (apply OQ.extract; exact rfl; exact rfl) | (apply OQ.not; exact rfl) | (apply OQ.pick_t; exact rfl; exact rfl) | (apply OQ.pick_f; exact rfl; exact rfl) | (apply OQ.eqSB (r := []); exact rfl; exact rfl; exact gn) | (apply OQ.move; exact rfl) | (apply OQ.assign; exact rfl)) rfl ?_ | refine JC.seq ?_ | refine JC.region ?_ | refine JL.nil ?_ | refine JE.next ?_ | refine JL.gon rfl rfl ?_ | refine JL.gskip rfl rfl rfl rfl ?_)
    refine JC.cond rfl (fun _ => ?_) (fun h => by cases h)
    repeat (first | refine JL.q (by (apply OQ.build0)) rfl ?_ | refine JC.seq ?_ | refine JC.region ?_)
    refine JL.store_all (cs := pc ([], [])) parS rfl rfl rfl rfl (.there .here) rfl ?_
    repeat (first | refine JL.q (by (apply OQ.assign; exact rfl)) rfl ?_ | refine JL.nil ?_ | refine JE.next ?_)
    refine JC.ret ?_
    repeat (refine JE.then_ret ?_)
    exact JE.ret3 rfl (RV.cell_agg (cs := pc ([], [])) parA parS rfl (.there .here) rfl Row.all) (RV.tmp rfl) (RV.tmp rfl) fun w' hw => ⟨rfl, hw.chg⟩
  have h61 := (g1 rfl).1
  rw [hg1 rfl] at hP
  dsimp only at hP
  cases ok
  · have hN : paramL s = none := by
      rw [hP, if_neg]
      rintro ⟨_, _, _, h⟩
      cases h
    rw [hN]
    clear hP hn1 hg1 b1 b2 g1 g2 hN
    repeat (first | refine JL.q (by first | (apply OQ.callx (vs := [Z s, Z [59]]); exact goes_cpw; exact rfl; exact (fun w' _ => c1 w')) | (apply OQ.extract; exact rfl; exact rfl) | (apply OQ.move; exact rfl) | (apply OQ.assign; exact rfl)) rfl ?_ | refine JC.seq ?_ | refine JC.region ?_ | refine JL.nil ?_ | refine JE.next ?_)
    refine JL.callg (ι := Nat) (vs := [Z notAtom]) prF (fun b => [⟨b, Row 9 [Z notAtom], true⟩]) goes_printed rfl rfl (fun b e he => by rw [List.mem_singleton.1 he]) (fun w' _ => printed_any notAtom w') fun b => ?_
    repeat (first | refine JL.q (by first | (apply OQ.callx (vs := [Z ins, prF b]); exact goes_partA; exact rfl; exact (fun w' hw' => cP b _ w' _ hw')) | (apply OQ.callx (vs := [Z u, Z [61]]); exact goes_cpw; exact rfl; exact (fun w' _ => c2 w')) | (apply OQ.callx (vs := [Z u2]); exact goes_readV; exact rfl; exact (fun w' _ => c3 w')) | (apply OQ.extract; exact rfl; exact rfl) | (apply OQ.not; exact rfl) | (apply OQ.pick_f; exact rfl; exact rfl) | (apply OQ.eqSB (r := []); exact rfl; exact rfl; exact gn) | (apply OQ.move; exact rfl) | (apply OQ.assign; exact rfl)) rfl ?_ | refine JC.seq ?_ | refine JC.region ?_ | refine JL.nil ?_ | refine JE.next ?_ | refine JL.gon rfl rfl ?_)
    refine JC.cond rfl (fun _ => ?_) (fun h => by cases h)
    repeat (first | refine JL.q (by (apply OQ.build0)) rfl ?_ | refine JC.seq ?_ | refine JC.region ?_)
    refine JL.store_all (cs := pc ([], [])) parS rfl rfl rfl rfl (.there .here) rfl ?_
    repeat (first | refine JL.q (by (apply OQ.assign; exact rfl)) rfl ?_ | refine JL.nil ?_ | refine JE.next ?_)
    refine JC.ret ?_
    repeat (refine JE.then_ret ?_)
    exact JE.ret3 rfl (RV.cell_agg (cs := pc ([], [])) parA parS rfl (.there .here) rfl Row.all) (RV.tmp rfl) (RV.tmp rfl) fun w' hw => ⟨rfl, hw.chg⟩
  rw [if_pos ⟨h59, of_decide_eq_false gn, h61, rfl⟩] at hP
  rw [hP]
  clear hP hn1 hg1 b1 b2 g1 g2
  have cL := fun w' => lower_any n w' (by omega) (fun c hc => plain_low (hpl c hc))
  repeat (first | refine JL.q (by first | (apply OQ.callx (vs := [Z s, Z [59]]); exact goes_cpw; exact rfl; exact (fun w' _ => c1 w')) | (apply OQ.extract; exact rfl; exact rfl) | (apply OQ.move; exact rfl) | (apply OQ.assign; exact rfl)) rfl ?_ | refine JC.seq ?_ | refine JC.region ?_ | refine JL.nil ?_ | refine JE.next ?_)
  refine JL.callg (ι := Nat) (vs := [Z notAtom]) prF (fun b => [⟨b, Row 9 [Z notAtom], true⟩]) goes_printed rfl rfl (fun b e he => by rw [List.mem_singleton.1 he]) (fun w' _ => printed_any notAtom w') fun b => ?_
  repeat (first | refine JL.q (by first | (apply OQ.callx (vs := [Z ins, prF b]); exact goes_partA; exact rfl; exact (fun w' hw' => cP b _ w' _ hw')) | (apply OQ.callx (vs := [Z u, Z [61]]); exact goes_cpw; exact rfl; exact (fun w' _ => c2 w')) | (apply OQ.callx (vs := [Z u2]); exact goes_readV; exact rfl; exact (fun w' _ => c3 w')) | (apply OQ.extract; exact rfl; exact rfl) | (apply OQ.not; exact rfl) | (apply OQ.pick_f; exact rfl; exact rfl) | (apply OQ.eqSB (r := []); exact rfl; exact rfl; exact gn) | (apply OQ.move; exact rfl) | (apply OQ.assign; exact rfl)) rfl ?_ | refine JC.seq ?_ | refine JC.region ?_ | refine JL.nil ?_ | refine JE.next ?_ | refine JL.gon rfl rfl ?_)
  refine JC.cond rfl (fun h => by cases h) (fun _ => ?_)
  repeat (first | refine JL.q (by first | (apply OQ.callx (vs := [Z n]); exact goes_lower; exact rfl; exact (fun w' _ => cL w')) | (apply OQ.build2 (a := n.map small) (b := v); exact rfl; exact rfl) | (apply OQ.move; exact rfl)) rfl ?_ | refine JC.seq ?_ | refine JC.region ?_ | refine JC.skip ?_ | refine JE.next ?_)
  refine JL.store_all (cs := pc (n.map small, v)) parS rfl rfl rfl rfl (.there .here) rfl ?_
  repeat (first | refine JL.q (by (apply OQ.assign; exact rfl)) rfl ?_ | refine JL.nil ?_ | refine JE.next ?_)
  refine JC.ret ?_
  exact JE.ret3 rfl (RV.cell_agg (cs := pc (n.map small, v)) parA parS rfl (.there .here) rfl Row.all) (RV.tmp rfl) (RV.tmp rfl) fun w' hw => ⟨rfl, hw.chg⟩
/-! ### Params -/
theorem goes_paramsA : Goes Tryz.prog 65 := ⟨_, Tryz.func65, rfl, by kernel_rfl⟩
theorem goes_params1 : Goes Tryz.prog 92 := ⟨_, Tryz.func92, rfl, by kernel_rfl⟩
theorem fnZ : zc Tryz.prog 60 = some [.nilFunc] := by kernel_rfl
theorem fnS : szT Tryz.prog 60 = some 1 := by kernel_rfl
theorem fnC : scal Tryz.prog 60 = true := by kernel_rfl
set_option maxHeartbeats 4000000 in
theorem params1_any (a b : Nat) (c : Bt) (w : World) (hF : Fun8 Tryz.prog w (prF b) plainB) (hc : w.cell? ⟨a, 0, none⟩ = some (prF b)) : Calls Tryz.prog 92 [U8 c, Pt a 0].toArray w fun e w' => e = .returned (.bool (kiB c)) ∧ Ext w w' := by
  refine enter (n := 12) Tryz.func92 rfl rfl rfl (Holds.start w []) ?_
  have hk : kiB c = (plainB c || decide (c = 47)) := by
    unfold kiB
    cases h : decide (c = 47) with
    | true => rw [of_decide_eq_true h]; rfl
    | false => rw [beq_eq_false_iff_ne.2 (of_decide_eq_false h)]
  rw [hk]
  cases h1 : plainB c <;> cases h2 : decide (c = 47)
  all_goals (repeat (first | refine JL.q (by first | (apply OQ.load_old; exact fnC; exact rfl; exact (block_lt_of_cell hc); exact (by simp); exact hc) | (apply OQ.callF; exact hF; exact rfl; exact rfl; exact h1) | (apply OQ.idxZ (l := [47]) (i := 0); exact Tryz.underlying9; exact rfl; exact rfl; exact (by decide)) | (apply OQ.eq8T (b := 47); exact rfl; exact rfl; exact h2) | (apply OQ.pick_t; exact rfl; exact rfl) | (apply OQ.pick_f; exact rfl; exact rfl) | (apply OQ.move; exact rfl) | (apply OQ.assign; exact rfl)) rfl ?_ | refine JC.seq ?_ | refine JC.region ?_ | refine JL.nil ?_ | refine JE.next ?_ | refine JL.gon rfl rfl ?_ | refine JL.gskip rfl rfl rfl rfl ?_))
  all_goals exact JC.ret (JE.ret1 rfl (RV.tmp rfl) fun w' hw => ⟨rfl, hw.chg⟩)
@[reducible] def kiF (a : Nat) : Value := .func (.func 92) #[] [Pt a 0].toArray
theorem fun_kind {w0 w : World} {S : List Nat} {M : List Ent} {a b : Nat} {wr wr' : Bool} (hw : Holds w0 S M w) (hM : Has M a (Row 60 [prF b]) wr) (hN : Has M b (Row 9 [Z notAtom]) wr') : Fun8 Tryz.prog w (kiF a) kiB := by
  refine ⟨_, [Pt a 0], rfl, goes_params1, fun c w' hx => params1_any a b c w' ?_ ?_⟩
  · rw [← prB_atom]
    exact (fun_printed hw hN).ext hx
  · obtain ⟨o, ho, hA⟩ := hw.get hM
    have hlt : a < w.heap.size := hw.lt hM.mem
    exact cell_of ((hx.block a hlt (by simp)).trans ho) (Row.cell rfl o hA)
theorem ki_low {c : Fld.By} (h : kiB c = true) : c.toNat < 128 := by
  unfold kiB at h
  rw [Bool.or_eq_true] at h
  rcases h with h | h
  · exact plain_low h
  · rw [eq_of_beq h]; decide
structure PaS where
  r : List Bt
  q : Acc
  L : List Pr
set_option maxHeartbeats 32000000 in
theorem paramsN_any (s : List Bt) (w : World) (hl : s.length < 1000000) : Calls Tryz.prog 65 [Z s].toArray w fun e w' => ∃ y : G2 (paramsB s).2.1, e = .returned (.tuple #[Z (paramsB s).1, y.z.v, N (paramsB s).2.2]) ∧ Holds w [] y.z.ents w' := by
  refine enter (n := 47) Tryz.func65 rfl rfl rfl (Holds.start w []) ?_
  have cB := fun w' => bareA_any s w' (by omega)
  have hbl := bareB_len s
  unfold paramsB
  rw [params_is]
  generalize (bareB s).1 = x at cB hbl ⊢
  generalize (bareB s).2 = k at cB ⊢
  cases hk : decide ((k : Int) = 0)
  · rw [if_neg (by have := of_decide_eq_false hk; omega)]
    repeat (first | refine JL.q (by first | (apply OQ.callx (vs := [Z s]); exact goes_bareA; exact rfl; exact (fun w' _ => cB w')) | (apply OQ.extract; exact rfl; exact rfl) | (apply OQ.neB (b := 0); exact rfl; exact rfl; exact hk) | (apply OQ.move; exact rfl) | (apply OQ.assign; exact rfl)) rfl ?_ | refine JC.seq ?_ | refine JC.region ?_ | refine JL.nil ?_ | refine JE.next ?_)
    refine JC.cond rfl (fun _ => ?_) (fun h => by cases h)
    repeat (first | refine JL.q (by first | (apply OQ.move; exact rfl) | (apply OQ.assign; exact rfl)) rfl ?_ | refine JC.seq ?_ | refine JC.region ?_ | refine JL.nil ?_ | refine JE.next ?_)
    refine JC.ret ?_
    repeat (refine JE.then_ret ?_)
    refine JE.ret3 rfl (RV.tmp rfl) (RV.tmp rfl) (RV.tmp rfl) ?_
    exact fun w' hw => ⟨⟨nil2, rfl, fun _ => rfl⟩, rfl, Sl.Holds.weak hw (.nil _)⟩
  rw [if_pos (by have := of_decide_eq_true hk; omega)]
  obtain ⟨k1, k2, e3, q1, q2, hpl⟩ := partL_split kiB x
  have hnl : (partL kiB x).1.length + (partL kiB x).2.length ≤ x.length := by
    conv => rhs; rw [e3]
    simp only [List.length_append]
    omega
  clear e3 q1 q2 k1 k2
  unfold paramsL
  have cP := fun (a : Nat) w' hF => partA_any x (kiF a) kiB w' hF (by omega)
  generalize (partL kiB x).1 = n at cP hpl hnl ⊢
  generalize (partL kiB x).2 = r0 at cP hpl hnl ⊢
  have cK := fun w' => isKind_any n w' (by omega)
  repeat (first | refine JL.q (by first | (apply OQ.callx (vs := [Z s]); exact goes_bareA; exact rfl; exact (fun w' _ => cB w')) | (apply OQ.extract; exact rfl; exact rfl) | (apply OQ.neB (b := 0); exact rfl; exact rfl; exact hk) | (apply OQ.move; exact rfl) | (apply OQ.assign; exact rfl)) rfl ?_ | refine JC.seq ?_ | refine JC.region ?_ | refine JL.nil ?_ | refine JE.next ?_)
  refine JC.cond rfl (fun h => by cases h) (fun _ => ?_)
  repeat (first | refine JC.seq ?_ | refine JC.region ?_ | refine JC.skip ?_ | refine JE.next ?_)
  refine JL.callg (ι := Nat) (vs := [Z notAtom]) prF (fun b => [⟨b, Row 9 [Z notAtom], true⟩]) goes_printed rfl rfl (fun b e he => by rw [List.mem_singleton.1 he]) (fun w' _ => printed_any notAtom w') fun b => ?_
  skip
  refine JL.alloc fnZ rfl fun a _ => ?_
  refine JL.store_eq (r := [.nilFunc]) (r' := [prF b]) fnS rfl rfl rfl rfl .here (by decide) rfl ?_
  repeat (first | refine JL.q (by first | (apply OQ.mkF (caps := [Pt a 0]); exact rfl) | (apply OQ.callx (vs := [Z x, kiF a]); exact goes_partA; exact rfl; exact (fun w' hw' => cP a w' (fun_kind hw' .here (.there .here)))) | (apply OQ.extract; exact rfl; exact rfl) | (apply OQ.move; exact rfl) | (apply OQ.assign; exact rfl)) rfl ?_ | refine JC.seq ?_ | refine JC.region ?_ | refine JL.nil ?_ | refine JE.next ?_)
  cases hkd : kindB n
  · rw [if_pos rfl]
    rw [hkd] at cK
    repeat (first | refine JL.q (by first | (apply OQ.callx (vs := [Z n]); exact goes_isKind; exact rfl; exact (fun w' _ => cK w')) | (apply OQ.not; exact rfl)) rfl ?_ | refine JL.nil ?_ | refine JE.next ?_)
    refine JC.cond rfl (fun _ => ?_) (fun h => by cases h)
    repeat (first | refine JL.q (by (apply OQ.assign; exact rfl)) rfl ?_ | refine JC.seq ?_ | refine JC.region ?_ | refine JL.nil ?_ | refine JE.next ?_)
    refine JC.ret ?_
    repeat (refine JE.then_ret ?_)
    refine JE.ret3 rfl (RV.tmp rfl) (RV.tmp rfl) (RV.tmp rfl) ?_
    exact fun w' hw => ⟨⟨nil2, rfl, fun _ => rfl⟩, rfl, Sl.Holds.weak hw (.nil _)⟩
  rw [if_neg (by decide)]
  rw [hkd] at cK
  repeat (first | refine JL.q (by first | (apply OQ.callx (vs := [Z n]); exact goes_isKind; exact rfl; exact (fun w' _ => cK w')) | (apply OQ.not; exact rfl)) rfl ?_ | refine JL.nil ?_ | refine JE.next ?_)
  refine JC.cond rfl (fun h => by cases h) (fun _ => ?_)
  repeat (first | refine JC.seq ?_ | refine JC.block ?_ | refine JC.skip ?_ | refine JE.next ?_)
  refine JC.loop (fun z : PaS => [(2, Z n), (3, accV z.q z.L.length), (7, Z z.r)]) (fun z => accP 38 z.q z.L ++ []) (fun z => z.r.length) (fun z => z.r.length + z.L.length ≤ s.length ∧ (z.q = none → z.L = []) ∧ listL r0 = (listL z.r).map (z.L ++ ·)) ⟨r0, none, []⟩ ⟨by dsimp only; rw [List.length_nil]; omega, fun _ => rfl, by simp⟩ (by repeat (first | exact SubE.nil | refine SubE.cons _ _ _ rfl ?_)) (.nil _) ?_
  rintro ⟨r, q, L⟩ ⟨hlen, hq, hc⟩
  dsimp only at hlen hq hc ⊢
  rw [hc]
  clear hc cP cK cB
  cases hr : decide (r = [])
  · have cA := fun w' => paramA_any r w' (by omega)
    cases hp : paramL r with
    | none =>
      rw [listL_none (of_decide_eq_false hr) hp]
      rw [hp] at cA
      repeat (first | refine JL.q (by first | (apply OQ.neSB (r := []); exact rfl; exact rfl; exact hr) | (apply OQ.move; exact rfl)) rfl ?_ | refine JC.seq ?_ | refine JC.region ?_ | refine JL.nil ?_ | refine JE.next ?_)
      refine JC.cond rfl (fun _ => ?_) (fun h => by cases h)
      repeat (first | refine JL.q (by first | (apply OQ.callx (vs := [Z r]); exact goes_paramA; exact rfl; exact (fun w' _ => cA w')) | (apply OQ.extract; exact rfl; exact rfl) | (apply OQ.move; exact rfl)) rfl ?_ | refine JC.seq ?_ | refine JC.region ?_ | refine JC.block ?_ | refine JC.skip ?_ | refine JE.next ?_)
      refine JL.alloc parZ rfl fun b8 _ => ?_
      refine JL.store_all (cs := pc ([], [])) parS rfl rfl rfl rfl .here rfl ?_
      repeat (first | refine JL.q (by first | (apply OQ.not; exact rfl) | (apply OQ.move; exact rfl) | (apply OQ.assign; exact rfl)) rfl ?_ | refine JC.seq ?_ | refine JC.region ?_ | refine JL.nil ?_ | refine JE.next ?_)
      refine JC.cond rfl (fun _ => ?_) (fun h => by cases h)
      repeat (first | refine JL.q (by (apply OQ.assign; exact rfl)) rfl ?_ | refine JC.seq ?_ | refine JC.region ?_ | refine JL.nil ?_ | refine JE.next ?_)
      refine JC.ret ?_
      repeat (first | refine JE.then_ret ?_ | refine JE.blk_ret ?_)
      refine JE.ret3 rfl (RV.tmp rfl) (RV.tmp rfl) (RV.tmp rfl) ?_
      exact fun w' hw => ⟨⟨nil2, rfl, fun _ => rfl⟩, rfl, Sl.Holds.weak hw (.nil _)⟩
    | some pz =>
      obtain ⟨p, z⟩ := pz
      rw [hp] at cA
      have hzl := paramL_len hp
      rw [listL_some hp]
      repeat (first | refine JL.q (by first | (apply OQ.neSB (r := []); exact rfl; exact rfl; exact hr) | (apply OQ.move; exact rfl)) rfl ?_ | refine JC.seq ?_ | refine JC.region ?_ | refine JL.nil ?_ | refine JE.next ?_)
      refine JC.cond rfl (fun _ => ?_) (fun h => by cases h)
      repeat (first | refine JL.q (by first | (apply OQ.callx (vs := [Z r]); exact goes_paramA; exact rfl; exact (fun w' _ => cA w')) | (apply OQ.extract; exact rfl; exact rfl) | (apply OQ.move; exact rfl)) rfl ?_ | refine JC.seq ?_ | refine JC.region ?_ | refine JC.block ?_ | refine JC.skip ?_ | refine JE.next ?_)
      refine JL.alloc parZ rfl fun b8 _ => ?_
      refine JL.store_all (cs := pc p) parS rfl rfl rfl rfl .here rfl ?_
      repeat (first | refine JL.q (by first | (apply OQ.not; exact rfl) | (apply OQ.move; exact rfl) | (apply OQ.assign; exact rfl)) rfl ?_ | refine JC.seq ?_ | refine JC.region ?_ | refine JL.nil ?_ | refine JE.next ?_)
      refine JC.cond rfl (fun h => by cases h) (fun _ => ?_)
      repeat (first | refine JL.q (by first | (apply OQ.load_agg (cs := pc p); exact parA; exact parS; exact rfl; exact .here; exact rfl; exact Row.all) | (apply OQ.move; exact rfl)) rfl ?_ | refine JC.seq ?_ | refine JC.region ?_ | refine JC.skip ?_ | refine JE.next ?_)
      refine JL.litA (cs := pc p) Tryz.underlying33 parI rfl (by decide) (by decide) rfl rfl rfl fun bl _ => ?_
      refine JL.appendP (p := p) (L := L) (M0 := []) q Tryz.underlying33 parI hq rfl rfl rfl (by omega) (by omega) rfl fun b' cap' => ?_
      repeat (first | refine JL.q (by first | (apply OQ.move; exact rfl) | (apply OQ.assign; exact rfl)) rfl ?_ | refine JC.region ?_ | refine JL.nil ?_ | refine JE.next ?_ | refine JE.blk_normal ?_)
      refine JE.again (i := PaS.mk r q L) (PaS.mk z (some (b', cap')) (L ++ [p])) ⟨?_, (fun h => by cases h), ?_⟩ hzl (by repeat (first | exact SubE.nil | refine SubE.cons _ _ _ rfl ?_)) (Less.refl _)
      · dsimp only
        rw [List.length_append, List.length_singleton]
        omega
      · dsimp only
        cases listL z with
        | none => rfl
        | some l => simp
  · obtain rfl : r = [] := of_decide_eq_true hr
    rw [listL_nil]
    have cL := fun w' => lower_any n w' (by omega) (fun c hc => ki_low (hpl c hc))
    repeat (first | refine JL.q (by first | (apply OQ.neSB (r := []); exact rfl; exact rfl; exact hr) | (apply OQ.move; exact rfl)) rfl ?_ | refine JC.seq ?_ | refine JC.region ?_ | refine JL.nil ?_ | refine JE.next ?_)
    refine JC.cond rfl (fun h => by cases h) (fun _ => ?_)
    repeat (first | refine JL.q (by first | (apply OQ.callx (vs := [Z n]); exact goes_lower; exact rfl; exact (fun w' _ => cL w')) | (apply OQ.move; exact rfl) | (apply OQ.assign; exact rfl)) rfl ?_ | refine JC.seq ?_ | refine JC.region ?_ | refine JC.exit ?_ | refine JL.nil ?_ | refine JE.next ?_ | refine JE.then_exit ?_ | refine JE.blk_hit ?_)
    refine JC.ret ?_
    refine JE.ret3 rfl (RV.tmp rfl) (RV.tmp rfl) (RV.tmp rfl) fun w' hw => ?_
    refine ⟨⟨accLp q L, ?_, fun h => ?_⟩, ?_, ?_⟩
    · rw [accLp_l hq]
      simp
    · cases q with
      | none => rfl
      | some p => cases h
    · dsimp only
      rw [accLp_v]
      rfl
    · cases q with
      | none => exact Sl.Holds.weak hw (.nil _)
      | some p => exact Sl.Holds.weak hw own2_ents
end Go.Proofs.YtbbmhkdfdgnkpaaGreatDoor

/-
  Of no statement by itself: what the landed mime's begun and readBody give.
  Conditions: each theorem's own.
-/
namespace Go.Proofs.YtbbmhkdfdgnkpaaGreatDoor
set_option maxRecDepth 10000
open Sl Fld Mim Tok
theorem goes_begun : Goes Tryz.prog 43 := ⟨_, Tryz.func43, rfl, by kernel_rfl⟩
theorem goes_rbody : Goes Tryz.prog 46 := ⟨_, Tryz.func46, rfl, by kernel_rfl⟩
theorem ltA12 : aggT Tryz.prog 41 = true := by kernel_rfl
theorem ltS12 : szT Tryz.prog 41 = some 2 := by kernel_rfl
theorem ltZ12 : zc Tryz.prog 41 = some [nil2.v, nilS.v] := by kernel_rfl
theorem bsCF : scal Tryz.prog 22 = true := by kernel_rfl
theorem OQ.build_P2 {n : Nat} {E : Env} {C : World → Prop} {dst : Option Tmp} {ty : TypeId} {pos : String} {aft : Array Edge} {g : Option (Nat × Bool)} {x y : Operand} {a : List Bt} {q : Sl2} (hx : ev E x = some (Z a)) (hy : ev E y = some q.v) : OQ Tryz.prog n E C ⟨dst, .build 36 #[(0, x), (1, y)], ty, pos, aft, g⟩ (.agg ([Z a, q.v, .int .i64 0, nilS.v, .slice none 0 0] : List Value).toArray) := by
  refine OQ.run fun k hk w _ => ?_
  have h1 := hk.eval hx
  have h2 := hk.eval hy
  have h3 := run_build (P := Tryz.prog) w 36 #[(0, Z a), (1, q.v)] ([Z a, q.v, .int .i64 0, nilS.v, .slice none 0 0] : List Value).toArray (by kernel_rfl)
  simp [execOp, h1, h2, Sem.run_bind, h3]
theorem goes_getM : Goes Tryz.prog 64 := ⟨_, Tryz.func64, rfl, by kernel_rfl⟩
set_option maxHeartbeats 16000000 in
theorem begun_any (f : Sl2) (s : Sl8) (w : World) (hf : f.ok w) (hz : small2 f) (hl : f.l.length ≤ 1000000) (hv : ∀ p ∈ f.l, sameB p.1 ctN = true → p.2.length ≤ 999999) : Calls Tryz.prog 43 [.agg #[f.v, s.v]].toArray w
    fun e w' => ∃ y : G2 (typB f.l).2.1, e = .returned (.tuple #[.agg ([Z (typB f.l).1, y.z.v, .int .i64 0, nilS.v, .slice none 0 0] : List Value).toArray, N (typB f.l).2.2]) ∧ Holds w [] y.z.ents w' := by
  refine enter (n := 27) Tryz.func43 rfl rfl rfl (Holds.start w []) ?_
  refine JC.seq (JC.region (JL.box (r := [f.v, s.v]) rfl rfl rfl fun b1 _ => ?_))
  refine JL.alloc (r := pz) ?_ ?_ fun b2 _ => ?_
  exact ptZ9
  rfl
  have cg := fun (M : List Ent) (w' : World) (hw' : Holds w [] M w') => lget_any f s ctW w' (hf.holds hw' rfl) hz hl
  rw [all_ctW] at cg
  have hlow := head_low (n := ctN) hv
  cases hA : allB ctN f.l with
  | nil =>
    have hT : typB f.l = (tpN, [], 0) := by unfold typB; rw [hA]
    rw [hA] at cg
    rw [hT]
    repeat (first | refine JL.q (by first | (apply OQ.load_agg (cs := [f.v, s.v]); exact ltA12; exact ltS12; exact rfl; exact (.there .here); exact rfl; exact Row.all) | (apply OQ.callx (vs := [.agg #[f.v, s.v], Z ctW]); exact goes_getM; exact rfl; exact (cg _)) | (apply OQ.extract; exact rfl; exact rfl) | (apply OQ.not; exact rfl) | (apply OQ.move; exact rfl) | (apply OQ.assign; exact rfl)) rfl ?_ | refine JC.seq ?_ | refine JC.region ?_ | refine JL.nil ?_ | refine JE.next ?_)
    refine JC.cond rfl (fun _ => ?_) (fun h => by cases h)
    refine JC.seq (JC.region ?_)
    refine JL.q (OQ.build_P1 (a := tpN)) rfl ?_
    refine JL.store_all (cs := [Z tpN, nil2.v, .int .i64 0, nilS.v, .slice none 0 0]) ptS rfl rfl rfl rfl .here rfl ?_
    repeat (first | refine JL.q (by (apply OQ.assign; exact rfl)) rfl ?_ | refine JL.nil ?_ | refine JE.next ?_)
    refine JC.ret ?_
    refine JE.then_ret ?_
    exact JE.ret2 rfl (RV.cell_agg ptA9 ptS rfl .here rfl Row.all) (RV.tmp rfl) fun w' hw => ⟨⟨nil2, rfl, fun _ => rfl⟩, rfl, hw.weak (.nil _)⟩
  | cons v l =>
    have hT : typB f.l = paramsB v := by unfold typB; rw [hA]
    rw [hA] at cg hlow
    rw [hT]
    have hvl : v.length < 1000000 := by have : v.length ≤ 999999 := hlow; omega
    repeat (first | refine JL.q (by first | (apply OQ.load_agg (cs := [f.v, s.v]); exact ltA12; exact ltS12; exact rfl; exact (.there .here); exact rfl; exact Row.all) | (apply OQ.callx (vs := [.agg #[f.v, s.v], Z ctW]); exact goes_getM; exact rfl; exact (cg _)) | (apply OQ.extract; exact rfl; exact rfl) | (apply OQ.not; exact rfl) | (apply OQ.move; exact rfl) | (apply OQ.assign; exact rfl)) rfl ?_ | refine JC.seq ?_ | refine JC.region ?_ | refine JL.nil ?_ | refine JE.next ?_)
    refine JC.cond rfl (fun h => by cases h) (fun _ => ?_)
    repeat (first | refine JL.q (by (apply OQ.move; exact rfl)) rfl ?_ | refine JC.seq ?_ | refine JC.region ?_ | refine JC.skip ?_ | refine JE.next ?_)
    refine JL.callg (ι := G2 (paramsB v).2.1) (vs := [Z v]) (fun y => .tuple #[Z (paramsB v).1, y.z.v, N (paramsB v).2.2]) (fun y => y.z.ents) goes_paramsA rfl rfl (fun y => y.z.ents_wr) (fun w' _ => paramsN_any v w' hvl) ?_
    intro y
    repeat (first | refine JL.q (by first | (apply OQ.extract; exact rfl; exact rfl) | (apply OQ.build_P2 (q := y.z); exact rfl; exact rfl) | (apply OQ.move; exact rfl) | (apply OQ.assign; exact rfl)) rfl ?_ | refine JC.seq ?_ | refine JC.region ?_ | refine JL.nil ?_ | refine JE.next ?_)
    refine JL.perm (M' := [⟨b2, Row 36 pz, true⟩, ⟨b1, Row 41 [f.v, s.v], true⟩] ++ y.z.ents) ?_ List.perm_append_comm
    refine JL.store_all (cs := [Z (paramsB v).1, y.z.v, .int .i64 0, nilS.v, .slice none 0 0]) ptS rfl rfl rfl rfl .here rfl ?_
    repeat (first | refine JL.q (by (apply OQ.assign; exact rfl)) rfl ?_ | refine JL.nil ?_ | refine JE.next ?_)
    refine JC.ret ?_
    exact JE.ret2 rfl (RV.cell_agg ptA9 ptS rfl .here rfl Row.all) (RV.tmp rfl) fun w' hw => ⟨y, rfl, hw.weak (.drop _ _ _ (.drop _ _ _ (Less.refl _)))⟩
/-- a leaf's bytes as an answer -/
structure RB (f : List PrB) (b : List Fld.By) where
  c : Int
  x : Sl8
  k : Nat
  nn : x.ad = none → x.l = []
  is : match codB (ceB f) with
    | none => k = 3
    | some c' => match bodyR Quo.Qd c' b with
      | .error e => k = e ∧ e ≠ 0
      | .ok y => k = 0 ∧ c = c' ∧ x.l = y
theorem cod_three {c : List Fld.By} {k : Int} (h : codB c = some k) : k = 0 ∨ k = 1 ∨ k = 2 := by
  unfold codB at h
  split at h
  · cases h; exact .inr (.inl rfl)
  · split at h
    · cases h; exact .inr (.inr rfl)
    · split at h
      · cases h; exact .inl rfl
      · cases h
set_option maxHeartbeats 32000000 in
theorem rbody_any (f : Sl2) (s : Sl8) (w : World) (hE : EncOk w) (hf : f.ok w) (hs : s.ok w) (hz : small2 f) (hl : f.l.length ≤ 1000000) (hb : s.l.length ≤ 20000) (hv : ∀ p ∈ f.l, sameB p.1 ceN = true → p.2.length ≤ 999999) : Calls Tryz.prog 46 [.agg #[f.v, s.v]].toArray w
    fun e w' => ∃ r : RB f.l s.l, e = .returned (.tuple #[.int .i64 r.c, r.x.v, N r.k]) ∧ Holds w [] r.x.ents w' := by
  refine enter (n := 44) Tryz.func46 rfl rfl rfl (Holds.start w []) ?_
  refine JC.seq (JC.region (JL.box (r := [f.v, s.v]) rfl rfl rfl fun b1 _ => ?_))
  have cg := fun (M : List Ent) (w' : World) (hw' : Holds w [] M w') => lget_any f s ceW w' (hf.holds hw' rfl) hz hl
  rw [all_ceW] at cg
  have hlow := head_low (n := ceN) hv
  have hce := ceB_head f.l
  have tl := trim_len ((allB ceN f.l).headD [])
  generalize (!(allB ceN f.l).isEmpty) = fnd at cg
  have ct := fun w' => trimw_any ((allB ceN f.l).headD []) w' (by omega)
  generalize (allB ceN f.l).headD [] = v at cg hlow hce ct tl
  have ce := fun (M : List Ent) (w' : World) (hw' : Holds w [] M w') => encof_any (trim v) w' (hE.holds hw')
  rw [← hce] at ce
  generalize trim v = tv at ce ct
  have hR : ∀ (c : Int) (x : Sl8) (k : Nat) (hn : x.ad = none → x.l = []) (h : match codB (ceB f.l) with
    | none => k = 3
    | some c' => match bodyR Quo.Qd c' s.l with
      | .error e => k = e ∧ e ≠ 0
      | .ok y => k = 0 ∧ c = c' ∧ x.l = y), ∃ r : RB f.l s.l, r.c = c ∧ r.x = x ∧ r.k = k := fun c x k hn h => ⟨⟨c, x, k, hn, h⟩, rfl, rfl, rfl⟩
  have hc3 := fun k => cod_three (c := ceB f.l) (k := k)
  cases hC : codB (ceB f.l) with
  | none =>
    rw [hC] at ce hR
    repeat (first | refine JL.q (by first | (apply OQ.load_agg (cs := [f.v, s.v]); exact ltA12; exact ltS12; exact rfl; exact .here; exact rfl; exact Row.all) | (apply OQ.callx (vs := [.agg #[f.v, s.v], Z ceW]); exact goes_getM; exact rfl; exact (cg _)) | (apply OQ.callx (vs := [Z v, Z [32, 9]]); exact goes_trimw; exact rfl; exact (fun w' _ => ct w')) | (apply OQ.callx (vs := [Z tv]); exact goes_encof; exact rfl; exact (ce _)) | (apply OQ.extract; exact rfl; exact rfl) | (apply OQ.not; exact rfl) | (apply OQ.move; exact rfl) | (apply OQ.assign; exact rfl)) rfl ?_ | refine JC.seq ?_ | refine JC.region ?_ | refine JL.nil ?_ | refine JE.next ?_)
    refine JC.cond rfl (fun _ => ?_) (fun h => by cases h)
    repeat (first | refine JL.q (by (apply OQ.assign; exact rfl)) rfl ?_ | refine JC.seq ?_ | refine JC.region ?_ | refine JL.nil ?_ | refine JE.next ?_)
    refine JC.ret ?_
    repeat (refine JE.then_ret ?_)
    refine JE.ret3 rfl (RV.tmp rfl) (RV.tmp rfl) (RV.tmp rfl) fun w' hw => ?_
    obtain ⟨r, h1, h2, h3⟩ := hR 0 nilS 3 (fun _ => rfl) rfl
    exact ⟨r, by rw [h1, h2, h3]; rfl, by rw [h2]; exact hw.weak (.nil _)⟩
  | some c =>
    have hc3 := hc3 c hC
    rw [hC] at ce hR
    repeat (first | refine JL.q (by first | (apply OQ.load_agg (cs := [f.v, s.v]); exact ltA12; exact ltS12; exact rfl; exact .here; exact rfl; exact Row.all) | (apply OQ.callx (vs := [.agg #[f.v, s.v], Z ceW]); exact goes_getM; exact rfl; exact (cg _)) | (apply OQ.callx (vs := [Z v, Z [32, 9]]); exact goes_trimw; exact rfl; exact (fun w' _ => ct w')) | (apply OQ.callx (vs := [Z tv]); exact goes_encof; exact rfl; exact (ce _)) | (apply OQ.extract; exact rfl; exact rfl) | (apply OQ.not; exact rfl) | (apply OQ.move; exact rfl) | (apply OQ.assign; exact rfl)) rfl ?_ | refine JC.seq ?_ | refine JC.region ?_ | refine JL.nil ?_ | refine JE.next ?_)
    refine JC.cond rfl (fun h => by cases h) (fun _ => ?_)
    rcases hc3 with rfl | rfl | rfl
    · have d1 : decide ((0 : Int) = 1) = false := rfl
      have d2 : decide ((0 : Int) = 2) = false := rfl
      have hbr : bodyR Quo.Qd 0 s.l = .ok s.l := rfl
      repeat (first | refine JL.q (by first | (apply OQ.eqB (a := 0) (b := 1); exact rfl; exact rfl; exact d1) | (apply OQ.move; exact rfl) | (apply OQ.assign; exact rfl)) rfl ?_ | refine JC.seq ?_ | refine JC.region ?_ | refine JC.block ?_ | refine JC.skip ?_ | refine JL.nil ?_ | refine JE.next ?_)
      refine JC.cond rfl (fun h => by cases h) (fun _ => ?_)
      repeat (first | refine JL.q (by first | (apply OQ.eqB (a := 0) (b := 2); exact rfl; exact rfl; exact d2) | (apply OQ.assign; exact rfl)) rfl ?_ | refine JC.seq ?_ | refine JC.region ?_ | refine JL.nil ?_ | refine JE.next ?_)
      refine JC.cond rfl (fun h => by cases h) (fun _ => ?_)
      repeat (first | refine JL.q (by first | (apply OQ.load; exact bsCF; exact rfl; exact .here; exact (Row.cell (v := s.v) rfl)) | (apply OQ.fld; exact rfl; exact rfl; exact rfl; exact (by decide); exact rfl)) rfl ?_ | refine JC.region ?_)
      refine JL.callg (ι := { q : Acc // q = none → s.l = [] }) (vs := [s.v]) (fun q => accV q.1 s.l.length) (fun q => accE 5 q.1 (s.l.map U8)) goes_clone rfl rfl (fun q => accE_wr _ _ _) (fun w' hw' => (clone_any s w' (hs.holds hw' rfl) (by omega)).mono fun e w2 ⟨q, h1, h2, h3⟩ => ⟨⟨q, h2⟩, h1, h3⟩) ?_
      rintro ⟨q, hq⟩
      dsimp only
      repeat (first | refine JL.q (by first | (apply OQ.move; exact rfl) | (apply OQ.assign; exact rfl)) rfl ?_ | refine JC.seq ?_ | refine JC.region ?_ | refine JL.nil ?_ | refine JE.next ?_ | refine JE.blk_normal ?_)
      refine JC.ret ?_
      refine JE.ret3 rfl (RV.tmp rfl) (RV.tmp rfl) (RV.tmp rfl) fun w' hw => ?_
      obtain ⟨r, h1, h2, h3⟩ := hR 0 (accS q s.l) 0 accS_none (by dsimp only; rw [hbr]; exact ⟨rfl, rfl, accS_l hq⟩)
      refine ⟨r, by rw [h1, h2, h3, accS_v]; rfl, ?_⟩
      rw [h2]
      exact (Sl.Holds.weak hw (less_pre _ _)).weak (accS_ents q s.l)
    · have d1 : decide ((1 : Int) = 1) = true := rfl
      have hbr : bodyR Quo.Qd 1 s.l = armR s.l := rfl
      repeat (first | refine JL.q (by first | (apply OQ.eqB (a := 1) (b := 1); exact rfl; exact rfl; exact d1) | (apply OQ.move; exact rfl) | (apply OQ.assign; exact rfl)) rfl ?_ | refine JC.seq ?_ | refine JC.region ?_ | refine JC.block ?_ | refine JC.skip ?_ | refine JL.nil ?_ | refine JE.next ?_)
      refine JC.cond rfl (fun _ => ?_) (fun h => by cases h)
      repeat (first | refine JL.q (by first | (apply OQ.load; exact bsCF; exact rfl; exact .here; exact (Row.cell (v := s.v) rfl)) | (apply OQ.fld; exact rfl; exact rfl; exact rfl; exact (by decide); exact rfl)) rfl ?_ | refine JC.region ?_)
      refine JL.callg (ι := { x : Sl8 // Ans x ((Arm.decB (Arm.bare s.l)).getD []) }) (vs := [s.v]) (fun x => .tuple #[x.1.v, N (ecode (Arm.decB (Arm.bare s.l)))]) (fun x => x.1.ents) goes_aread rfl rfl (fun x => x.1.ents_wr) (fun w' hw' => (aread_any s w' (hs.holds hw' rfl) hb).mono fun e w2 ⟨x, h1, h2, h3⟩ => ⟨⟨x, h2⟩, h1, h3⟩) ?_
      rintro ⟨x, hx⟩
      dsimp only
      repeat (first | refine JL.q (by first | (apply OQ.extract; exact rfl; exact rfl) | (apply OQ.move; exact rfl) | (apply OQ.assign; exact rfl)) rfl ?_ | refine JC.seq ?_ | refine JC.region ?_ | refine JL.nil ?_ | refine JE.next ?_ | refine JE.blk_normal ?_)
      refine JC.ret ?_
      refine JE.ret3 rfl (RV.tmp rfl) (RV.tmp rfl) (RV.tmp rfl) fun w' hw => ?_
      obtain ⟨r, h1, h2, h3⟩ := hR 1 x (ecode (Arm.decB (Arm.bare s.l))) hx.none (by
        dsimp only
        rw [hbr]
        unfold armR
        have hxl := hx.val
        cases hd : Arm.decB (Arm.bare s.l) with
        | none => exact ⟨rfl, by decide⟩
        | some y =>
          rw [hd] at hxl
          exact ⟨rfl, rfl, hxl⟩)
      refine ⟨r, by rw [h1, h2, h3]; rfl, ?_⟩
      rw [h2]
      exact Sl.Holds.weak hw (less_pre _ _)
    · have d1 : decide ((2 : Int) = 1) = false := rfl
      have d2 : decide ((2 : Int) = 2) = true := rfl
      have hbr : bodyR Quo.Qd 2 s.l = Quo.Qd s.l := rfl
      repeat (first | refine JL.q (by first | (apply OQ.eqB (a := 2) (b := 1); exact rfl; exact rfl; exact d1) | (apply OQ.move; exact rfl) | (apply OQ.assign; exact rfl)) rfl ?_ | refine JC.seq ?_ | refine JC.region ?_ | refine JC.block ?_ | refine JC.skip ?_ | refine JL.nil ?_ | refine JE.next ?_)
      refine JC.cond rfl (fun h => by cases h) (fun _ => ?_)
      repeat (first | refine JL.q (by first | (apply OQ.eqB (a := 2) (b := 2); exact rfl; exact rfl; exact d2) | (apply OQ.assign; exact rfl)) rfl ?_ | refine JC.seq ?_ | refine JC.region ?_ | refine JL.nil ?_ | refine JE.next ?_)
      refine JC.cond rfl (fun _ => ?_) (fun h => by cases h)
      repeat (first | refine JL.q (by first | (apply OQ.load; exact bsCF; exact rfl; exact .here; exact (Row.cell (v := s.v) rfl)) | (apply OQ.fld; exact rfl; exact rfl; exact rfl; exact (by decide); exact rfl)) rfl ?_ | refine JC.region ?_)
      refine JL.callg (ι := { x : Sl8 // Ans x (Quo.outQ (Quo.decQ s.l)) }) (vs := [s.v]) (fun x => .tuple #[x.1.v, N (Quo.codeQ (Quo.decQ s.l))]) (fun x => x.1.ents) goes_qdec rfl rfl (fun x => x.1.ents_wr) (fun w' hw' => (qdec_any s w' (hs.holds hw' rfl) (by omega)).mono fun e w2 ⟨x, h1, h2, h3⟩ => ⟨⟨x, h2⟩, h1, h3⟩) ?_
      rintro ⟨x, hx⟩
      dsimp only
      repeat (first | refine JL.q (by first | (apply OQ.extract; exact rfl; exact rfl) | (apply OQ.move; exact rfl) | (apply OQ.assign; exact rfl)) rfl ?_ | refine JC.seq ?_ | refine JC.region ?_ | refine JL.nil ?_ | refine JE.next ?_ | refine JE.blk_normal ?_)
      refine JC.ret ?_
      refine JE.ret3 rfl (RV.tmp rfl) (RV.tmp rfl) (RV.tmp rfl) fun w' hw => ?_
      obtain ⟨r, h1, h2, h3⟩ := hR 2 x (Quo.codeQ (Quo.decQ s.l)) hx.none (by
        dsimp only
        rw [hbr]
        unfold Quo.Qd
        have hxl := hx.val
        cases hd : Quo.decQ s.l with
        | none => exact ⟨rfl, by decide⟩
        | some y =>
          rw [hd] at hxl
          exact ⟨rfl, rfl, hxl⟩)
      refine ⟨r, by rw [h1, h2, h3]; rfl, ?_⟩
      rw [h2]
      exact Sl.Holds.weak hw (less_pre _ _)
end Go.Proofs.YtbbmhkdfdgnkpaaGreatDoor

/-
  Of no statement by itself: what mime's functions owe (MimeOk); over it: what despatchlaw12's speaks and MimeSplits give.
  Conditions: MimeOk, and each theorem's own.
-/
namespace Go.Proofs.YtbbmhkdfdgnkpaaGreatDoor
set_option maxRecDepth 10000
open Sl Fld Mim
def codeE {α : Type} : Except Nat α → Nat
  | .ok _ => 0
  | .error k => k
def fstE : Except Nat (List Pr × List Bt) → List Pr
  | .ok x => x.1
  | .error _ => []
def sndE : Except Nat (List Pr × List Bt) → List Bt
  | .ok x => x.2
  | .error _ => []
/-- what is looked at of a part that is written -/
def lowP : Nat → Part → Prop
  | 0, _ => True
  | d + 1, p => p.kind.length ≤ 1000 ∧ p.ps.length ≤ 10 ∧ (∀ q ∈ p.ps, q.1.length ≤ 1000 ∧ q.2.length ≤ 1000) ∧ 0 ≤ p.code ∧ p.code ≤ 2 ∧ p.body.length ≤ 4000 ∧ p.parts.length ≤ 5 ∧ ∀ q ∈ p.parts, lowP d q
structure MimeOk (Qd : List Fld.By → Except Nat (List Fld.By)) : Prop where
  bound : ∀ (s : List Bt) (w : World), s.length ≤ 1000 → Calls Tryz.prog 10 [Z s].toArray w fun e w' => e = .returned (.bool (boundB s)) ∧ Ext w w'
  split : ∀ (s : Sl8) (bd : List Bt) (w : World), s.ok w → s.l.length ≤ 100000 → bd.length ≤ 1000 → Calls Tryz.prog 8 [s.v, Z bd].toArray w fun e w' => ∃ q : { q : SlL // q.ls = (spltB s.l bd).1 }, e = .returned (.tuple #[q.1.v, N (spltB s.l bd).2]) ∧ Ext w w' ∧ q.1.ok w'
  read : ∀ (f : Sl2) (s : Sl8) (w : World), EncOk w → f.ok w → s.ok w → small2 f → f.l.length ≤ 60 → s.l.length ≤ 20000 → (∀ p ∈ f.l, sameB p.1 ctN = true ∨ sameB p.1 ceN = true → p.2.length ≤ 10000) → Calls Tryz.prog 14 [.agg #[f.v, s.v]].toArray w fun e w' => ∃ cs : { cs : List Value // cs.length = 5 }, e = .returned (.tuple #[.agg cs.1.toArray, N (codeE (readP Qd 8 f.l s.l))]) ∧ Ext w w' ∧ ∀ p, readP Qd 8 f.l s.l = .ok p → IsPart 10 w' p cs.1
structure MimeW : Prop where
  write : ∀ (Qe : List Fld.By → List Fld.By) (p : Part) (cs : List Value) (w : World), EncOk w → IsPart 10 w p cs → noQ 9 p → lowP 10 p → Calls Tryz.prog 13 [.agg cs.toArray].toArray w fun e w' => ∃ x : { x : Sl2 × Sl8 // x.1.l = fstE (writeP Qe 8 p) ∧ x.2.l = sndE (writeP Qe 8 p) }, e = .returned (.tuple #[.agg #[x.1.1.v, x.1.2.v], N (codeE (writeP Qe 8 p))]) ∧ Ext w w' ∧ (x.1.1.ok w' ∧ x.1.2.ok w')
theorem goes_msplit : Goes Tryz.prog 8 := ⟨_, Tryz.func8, rfl, by kernel_rfl⟩
theorem goes_mread : Goes Tryz.prog 14 := ⟨_, Tryz.func14, rfl, by kernel_rfl⟩
theorem goes_speaks12 : Goes Tryz.prog 7 := ⟨_, Tryz.func7, rfl, by kernel_rfl⟩
def egS : List Fld.By := [45, 45, 120, 10, 97, 10, 45, 45, 120, 45, 45]
theorem egS_is : spltB egS [120] = ([[97]], 0) := by
  rw [spltB_is egS (by decide)]
  have e1 : linB egS = [([45, 45, 120], [10]), ([97], [10]), ([45, 45, 120, 45, 45], [])] := by decide
  rw [e1]
  have e2 : (List.dropWhile (fun x : List Fld.By × List Fld.By => markB [120] x.1 != 1) [([45, 45, 120], [10]), ([97], [10]), ([45, 45, 120, 45, 45], [])]) = [([45, 45, 120], [10]), ([97], [10]), ([45, 45, 120, 45, 45], [])] := by decide
  rw [e2, splL_1 (by decide)]
  have e3 : colR [120] [([97], [10]), ([45, 45, 120, 45, 45], [])] [] [] = ([97], [([45, 45, 120, 45, 45], [])]) := by decide
  rw [e3, splL_2 (by decide)]
  rfl
theorem egR_is (Qd : List Fld.By → Except Nat (List Fld.By)) : readP Qd 8 [] [] = .ok (.mk tpN [] 0 [] []) := by
  rfl
theorem build_L0 {n : Nat} {E : Env} {C : World → Prop} {dst : Option Tmp} {ty : TypeId} {pos : String} {aft : Array Edge} {g : Option (Nat × Bool)} : OQ Tryz.prog n E C ⟨dst, .build 41 #[], ty, pos, aft, g⟩ (.agg #[nil2.v, nilS.v]) := by
  refine OQ.run fun k hk w _ => ?_
  have h3 := run_build (P := Tryz.prog) w 41 #[] #[nil2.v, nilS.v] (by kernel_rfl)
  simp [execOp, Sem.run_bind, h3]
theorem ptZ : zc Tryz.prog 36 = some [Z [], .slice none 0 0, .int .i64 0, .slice none 0 0, .slice none 0 0] := by kernel_rfl
set_option maxHeartbeats 16000000 in
theorem speaks12_any {Qd : List Fld.By → Except Nat (List Fld.By)} (hM : MimeOk Qd) (w : World) (hE : EncOk w) : Calls Tryz.prog 7 ([] : List Value).toArray w fun e w' => e = .returned (.bool true) ∧ Ext w w' := by
  refine enter (n := 39) Tryz.func7 rfl rfl rfl (Holds.start w []) ?_
  repeat (first | refine JL.q (by (apply OQ.assign; exact rfl)) rfl ?_ | refine JC.seq ?_ | refine JC.region ?_ | refine JL.nil ?_ | refine JE.next ?_)
  refine JL.litL (xs := egS.map fun c => .const (U8 c)) (vs := egS.map U8) Tryz.underlying22 u8e rfl rfl rfl rfl (fun v hv => by obtain ⟨c, _, rfl⟩ := List.mem_map.1 hv; rfl) rfl (by decide) (by decide) rfl fun b1 _ => ?_
  refine JL.mark (r := egS.map U8) (te := 5) Tryz.underlying22 Tryz.underlying5 rfl .here rfl ?_
  refine JL.callw (vs := [Sl8.v ⟨some ⟨b1, 0, none⟩, 11, egS⟩, Z [120]]) (S' := []) (ι := { q : SlL // q.ls = (spltB egS [120]).1 }) (fun q => .tuple #[q.1.v, N (spltB egS [120]).2]) (fun q w2 => q.1.ok w2) [] goes_msplit rfl rfl (fun w' hw' => hM.split ⟨some ⟨b1, 0, none⟩, 11, egS⟩ [120] w' ⟨(show egS.length ≤ 11 by decide), (by obtain ⟨o, ho, hA⟩ := hw'.get .here; exact Reads.block ho (Frz.all _ hA))⟩ (show egS.length ≤ 100000 by decide) (show 1 ≤ 1000 by decide)) (.nil _) nofun ?_
  rintro ⟨q, hq⟩ w1 hw1 okq
  dsimp only at hq okq ⊢
  have hx1 : Ext w w1 := hw1.chg
  clear hw1
  rw [egS_is] at hq ⊢
  dsimp only at hq ⊢
  obtain ⟨hr, hxe⟩ := ls_at (s := q) (xs := [[97]]) (f := id) (d := []) hq (i := 0) (by decide)
  have nq : q.rs.length = 1 := by rw [← List.length_map (f := Sl8.l)]; show q.ls.length = _; rw [hq]; rfl
  repeat (first | refine JL.q (by first | (apply OQ.extract; exact rfl; exact rfl) | (apply build_L0) | (apply OQ.move; exact rfl) | (apply OQ.assign; exact rfl)) rfl ?_ | refine JC.seq ?_ | refine JC.region ?_ | refine JL.nil ?_ | refine JE.next ?_)
  refine JL.callw (vs := [.agg #[nil2.v, nilS.v]]) (S' := []) (ι := { cs : List Value // cs.length = 5 }) (fun cs => .tuple #[.agg cs.1.toArray, N (codeE (readP Qd 8 [] []))]) (fun cs w2 => ∀ p, readP Qd 8 [] [] = .ok p → IsPart 10 w2 p cs.1) [] goes_mread rfl rfl (fun w' hw' => hM.read nil2 nilS w' ((hE.ext hx1).holds hw') (nil2_ok w') (nilS_ok w') nofun (by decide) (by decide) nofun) (.nil _) nofun ?_
  rintro ⟨cs, hcs⟩ w2 hw2 hP
  dsimp only at hP ⊢
  replace hx1 := hx1.trans hw2.chg
  replace okq : q.ok w2 := okq.holds hw2 rfl
  clear hw2
  obtain ⟨ps, body, ad, cap, subs, rfl, _⟩ := hP _ (egR_is Qd)
  rw [egR_is]
  obtain ⟨bL, jL, eL, lL, cL, hx⟩ := okq.at hr
  have vL : q.v = .slice (some ⟨bL, jL, none⟩) q.rs.length q.cap := by rw [← eL]; rfl
  have hxe' : (q.rs.getD 0 nilS).l = [97] := hxe
  have h1 : decide ((q.rs.length : Int) = ((1 : Nat) : Int)) = true := decide_eq_true (by omega)
  have h0 : decide (((0 : Nat) : Int) = ((0 : Nat) : Int)) = true := rfl
  repeat (refine JL.q (by first | (apply OQ.extract; exact rfl; exact rfl) | (apply OQ.move; exact rfl)) rfl ?_)
  refine JL.alloc ptZ rfl fun b3 _ => ?_
  refine JL.store_all (cs := [Z (Part.kind (.mk tpN [] 0 [] [])), ps.v, .int .i64 (Part.code (.mk tpN [] 0 [] [])), body.v, .slice ad (Part.parts (.mk tpN [] 0 [] [])).length cap]) ptS rfl rfl rfl rfl .here rfl ?_
  rw [vL]
  repeat (first | refine JL.q (by first | (apply OQ.eqB (a := ((0 : Nat) : Int)) (b := ((0 : Nat) : Int)); exact rfl; exact rfl; exact h0) | (apply OQ.len; exact Tryz.underlying24; exact rfl) | (apply OQ.eqB (a := (q.rs.length : Int)) (b := ((1 : Nat) : Int)); exact rfl; exact rfl; exact h1) | (apply OQ.idxS1; exact Tryz.underlying24; exact sleS; exact rfl; exact rfl; exact hr) | (apply OQ.load_old; exact bsC12; exact rfl; exact lL; exact (by simp); exact cL) | (apply OQ.b2s (s := q.rs.getD 0 nilS); exact Tryz.underlying22; exact Tryz.underlying5; exact Tryz.underlying9; exact rfl; exact (fun w' hw' => hx.holds hw' rfl)) | (apply OQ.eqS_t (l := (q.rs.getD 0 nilS).l) (r := [97]); exact rfl; exact rfl; exact hxe') | (apply OQ.load; exact strC; exact rfl; exact .here; exact (Row.cell (v := Z tpN) rfl)) | (apply OQ.eqS_t (l := tpN) (r := tpN); exact rfl; exact rfl; exact rfl) | (apply OQ.pick_t; exact rfl; exact rfl) | (apply OQ.move; exact rfl) | (apply OQ.assign; exact rfl) | (apply OQ.fld; exact rfl; exact rfl; exact rfl; exact (by decide); exact rfl)) rfl ?_ | refine JC.seq ?_ | refine JC.region ?_ | refine JL.nil ?_ | refine JE.next ?_ | refine JL.gon rfl rfl ?_)
  refine JC.ret (JE.ret1 rfl (RV.tmp rfl) ?_)
  exact fun w' hw => ⟨rfl, hx1.trans hw.chg⟩
end Go.Proofs.YtbbmhkdfdgnkpaaGreatDoor

/-
  Of no statement by itself: what the landed letter's Drop and Set give.
  Conditions: each theorem's own.
-/
namespace Go.Proofs.YtbbmhkdfdgnkpaaGreatDoor
set_option maxRecDepth 10000
open Sl Fld
theorem accP_ents {e : TypeId} (q : Acc) (l : List Pr) : Less (accLp q l).ents (accP e q l) := by
  cases q with
  | none => exact .nil _
  | some p => exact own2_ents
theorem accLp_n {q : Acc} {l : List Pr} : (accLp q l).ad = none → (accLp q l).l = [] := by
  cases q with
  | none => intro _; rfl
  | some p => nofun
end Go.Proofs.YtbbmhkdfdgnkpaaGreatDoor

/-
  Of no statement by itself: what the landed letter's Set gives; Drop's and Set's answers as new memory.
  Conditions: each theorem's own.
-/
namespace Go.Proofs.YtbbmhkdfdgnkpaaGreatDoor
set_option maxRecDepth 10000
open Sl Fld
theorem JC.perm {P : Program} {n : Nat} {w0 : World} {S : List Nat} {Q : Exit → Act → World → Prop} {c : Code} {E : Env} {M M' : List Ent} (h : JC P n w0 S Q c E M') (hp : M.Perm M') : JC P n w0 S Q c E M := ⟨fun a w ha hw => h.go a w ha (hw.perm' hp)⟩
theorem OQ.lenV {P : Program} {n : Nat} {E : Env} {C : World → Prop} {dst : Option Tmp} {t ty e : TypeId} {pos : String} {aft : Array Edge} {g : Option (Nat × Bool)} {x : Operand} {q : Acc} {k : Nat} (hu : P.underlying t = some (.slice e)) (hx : ev E x = some (accV q k)) (hq : q = none → k = 0) : OQ P n E C ⟨dst, .call ⟨.builtin .len, #[x], #[t]⟩, ty, pos, aft, g⟩ (N k) := by
  cases q with
  | none => rw [hq rfl]; exact OQ.len hu hx
  | some r => exact OQ.len hu hx
end Go.Proofs.YtbbmhkdfdgnkpaaGreatDoor

/-
  Of no statement by itself: what the landed letter's head and Write give; so letter's functions owe nothing (letterOk).
  Conditions: each theorem's own.
-/
namespace Go.Proofs.YtbbmhkdfdgnkpaaGreatDoor
set_option maxRecDepth 10000
open Sl Fld
namespace Fld
def mkS (m : List By) (p : Pr) : List By := if m.length ≤ 65536 then m ++ foldB p.1 p.2 else m
def mkH (l : List Pr) : List By := l.foldl mkS []
def allG (l : List Pr) : Bool := l.all fun p => goodF p.1 p.2
def hdO (l : List Pr) : List By := if allG l then mkH l ++ [13, 10] else []
def hdK (l : List Pr) : Nat := if allG l then 0 else 3
theorem mk_fold : ∀ (l : List Pr) (m : List By), (m.length + (headB l).length ≤ 65536 → l.foldl mkS m = m ++ headB l) ∧ (65536 < m.length + (headB l).length → 65536 < (l.foldl mkS m).length)
  | [], m => ⟨fun _ => by simp [headB], fun h => by simpa [headB] using h⟩
  | p :: l, m => by
    obtain ⟨i1, i2⟩ := mk_fold l (mkS m p)
    have e : (headB (p :: l)) = foldB p.1 p.2 ++ headB l := by simp [headB]
    rw [e, List.length_append, List.foldl_cons]
    by_cases hm : m.length ≤ 65536
    · have hs : mkS m p = m ++ foldB p.1 p.2 := if_pos hm
      rw [hs, List.length_append] at i1 i2
      rw [hs]
      exact ⟨fun h => by rw [i1 (by omega), List.append_assoc], fun h => i2 (by omega)⟩
    · have hs : mkS m p = m := if_neg hm
      rw [hs] at i1 i2
      rw [hs]
      exact ⟨fun h => by omega, fun h => i2 (by omega)⟩
theorem writeK_is (l : List Pr) (b : List By) : writeK l b = if allG l then (if 200 < l.length ∨ 65536 < (hdO l).length ∨ 2097152 < (hdO l).length + b.length then 4 else 0) else 3 := by
  have ha : (l.all fun p => nameB p.1 && valB p.2) = allG l := rfl
  unfold writeK
  rw [ha]
  cases hg : allG l
  · rfl
  · have ho : hdO l = mkH l ++ [13, 10] := by rw [hdO, hg]; rfl
    rw [if_pos rfl, if_pos rfl, ho, List.length_append]
    obtain ⟨i1, i2⟩ := mk_fold l []
    simp only [List.length_nil, Nat.zero_add, List.nil_append] at i1 i2
    have hk : l.foldl mkS [] = mkH l := rfl
    rw [hk] at i1 i2
    by_cases hh : (headB l).length ≤ 65536
    · rw [i1 hh]
      simp only [List.length_cons, List.length_nil]
    · have := i2 (by omega)
      rw [if_pos (.inr (.inl (by omega))), if_pos (.inr (.inl (by simp only [List.length_cons, List.length_nil]; omega)))]
theorem writeO_is {l : List Pr} {b : List By} (h : writeK l b = 0) : writeO l b = hdO l ++ b := by
  rw [writeO, if_pos h]
  rw [writeK_is] at h
  cases hg : allG l
  · rw [hg] at h; cases h
  · rw [hg, if_pos rfl] at h
    split at h
    · cases h
    · next hn =>
      have ho : hdO l = mkH l ++ [13, 10] := by rw [hdO, hg]; rfl
      rw [ho, List.length_append] at hn
      rw [ho]
      obtain ⟨i1, i2⟩ := mk_fold l []
      simp only [List.length_nil, Nat.zero_add, List.nil_append] at i1 i2
      have hk : l.foldl mkS [] = mkH l := rfl
      rw [hk] at i1 i2
      by_cases hh : (headB l).length ≤ 65536
      · rw [i1 hh]
      · have := i2 (by omega)
        exact absurd (.inr (.inl (by simp only [List.length_cons, List.length_nil]; omega))) hn
theorem mk_len : ∀ (l : List Pr) (m : List By), allG l = true → m.length ≤ 100000 → (l.foldl mkS m).length ≤ 100000
  | [], _, _, h => h
  | p :: l, m, hg, h => by
    have hg2 : (goodF p.1 p.2 && allG l) = true := hg
    rw [Bool.and_eq_true] at hg2
    have hgp : nameB p.1 = true ∧ valB p.2 = true := by simpa [goodF] using hg2.1
    have l1 := nameB_len hgp.1
    have l2 := valB_len hgp.2
    have l3 := foldB_len p.1 p.2
    rw [List.foldl_cons]
    refine mk_len l _ hg2.2 ?_
    unfold mkS
    split
    · rw [List.length_append]; omega
    · exact h
theorem hdO_len (l : List Pr) : (hdO l).length ≤ 100002 := by
  cases hg : allG l
  · rw [hdO, hg]; exact Nat.zero_le _
  · rw [hdO, hg, if_pos rfl, List.length_append]
    have := mk_len l [] hg (Nat.zero_le _)
    have hk : l.foldl mkS [] = mkH l := rfl
    rw [hk] at this
    simp only [List.length_cons, List.length_nil]
    omega
theorem writeO_no {l : List Pr} {b : List By} (h : writeK l b ≠ 0) : writeO l b = [] := by rw [writeO, if_neg h]
end Fld
theorem goes_lhead : Goes Tryz.prog 63 := ⟨_, Tryz.func63, rfl, by kernel_rfl⟩
structure HdT where
  i : Nat
  o : List Bt
  q : Acc
set_option maxHeartbeats 32000000 in
theorem lhead_any (f : Sl2) (w : World) (hf : f.ok w) (hz : small2 f) (hl : f.l.length ≤ 1000000) : Calls Tryz.prog 63 [f.v].toArray w fun e w' => ∃ q : { q : Acc // q = none → hdO f.l = [] }, e = .returned (.tuple #[accV q.1 (hdO f.l).length, N (hdK f.l)]) ∧ Holds w [] (accE 5 q.1 ((hdO f.l).map U8)) w' := by
  refine enter (n := 32) Tryz.func63 rfl rfl rfl (Holds.start w []) ?_
  repeat (first | refine JL.q (by first | (apply OQ.len; exact Tryz.underlying39; exact rfl) | (apply OQ.move; exact rfl) | (apply OQ.assign; exact rfl)) rfl ?_ | refine JC.seq ?_ | refine JC.region ?_ | refine JC.block ?_ | refine JL.nil ?_ | refine JE.next ?_)
  refine JC.loop (fun z : HdT => [(4, accV z.q z.o.length), (9, f.v), (10, N f.l.length), (11, N z.i)]) (fun z => accE 5 z.q (z.o.map U8) ++ []) (fun z => f.l.length - z.i) (fun z => z.i ≤ f.l.length ∧ (z.q = none → z.o = []) ∧ z.o.length ≤ 100000 ∧ allG f.l = allG (f.l.drop z.i) ∧ mkH f.l = (f.l.drop z.i).foldl mkS z.o) ⟨0, [], none⟩ ⟨Nat.zero_le _, fun _ => rfl, Nat.zero_le _, rfl, rfl⟩ (by repeat (first | exact SubE.nil | refine SubE.cons _ _ _ rfl ?_)) (.nil _) ?_
  rintro ⟨i, o, q⟩ ⟨hi, hq, ho, hg, hm⟩
  dsimp only at hi hq ho hg hm ⊢
  repeat (first | refine JL.q (by (apply OQ.lssN; exact rfl; exact rfl)) rfl ?_ | refine JC.seq ?_ | refine JC.region ?_ | refine JL.nil ?_ | refine JE.next ?_)
  refine JC.cond rfl (fun h => ?_) (fun h => ?_)
  · have hi' : i < f.l.length := of_decide_eq_true h
    clear h hi
    obtain ⟨ba, ja, eA, la, ca1, ca2⟩ := hf.at hi'
    have vA : f.v = .slice (some ⟨ba, ja, none⟩) f.l.length f.cap := by rw [← eA]; rfl
    have cA := pair_cells ca1 ca2
    have hDi := hz _ (mem_getD hi')
    rw [drop_pr hi'] at hg hm
    generalize f.l.getD i ([], []) = c at hg hm cA hDi
    obtain ⟨n, v⟩ := c
    rw [List.foldl_cons] at hm
    have hg2 : allG f.l = (goodF n v && allG (f.l.drop (i + 1))) := hg
    clear hg
    rw [vA]
    repeat (first | refine JL.q (by first | (apply OQ.idxS; exact Tryz.underlying39; exact fieldS; exact rfl; exact rfl; exact hi') | (apply OQ.load_agg_old (cs := pc (n, v)); exact fieldA; exact rfl; exact fieldS; exact la; exact (by simp); exact cA)) rfl ?_ | refine JC.seq ?_ | refine JC.region ?_ | refine JC.block ?_ | refine JC.skip ?_ | refine JE.next ?_)
    refine JL.alloc fieldZb rfl fun b8 _ => ?_
    refine JL.store_all (cs := pc (n, v)) fieldS rfl rfl rfl rfl .here rfl ?_
    repeat (first | refine JL.q (by (apply OQ.load_agg (cs := pc (n, v)); exact fieldA; exact fieldS; exact rfl; exact .here; exact rfl; exact Row.all)) rfl ?_ | refine JC.seq ?_ | refine JC.region ?_ | refine JL.nil ?_ | refine JE.next ?_)
    refine JL.callg (vs := [.agg (pc (n, v)).toArray]) (ι := { x : Sl8 // Ans x (foldR n v) }) (fun x => .tuple #[x.1.v, N (codeF n v)]) (fun x => x.1.ents) goes_ffold rfl rfl (fun x => x.1.ents_wr) (fun w' _ => ffold_any n v w' hDi.1 hDi.2) ?_
    rintro ⟨x, hx1, hx2⟩
    dsimp only
    cases h1 : goodF n v
    · rw [h1] at hg2
      have hc : codeF n v = 3 := by rw [codeF, h1]; rfl
      have hO : hdO f.l = [] := by rw [hdO, hg2]; rfl
      have hK : hdK f.l = 3 := by rw [hdK, hg2]; rfl
      have h0 : decide (((3 : Nat) : Int) = 0) = false := rfl
      rw [hc, hO, hK]
      repeat (first | refine JL.q (by first | (apply OQ.extract; exact rfl; exact rfl) | (apply OQ.neB (a := ((3 : Nat) : Int)) (b := 0); exact rfl; exact rfl; exact h0) | (apply OQ.move; exact rfl) | (apply OQ.assign; exact rfl)) rfl ?_ | refine JC.seq ?_ | refine JC.region ?_ | refine JL.nil ?_ | refine JE.next ?_)
      refine JC.cond rfl (fun _ => ?_) (fun h => by cases h)
      repeat (first | refine JL.q (by first | (apply OQ.move; exact rfl) | (apply OQ.assign; exact rfl)) rfl ?_ | refine JC.seq ?_ | refine JC.region ?_ | refine JL.nil ?_ | refine JE.next ?_)
      refine JC.ret ?_
      repeat (first | refine JE.then_ret ?_ | refine JE.blk_ret ?_)
      exact JE.ret2 rfl (RV.tmp rfl) (RV.tmp rfl) fun w' hw => ⟨⟨none, fun _ => rfl⟩, rfl, Sl.Holds.weak hw (.nil _)⟩
    · rw [h1, Bool.true_and] at hg2
      have hc : codeF n v = 0 := by rw [codeF, h1]; rfl
      have hR : foldR n v = foldB n v := by rw [foldR, h1]; rfl
      have h0 : decide (((0 : Nat) : Int) = 0) = true := rfl
      have hgp : nameB n = true ∧ valB v = true := by simpa [goodF] using h1
      have l1 := nameB_len hgp.1
      have l2 := valB_len hgp.2
      have l3 := foldB_len n v
      rw [hR] at hx1
      rw [hc]
      cases h2 : decide ((o.length : Int) ≤ 65536)
      · have h2' := of_decide_eq_false h2
        have hs : mkS o (n, v) = o := if_neg (by omega)
        rw [hs] at hm
        repeat (first | refine JL.q (by first | (apply OQ.extract; exact rfl; exact rfl) | (apply OQ.neB (a := ((0 : Nat) : Int)) (b := 0); exact rfl; exact rfl; exact h0) | (apply OQ.move; exact rfl) | (apply OQ.assign; exact rfl)) rfl ?_ | refine JC.seq ?_ | refine JC.region ?_ | refine JL.nil ?_ | refine JE.next ?_)
        refine JC.cond rfl (fun h => by cases h) (fun _ => ?_)
        repeat (first | refine JL.q (by first | (apply OQ.lenV; exact Tryz.underlying22; exact rfl; exact (fun h => by rw [hq h]; rfl)) | (apply OQ.leqB (b := 65536); exact rfl; exact rfl; exact h2) | (apply OQ.move; exact rfl)) rfl ?_ | refine JC.seq ?_ | refine JC.region ?_ | refine JC.skip ?_ | refine JL.nil ?_ | refine JE.next ?_)
        refine JC.cond rfl (fun h => by cases h) (fun _ => ?_)
        repeat (first | refine JL.q (by first | (apply OQ.move; exact rfl) | (apply OQ.addN; exact rfl; exact rfl; exact (by (try simp only []); omega))) rfl ?_ | refine JC.region ?_ | refine JC.skip ?_ | refine JL.nil ?_ | refine JE.next ?_ | refine JE.blk_normal ?_)
        rw [← vA]
        exact JE.again (i := HdT.mk i o q) (HdT.mk (i + 1) o q) ⟨hi', hq, ho, hg2, hm⟩ (by dsimp only; omega) (by repeat (first | exact SubE.nil | refine SubE.cons _ _ _ rfl ?_)) (less_of_sub ((List.sublist_cons_self _ _).trans (List.sublist_append_right _ _)))
      · have h2' := of_decide_eq_true h2
        have hs : mkS o (n, v) = o ++ foldB n v := if_pos (by omega)
        rw [hs] at hm
        repeat (first | refine JL.q (by first | (apply OQ.extract; exact rfl; exact rfl) | (apply OQ.neB (a := ((0 : Nat) : Int)) (b := 0); exact rfl; exact rfl; exact h0) | (apply OQ.move; exact rfl) | (apply OQ.assign; exact rfl)) rfl ?_ | refine JC.seq ?_ | refine JC.region ?_ | refine JL.nil ?_ | refine JE.next ?_)
        refine JC.cond rfl (fun h => by cases h) (fun _ => ?_)
        repeat (first | refine JL.q (by first | (apply OQ.lenV; exact Tryz.underlying22; exact rfl; exact (fun h => by rw [hq h]; rfl)) | (apply OQ.leqB (b := 65536); exact rfl; exact rfl; exact h2) | (apply OQ.move; exact rfl)) rfl ?_ | refine JC.seq ?_ | refine JC.region ?_ | refine JC.skip ?_ | refine JL.nil ?_ | refine JE.next ?_)
        refine JC.cond rfl (fun _ => ?_) (fun h => by cases h)
        repeat (first | refine JL.q (by (apply OQ.move; exact rfl)) rfl ?_ | refine JC.region ?_)
        refine JL.lessM (M' := x.ents ++ (accE 5 q (o.map U8) ++ [])) ?_ (less_mid _)
        refine JL.perm ?_ (List.perm_append_comm_assoc _ _ _)
        refine JL.appendQ (xs := o.map U8) (cs := x.l.map U8) (m := x.l.length) (ad := x.ad) (sc := x.cap) q Tryz.underlying22 u8e (fun h => by rw [hq h]; rfl) (by rw [List.length_map]; rfl) rfl (by rw [List.length_map]) (fun w' hw' => (Sl8.ents_ok (Sl.Holds.weak hw' (less_of_sub (List.sublist_append_right _ _))) hx2).reads) (all8U _) rfl (by rw [List.length_map, hx1]; omega) (by rw [List.length_map, hx1]; omega) rfl fun q' hq' => ?_
        repeat (first | refine JL.q (by first | (apply OQ.move; exact rfl) | (apply OQ.assign; exact rfl) | (apply OQ.addN; exact rfl; exact rfl; exact (by (try simp only []); omega))) rfl ?_ | refine JC.region ?_ | refine JL.nil ?_ | refine JE.next ?_ | refine JE.blk_normal ?_)
        rw [← vA, hx1, ← List.map_append]
        rw [hx1, ← List.map_append] at hq'
        rw [List.length_map]
        exact JE.again (i := HdT.mk i o q) (HdT.mk (i + 1) (o ++ foldB n v) q') ⟨hi', fun h => by simpa using hq' h, by dsimp only; rw [List.length_append]; omega, hg2, hm⟩ (by dsimp only; omega) (by repeat (first | exact SubE.nil | refine SubE.cons _ _ _ rfl ?_)) (less_app2 (.nil _) _)
  · have hi' : ¬ i < f.l.length := of_decide_eq_false h
    clear h
    rw [List.drop_eq_nil_of_le (by omega)] at hg hm
    have hG : allG f.l = true := hg
    have hO : hdO f.l = o ++ [13, 10] := by rw [hdO, hG, if_pos rfl, hm]; rfl
    have hK : hdK f.l = 0 := by rw [hdK, hG]; rfl
    rw [hO, hK]
    repeat (first | refine JL.q (by (apply OQ.move; exact rfl)) rfl ?_ | refine JC.seq ?_ | refine JC.region ?_ | refine JC.exit ?_ | refine JE.next ?_ | refine JE.then_exit ?_ | refine JE.blk_hit ?_)
    refine JL.appendZ (r := [13, 10]) (xs := o.map U8) q Tryz.underlying22 Tryz.underlying9 u8e (fun h => by rw [hq h]; rfl) (by rw [List.length_map]; rfl) rfl (by decide) (by rw [List.length_map]; simp only [List.length_cons, List.length_nil]; omega) rfl fun r => ?_
    rw [← List.map_append, List.length_map]
    repeat (first | refine JL.q (by (apply OQ.assign; exact rfl)) rfl ?_ | refine JL.nil ?_ | refine JE.next ?_)
    refine JC.ret ?_
    skip
    exact JE.ret2 rfl (RV.tmp rfl) (RV.tmp rfl) fun w' hw => ⟨⟨some r, nofun⟩, rfl, Sl.Holds.weak hw (by rw [List.append_nil]; exact Less.refl _)⟩
end Go.Proofs.YtbbmhkdfdgnkpaaGreatDoor

/-
  Of no statement by itself: what the landed letter's Write gives; so letter's functions owe nothing (letterOk).
  Conditions: each theorem's own.
-/
namespace Go.Proofs.YtbbmhkdfdgnkpaaGreatDoor
set_option maxRecDepth 10000
open Sl Fld
set_option maxHeartbeats 32000000 in
theorem lwriteN_any (f : Sl2) (s : Sl8) (w : World) (hf : f.ok w) (hs : s.ok w) (hz : small2 f) (hl : f.l.length ≤ 1000000) (hl2 : s.l.length ≤ 4294967296) : Calls Tryz.prog 42 [.agg #[f.v, s.v]].toArray w fun e w' => ∃ y : { y : Sl8 // Ans y (writeO f.l s.l) }, e = .returned (.tuple #[y.1.v, N (writeK f.l s.l)]) ∧ Holds w [] y.1.ents w' := by
  refine enter (n := 37) Tryz.func42 rfl rfl rfl (Holds.start w []) ?_
  refine JC.seq (JC.region (JL.box (r := [f.v, s.v]) rfl rfl rfl fun b1 _ => ?_))
  repeat (first | refine JL.q (by first | (apply OQ.load; exact fsC; exact rfl; exact .here; exact (Row.cell (v := f.v) rfl)) | (apply OQ.assign; exact rfl) | (apply OQ.fld; exact rfl; exact rfl; exact rfl; exact (by decide); exact rfl)) rfl ?_ | refine JC.seq ?_ | refine JC.region ?_ | refine JL.nil ?_ | refine JE.next ?_)
  refine JL.callg (vs := [f.v]) (ι := { q : Acc // q = none → hdO f.l = [] }) (fun q => .tuple #[accV q.1 (hdO f.l).length, N (hdK f.l)]) (fun q => accE 5 q.1 ((hdO f.l).map U8)) goes_lhead rfl rfl (fun q => accE_wr _ _ _) (fun w' hw' => lhead_any f w' (hf.holds hw' rfl) hz hl) ?_
  rintro ⟨q, hq⟩
  dsimp only at hq ⊢
  have hwk := writeK_is f.l s.l
  cases hg : allG f.l
  · have hk : hdK f.l = 3 := by rw [hdK, hg]; rfl
    have hwr : writeK f.l s.l = 3 := by rw [hwk, hg]; rfl
    have hwo := writeO_no (l := f.l) (b := s.l) (by rw [hwr]; decide)
    have h0 : decide (((3 : Nat) : Int) = 0) = false := rfl
    rw [hk, hwr]
    repeat (first | refine JL.q (by first | (apply OQ.extract; exact rfl; exact rfl) | (apply OQ.neB (a := ((3 : Nat) : Int)) (b := 0); exact rfl; exact rfl; exact h0) | (apply OQ.move; exact rfl) | (apply OQ.assign; exact rfl)) rfl ?_ | refine JC.seq ?_ | refine JC.region ?_ | refine JL.nil ?_ | refine JE.next ?_)
    refine JC.cond rfl (fun _ => ?_) (fun h => by cases h)
    repeat (first | refine JL.q (by first | (apply OQ.move; exact rfl) | (apply OQ.assign; exact rfl)) rfl ?_ | refine JC.seq ?_ | refine JC.region ?_ | refine JL.nil ?_ | refine JE.next ?_)
    refine JC.ret ?_
    repeat (refine JE.then_ret ?_)
    exact JE.ret2 rfl (RV.tmp rfl) (RV.tmp rfl) fun w' hw => ⟨⟨nilS, ⟨by rw [hwo]; rfl, fun _ => rfl⟩⟩, rfl, hw.weak (.nil _)⟩
  · have hk : hdK f.l = 0 := by rw [hdK, hg]; rfl
    have h0 : decide (((0 : Nat) : Int) = 0) = true := rfl
    have hO := hdO_len f.l
    rw [hg, if_pos rfl] at hwk
    rw [hk]
    repeat (first | refine JL.q (by first | (apply OQ.extract; exact rfl; exact rfl) | (apply OQ.neB (a := ((0 : Nat) : Int)) (b := 0); exact rfl; exact rfl; exact h0) | (apply OQ.move; exact rfl) | (apply OQ.assign; exact rfl)) rfl ?_ | refine JC.seq ?_ | refine JC.region ?_ | refine JL.nil ?_ | refine JE.next ?_)
    refine JC.cond rfl (fun h => by cases h) (fun _ => ?_)
    refine JC.perm (M' := [⟨b1, Row 41 [f.v, s.v], true⟩] ++ accE 5 q ((hdO f.l).map U8)) ?_ List.perm_append_comm
    cases h1 : decide ((200 : Int) < (f.l.length : Int)) <;> cases h2 : decide ((65536 : Int) < ((hdO f.l).length : Int)) <;> cases h3 : decide ((2097152 : Int) < (((hdO f.l).length + s.l.length : Nat) : Int))
    all_goals (repeat (first | refine JL.q (by first | (apply OQ.load; exact fsC; exact rfl; exact .here; exact (Row.cell (v := f.v) rfl)) | (apply OQ.load; exact bsC; exact rfl; exact .here; exact (Row.cell (v := s.v) rfl)) | (apply OQ.len; exact Tryz.underlying39; exact rfl) | (apply OQ.len; exact Tryz.underlying22; exact rfl) | (apply OQ.lenV; exact Tryz.underlying22; exact rfl; exact (fun h => by rw [hq h]; rfl)) | (apply OQ.gtrB (b := 200); exact rfl; exact rfl; exact h1) | (apply OQ.gtrB (b := 65536); exact rfl; exact rfl; exact h2) | (apply OQ.gtrB (b := 2097152); exact rfl; exact rfl; exact h3) | (apply OQ.pick_t; exact rfl; exact rfl) | (apply OQ.pick_f; exact rfl; exact rfl) | (apply OQ.move; exact rfl) | (apply OQ.addN; exact rfl; exact rfl; exact (by (try simp only []); omega)) | (apply OQ.fld; exact rfl; exact rfl; exact rfl; exact (by decide); exact rfl)) rfl ?_ | refine JC.seq ?_ | refine JC.region ?_ | refine JC.skip ?_ | refine JL.nil ?_ | refine JE.next ?_ | refine JL.gon rfl rfl ?_ | refine JL.gskip rfl rfl rfl rfl ?_))
    all_goals refine JC.cond rfl (fun h => ?_) (fun h => ?_)
    all_goals first | (exfalso; revert h; decide) | skip
    all_goals clear h
    all_goals first
      | (have hwr : writeK f.l s.l = 4 := by
           rw [hwk, if_pos]
           first
             | exact .inl (by have := of_decide_eq_true h1; omega)
             | exact .inr (.inl (by have := of_decide_eq_true h2; omega))
             | exact .inr (.inr (by have := of_decide_eq_true h3; omega))
         have hwo := writeO_no (l := f.l) (b := s.l) (by rw [hwr]; decide)
         rw [hwr]
         (repeat (first | refine JL.q (by (apply OQ.assign; exact rfl)) rfl ?_ | refine JC.seq ?_ | refine JC.region ?_ | refine JL.nil ?_ | refine JE.next ?_))
         refine JC.ret ?_
         (repeat (refine JE.then_ret ?_))
         exact JE.ret2 rfl (RV.tmp rfl) (RV.tmp rfl) fun w' hw => ⟨⟨nilS, ⟨by rw [hwo]; rfl, fun _ => rfl⟩⟩, rfl, hw.weak (.nil _)⟩)
      | skip
    have hwr : writeK f.l s.l = 0 := by
      rw [hwk, if_neg]
      have k1 := of_decide_eq_false h1
      have k2 := of_decide_eq_false h2
      have k3 := of_decide_eq_false h3
      omega
    have hwo := writeO_is (l := f.l) (b := s.l) hwr
    rw [hwr]
    repeat (first | refine JL.q (by first | (apply OQ.load; exact bsC; exact rfl; exact .here; exact (Row.cell (v := s.v) rfl)) | (apply OQ.move; exact rfl) | (apply OQ.fld; exact rfl; exact rfl; exact rfl; exact (by decide); exact rfl)) rfl ?_ | refine JC.seq ?_ | refine JC.region ?_ | refine JC.skip ?_ | refine JE.next ?_)
    refine JL.perm (M' := accE 5 q ((hdO f.l).map U8) ++ [⟨b1, Row 41 [f.v, s.v], true⟩]) ?_ List.perm_append_comm
    refine JL.appendQ (xs := (hdO f.l).map U8) (cs := s.l.map U8) (m := s.l.length) (ad := s.ad) (sc := s.cap) q Tryz.underlying22 u8e (fun h => by rw [hq h]; rfl) (by rw [List.length_map]; rfl) rfl (by rw [List.length_map]) (fun w' hw' => (hs.holds hw' rfl).reads) (all8U _) rfl (by rw [List.length_map]; omega) (by rw [List.length_map]; omega) rfl fun q' hq' => ?_
    rw [← List.map_append] at hq' ⊢
    rw [List.length_map]
    repeat (first | refine JL.q (by (apply OQ.assign; exact rfl)) rfl ?_ | refine JL.nil ?_ | refine JE.next ?_)
    refine JC.ret ?_
    skip
    refine JE.ret2 rfl (RV.tmp rfl) (RV.tmp rfl) fun w' hw => ⟨⟨accS q' (hdO f.l ++ s.l), ⟨?_, accS_none⟩⟩, ?_, (Sl.Holds.weak hw (less_pre _ _)).weak (accS_ents _ _)⟩
    · rw [hwo]; exact accS_l fun h => by simpa using hq' h
    · dsimp only
      rw [accS_v]
      rfl
end Go.Proofs.YtbbmhkdfdgnkpaaGreatDoor

/-
  Of no statement by itself: what the landed mime's readParts gives, where read gives the parts of what stands one deeper.
  Conditions: each theorem's own.
-/
namespace Go.Proofs.YtbbmhkdfdgnkpaaGreatDoor
set_option maxRecDepth 10000
open Sl Fld Mim Tok
theorem goes_rparts : Goes Tryz.prog 44 := ⟨_, Tryz.func44, rfl, by kernel_rfl⟩
theorem goes_readU : Goes Tryz.prog 26 := ⟨_, Tryz.func26, rfl, by kernel_rfl⟩
def codeL {α : Type} : Except Nat α → Nat
  | .ok _ => 0
  | .error k => k
/-- parts as an answer -/
structure PL (d : Nat) (r : Except Nat (List Part)) where
  q : Acc
  subs : List (List Value)
  Ms : List (List Ent)
  hq : q = none → subs = []
  is : ∀ L, r = .ok L → subs.length = L.length ∧ Ms.length = L.length ∧ ∀ i, i < subs.length → PartE d (L.getD i default) (subs.getD i []) (Ms.getD i [])
  wr : ∀ M ∈ Ms, ∀ e ∈ M, e.wr = true
def PL.v {d : Nat} {r : Except Nat (List Part)} (z : PL d r) : Value := accV z.q z.subs.length
def PL.ents {d : Nat} {r : Except Nat (List Part)} (z : PL d r) : List Ent := accC 36 5 z.q z.subs ++ z.Ms.flatten
theorem PL.entsw {d : Nat} {r : Except Nat (List Part)} (z : PL d r) : ∀ e ∈ z.ents, e.wr = true := fun e he => by
  rcases List.mem_append.1 he with h | h
  · exact accC_wr _ _ _ _ e h
  · obtain ⟨M, hM, hm⟩ := List.mem_flatten.1 h
    exact z.wr M hM e hm
def PL.err {d e : Nat} : PL d (.error e) := ⟨none, [], [], fun _ => rfl, nofun, nofun⟩
theorem ptI12 : EI Tryz.prog 36 (.agg pz.toArray) 5 96 := by unfold EI; kernel_rfl
/-- what read gives of what stands in so many others -/
def ReadsAs (k others : Nat) : Prop := ∀ (f : Sl2) (s : Sl8) (w : World), EncOk w → f.ok w → s.ok w → small2 f → f.l.length ≤ 1000000 → s.l.length ≤ 20000 → (∀ p ∈ f.l, sameB p.1 ctN = true ∨ sameB p.1 ceN = true → p.2.length ≤ 999999) →
  Calls Tryz.prog 26 [.agg #[f.v, s.v], N others].toArray w fun e w' => ∃ x : PA (k + 1) (readP Quo.Qd k f.l s.l), e = .returned (.tuple #[.agg x.cs.toArray, N (codeE (readP Quo.Qd k f.l s.l))]) ∧ Holds w [] x.M w'
/-- the parts, their parts by the function one deeper -/
def subK : Nat → Option (List Fld.By → Except Nat Part)
  | 0 => none
  | k + 1 => some (subR (readP Quo.Qd k))
theorem readP_node (k : Nat) : readP Quo.Qd k = nodeR Quo.Qd (subK k) := by cases k <;> rfl
theorem qd_ne : ∀ (b : List Fld.By) (e : Nat), Quo.Qd b = .error e → e ≠ 0 := by
  intro b e h
  unfold Quo.Qd at h
  split at h
  · cases h; decide
  · cases h
theorem getD_app_l {α : Type} {l : List α} {x d : α} {j : Nat} (h : j < l.length) : (l ++ [x]).getD j d = l.getD j d := by
  rw [List.getD_eq_getElem?_getD, List.getD_eq_getElem?_getD, List.getElem?_append_left h]
theorem getD_app_r {α : Type} {l : List α} {x d : α} : (l ++ [x]).getD l.length d = x := by
  rw [List.getD_eq_getElem?_getD, List.getElem?_append_right (Nat.le_refl _), Nat.sub_self]
  rfl
theorem perm_comm3 (A B C : List Ent) : (A ++ (B ++ C)).Perm (B ++ (A ++ C)) := by
  rw [← List.append_assoc, ← List.append_assoc]
  exact List.Perm.append_right _ List.perm_append_comm
theorem goes_lreadM : Goes Tryz.prog 66 := ⟨_, Tryz.func66, rfl, by kernel_rfl⟩
structure RpZ where
  i : Nat
  q : Acc
  subs : List (List Value)
  Ms : List (List Ent)
set_option maxHeartbeats 64000000 in
theorem rparts_any (k others : Nat) (hko : k + others = 8) (ih : ∀ k', k = k' + 1 → ReadsAs k' (others + 1)) (s : Sl8) (bd : List Bt) (w : World) (hE : EncOk w) (hs : s.ok w) (hl : s.l.length ≤ 20000) (hb : bd.length < 9223372036854775808) : Calls Tryz.prog 44 [s.v, Z bd, N others].toArray w
    fun e w' => ∃ z : PL k (partsR (subK k) s.l bd), e = .returned (.tuple #[z.v, N (codeL (partsR (subK k) s.l bd))]) ∧ Holds w [] z.ents w' := by
  refine enter (n := 60) Tryz.func44 rfl rfl rfl (Holds.start w []) ?_
  have cb := fun w' => mbnd_any bd w' (by omega)
  cases hB : boundB bd
  · rw [hB] at cb
    have hP : partsR (subK k) s.l bd = .error 3 := by unfold partsR; rw [if_pos hB]
    rw [hP]
    repeat (first | refine JL.q (by first | (apply OQ.callx (vs := [Z bd]); exact goes_mbnd; exact rfl; exact (fun w' _ => cb w')) | (apply OQ.not; exact rfl) | (apply OQ.move; exact rfl) | (apply OQ.assign; exact rfl)) rfl ?_ | refine JC.seq ?_ | refine JC.region ?_ | refine JL.nil ?_ | refine JE.next ?_)
    refine JC.cond rfl (fun _ => ?_) (fun h => by cases h)
    repeat (first | refine JL.q (by (apply OQ.assign; exact rfl)) rfl ?_ | refine JC.seq ?_ | refine JC.region ?_ | refine JL.nil ?_ | refine JE.next ?_)
    refine JC.ret ?_
    repeat (refine JE.then_ret ?_)
    exact JE.ret2 rfl (RV.tmp rfl) (RV.tmp rfl) fun w' hw => ⟨PL.err, rfl, hw.weak (.nil _)⟩
  rw [hB] at cb
  repeat (first | refine JL.q (by first | (apply OQ.callx (vs := [Z bd]); exact goes_mbnd; exact rfl; exact (fun w' _ => cb w')) | (apply OQ.not; exact rfl) | (apply OQ.move; exact rfl) | (apply OQ.assign; exact rfl)) rfl ?_ | refine JC.seq ?_ | refine JC.region ?_ | refine JL.nil ?_ | refine JE.next ?_)
  refine JC.cond rfl (fun h => by cases h) (fun _ => ?_)
  cases k with
  | zero =>
    have hP : partsR (subK 0) s.l bd = .error 5 := by unfold partsR; rw [if_neg (by rw [hB]; decide)]; rfl
    rw [hP]
    have h8 : decide ((8 : Int) ≤ (others : Int)) = true := decide_eq_true (by omega)
    repeat (first | refine JL.q (by first | (apply OQ.geqB (a := (others : Int)) (b := 8); exact rfl; exact rfl; exact h8) | (apply OQ.move; exact rfl)) rfl ?_ | refine JC.seq ?_ | refine JC.region ?_ | refine JC.skip ?_ | refine JL.nil ?_ | refine JE.next ?_)
    refine JC.cond rfl (fun _ => ?_) (fun h => by cases h)
    repeat (first | refine JL.q (by (apply OQ.assign; exact rfl)) rfl ?_ | refine JC.seq ?_ | refine JC.region ?_ | refine JL.nil ?_ | refine JE.next ?_)
    refine JC.ret ?_
    repeat (refine JE.then_ret ?_)
    exact JE.ret2 rfl (RV.tmp rfl) (RV.tmp rfl) fun w' hw => ⟨PL.err, rfl, hw.weak (.nil _)⟩
  | succ k =>
  have ih := ih k rfl
  have h8 : decide ((8 : Int) ≤ (others : Int)) = false := decide_eq_false (by omega)
  have hP : partsR (subK (k + 1)) s.l bd = if (spltB s.l bd).2 ≠ 0 then .error (spltB s.l bd).2 else mapE (subR (readP Quo.Qd k)) (spltB s.l bd).1 := by unfold partsR; rw [if_neg (by rw [hB]; decide)]; rfl
  have hle := splt_le (b := s.l) (bd := bd)
  have h70 : bd.length ≤ 70 := by
    unfold boundB at hB
    rw [Bool.and_eq_true, Bool.and_eq_true] at hB
    exact of_decide_eq_true hB.2.2
  have cs := fun (M : List Ent) (w' : World) (hw' : Holds w [] M w') => msplit_any s bd w' (hs.holds hw' rfl) (by omega) (by omega)
  have hc0 : (spltB s.l bd).2 = 0 ∨ (spltB s.l bd).2 ≠ 0 := by omega
  have hnl : (spltB s.l bd).1.length ≤ 100000 := by
    have h0 := linR_sum s.l []
    have h1 := sum_drop (fun x => markB bd x.1 != 1) (linB s.l)
    unfold spltB
    rw [if_neg (by rw [hB]; decide)]
    cases ho : splL bd ((linB s.l).dropWhile fun x => markB bd x.1 != 1) [] with
    | none => exact Nat.zero_le _
    | some out =>
      obtain ⟨h2, _⟩ := splL_sum bd _ _ [] out (Nat.le_refl _) ho
      have : (linB s.l).length ≤ s.l.length + 1 := h0.2
      have e0 : ([] : List (List Fld.By)).length = 0 := rfl
      show out.length ≤ _
      omega
  generalize (spltB s.l bd).1 = ys at cs hle hP hnl
  generalize (spltB s.l bd).2 = kc at cs hP hc0
  rw [hP]
  clear hP hB cb
  repeat (first | refine JL.q (by first | (apply OQ.geqB (a := (others : Int)) (b := 8); exact rfl; exact rfl; exact h8) | (apply OQ.move; exact rfl)) rfl ?_ | refine JC.seq ?_ | refine JC.region ?_ | refine JC.skip ?_ | refine JL.nil ?_ | refine JE.next ?_)
  refine JC.cond rfl (fun h => by cases h) (fun _ => ?_)
  repeat (first | refine JL.q (by (apply OQ.move; exact rfl)) rfl ?_ | refine JC.seq ?_ | refine JC.region ?_ | refine JC.skip ?_ | refine JE.next ?_)
  refine JL.callg (ι := SpA ys) (vs := [s.v, Z bd]) (fun z => .tuple #[z.v, N kc]) (fun z => z.ents) goes_msplitL rfl rfl (fun z => z.wr) (cs _) ?_
  intro sp
  rcases hc0 with rfl | hk0
  rotate_left
  · have hne : decide ((kc : Int) = 0) = false := decide_eq_false (by omega)
    rw [if_pos hk0]
    repeat (first | refine JL.q (by first | (apply OQ.extract; exact rfl; exact rfl) | (apply OQ.neB (a := (kc : Int)) (b := 0); exact rfl; exact rfl; exact hne) | (apply OQ.move; exact rfl) | (apply OQ.assign; exact rfl)) rfl ?_ | refine JC.seq ?_ | refine JC.region ?_ | refine JL.nil ?_ | refine JE.next ?_)
    refine JC.cond rfl (fun _ => ?_) (fun h => by cases h)
    repeat (first | refine JL.q (by first | (apply OQ.move; exact rfl) | (apply OQ.assign; exact rfl)) rfl ?_ | refine JC.seq ?_ | refine JC.region ?_ | refine JL.nil ?_ | refine JE.next ?_)
    refine JC.ret ?_
    repeat (refine JE.then_ret ?_)
    exact JE.ret2 rfl (RV.tmp rfl) (RV.tmp rfl) fun w' hw => ⟨PL.err, rfl, hw.weak (.nil _)⟩
  rw [if_neg (by decide)]
  have h00 : decide (((0 : Nat) : Int) = 0) = true := rfl
  repeat (first | refine JL.q (by first | (apply OQ.extract; exact rfl; exact rfl) | (apply OQ.neB (a := ((0 : Nat) : Int)) (b := 0); exact rfl; exact rfl; exact h00) | (apply OQ.move; exact rfl) | (apply OQ.assign; exact rfl)) rfl ?_ | refine JC.seq ?_ | refine JC.region ?_ | refine JL.nil ?_ | refine JE.next ?_)
  refine JC.cond rfl (fun h => by cases h) (fun _ => ?_)
  have hrl : sp.rs.length = ys.length := by rw [← List.length_map (f := Sl8.l), sp.hrs]
  have hmv : (sp.rs.map Sl8.v).length = ys.length := by rw [List.length_map, hrl]
  have hspv : sp.v = accV sp.q ys.length := by unfold SpA.v; rw [hmv]
  have hq0 : sp.q = none → ys.length = 0 := fun h => by rw [← hrl, sp.hq h]; rfl
  rw [hspv]
  repeat (first | refine JL.q (by first | (apply OQ.lenV (q := sp.q) (k := ys.length); exact Tryz.underlying24; exact rfl; exact hq0) | (apply OQ.move; exact rfl) | (apply OQ.assign; exact rfl)) rfl ?_ | refine JC.seq ?_ | refine JC.region ?_ | refine JC.block ?_ | refine JC.skip ?_ | refine JL.nil ?_ | refine JE.next ?_)
  refine JC.loop (fun z : RpZ => [(2, N others), (10, accV z.q z.subs.length), (30, accV sp.q ys.length), (31, N ys.length), (32, N z.i)]) (fun z => accC 36 5 z.q z.subs ++ (z.Ms.flatten ++ (sp.ents ++ []))) (fun z => ys.length - z.i)
    (fun z => z.i ≤ ys.length ∧ (z.q = none → z.subs = []) ∧ (∀ M ∈ z.Ms, ∀ e ∈ M, e.wr = true) ∧ ∃ L, mapE (subR (readP Quo.Qd k)) (ys.take z.i) = .ok L ∧ z.i = L.length ∧ z.subs.length = L.length ∧ z.Ms.length = L.length ∧ ∀ j, j < z.subs.length → PartE (k + 1) (L.getD j default) (z.subs.getD j []) (z.Ms.getD j [])) ⟨0, none, [], []⟩
    ⟨Nat.zero_le _, fun _ => rfl, nofun, [], rfl, rfl, rfl, rfl, nofun⟩ (by repeat (first | exact SubE.nil | refine SubE.cons _ _ _ rfl ?_)) (Less.refl _) ?_
  rintro ⟨i, q, subs, Ms⟩ ⟨hi, hq, hwr, L, hL, hiL, hsl, hml, hsub⟩
  dsimp only at hi hq hwr hL hiL hsl hml hsub ⊢
  repeat (first | refine JL.q (by (apply OQ.lssN; exact rfl; exact rfl)) rfl ?_ | refine JC.seq ?_ | refine JC.region ?_ | refine JL.nil ?_ | refine JE.next ?_)
  refine JC.cond rfl (fun h => ?_) (fun h => ?_)
  · have hi' : i < ys.length := of_decide_eq_true h
    clear h
    have hne : sp.q ≠ none := fun h => by have := hq0 h; omega
    obtain ⟨⟨bq, cq⟩, hqs⟩ : ∃ p, sp.q = some p := Option.ne_none_iff_exists'.1 hne
    have hlt : i < sp.rs.length := by omega
    have hxl : (sp.rs.getD i nilS).l = ys.getD i [] := by
      have h1 : (sp.rs.map Sl8.l)[i]? = ys[i]? := by rw [sp.hrs]
      rw [List.getElem?_map, List.getElem?_eq_getElem hlt, List.getElem?_eq_getElem hi'] at h1
      rw [List.getD_eq_getElem?_getD, List.getD_eq_getElem?_getD, List.getElem?_eq_getElem hlt, List.getElem?_eq_getElem hi']
      exact Option.some.inj h1
    have hxm : sp.rs.getD i nilS ∈ sp.rs := by
      rw [List.getD_eq_getElem?_getD, List.getElem?_eq_getElem hlt]
      exact List.getElem_mem hlt
    have hent : sp.ents = ⟨bq, Sl.Own 22 1 (sp.rs.map Sl8.v).length cq (sp.rs.map Sl8.v), true⟩ :: flatE sp.rs := by
      unfold SpA.ents
      rw [hqs]
      rfl
    have hcell : ∀ o, Sl.Own 22 1 (sp.rs.map Sl8.v).length cq (sp.rs.map Sl8.v) o → cellAt o i = some (sp.rs.getD i nilS).v := fun o ho => by
      have := has_cell (Sl.Own.cells o ho) (k := i) (map_at Sl8.v nilS hlt)
      rwa [Nat.zero_add] at this
    have hOwn : Has (accC 36 5 q subs ++ (Ms.flatten ++ (sp.ents ++ []))) bq (Sl.Own 22 1 (sp.rs.map Sl8.v).length cq (sp.rs.map Sl8.v)) true := has_right _ (has_right _ (has_left (by rw [hent]; exact .here)))
    have okx : ∀ w', Holds w [] (accC 36 5 q subs ++ (Ms.flatten ++ (sp.ents ++ []))) w' → (sp.rs.getD i nilS).ok w' := fun w' hw' => by
      have h1 : Holds w [] sp.ents w' := Sl.Holds.weak hw' (less_app _ (less_app _ (less_nilL _)))
      rw [hent] at h1
      exact flat_ok (A := [_]) h1 sp.h0 _ hxm
    have hdrop := drop_at ([] : List Fld.By) hi'
    have hyl : ys.getD i [] ∈ ys := by
      rw [List.getD_eq_getElem?_getD, List.getElem?_eq_getElem hi']
      exact List.getElem_mem hi'
    have hx2 := hle _ hyl
    have htake : ys = ys.take i ++ ys.getD i [] :: ys.drop (i + 1) := by rw [← hdrop, List.take_append_drop]
    have htk : ys.take (i + 1) = ys.take i ++ [ys.getD i []] := by
      rw [List.take_add_one, List.getElem?_eq_getElem hi', List.getD_eq_getElem?_getD, List.getElem?_eq_getElem hi']
      rfl
    have cl := fun w' hw' => lread_any (sp.rs.getD i nilS) w' (okx w' hw') (by rw [hxl]; omega)
    rw [hxl] at cl
    have hv30 : accV sp.q ys.length = .slice (some ⟨bq, 0, none⟩) ys.length cq := by rw [hqs]; rfl
    generalize sp.rs.getD i nilS = x at hcell cl
    generalize ys.getD i [] = m at cl htake htk hx2
    clear okx hxm hxl hyl hdrop hqs hne hlt
    rw [hv30]
    have hRL : readL11 m = readL m := rfl
    rw [hRL] at cl
    repeat (first | refine JL.q (by first | (apply OQ.idxS0 (i := i); exact Tryz.underlying24; exact bsS12; exact rfl; exact rfl; exact hi') | (apply OQ.load; exact bsC8; exact rfl; exact hOwn; exact hcell) | (apply OQ.move; exact rfl) | (apply OQ.assign; exact rfl)) rfl ?_ | refine JC.seq ?_ | refine JC.region ?_ | refine JC.block ?_ | refine JC.skip ?_ | refine JL.nil ?_ | refine JE.next ?_)
    refine JL.callg (ι := L9 (readL m)) (vs := [x.v]) (fun y => .tuple #[.agg #[y.f.v, y.s.v], N (codeR (readL m))]) (fun y => y.s.ents ++ y.f.ents) goes_lreadM rfl rfl (fun y => y.wr) cl ?_
    intro y
    repeat (refine JL.q (by first | (apply OQ.extract; exact rfl; exact rfl) | (apply OQ.move; exact rfl)) rfl ?_)
    refine JL.alloc ltZ12 rfl fun b13 _ => ?_
    refine JL.store_all (cs := [y.f.v, y.s.v]) ltS12 rfl rfl rfl rfl .here rfl ?_
    have hcr : (∃ e, readL m = .error e) ∨ (∃ q, readL m = .ok q) := by
      cases readL m with
      | error e => exact .inl ⟨e, rfl⟩
      | ok q => exact .inr ⟨q, rfl⟩
    rcases hcr with ⟨e, hr⟩ | ⟨⟨f', b'⟩, hr⟩
    · have hk : codeR (readL m) = e := by rw [hr]; rfl
      rw [hk]
      have he := readL_ne hr
      have hM : mapE (subR (readP Quo.Qd k)) ys = .error e := by
        rw [htake]
        exact mapE_err hL (by unfold subR; rw [hr])
      have hne : decide ((e : Int) = 0) = false := decide_eq_false (by omega)
      rw [hM]
      repeat (first | refine JL.q (by first | (apply OQ.neB (a := (e : Int)) (b := 0); exact rfl; exact rfl; exact hne) | (apply OQ.move; exact rfl) | (apply OQ.assign; exact rfl)) rfl ?_ | refine JC.seq ?_ | refine JC.region ?_ | refine JL.nil ?_ | refine JE.next ?_)
      refine JC.cond rfl (fun _ => ?_) (fun h => by cases h)
      repeat (first | refine JL.q (by first | (apply OQ.move; exact rfl) | (apply OQ.assign; exact rfl)) rfl ?_ | refine JC.seq ?_ | refine JC.region ?_ | refine JL.nil ?_ | refine JE.next ?_)
      refine JC.ret ?_
      repeat (first | refine JE.then_ret ?_ | refine JE.blk_ret ?_)
      exact JE.ret2 rfl (RV.tmp rfl) (RV.tmp rfl) fun w' hw => ⟨PL.err, rfl, hw.weak (.nil _)⟩
    · have hk : codeR (readL m) = 0 := by rw [hr]; rfl
      rw [hk]
      obtain ⟨lb, lf, lp⟩ := readL_low hr
      have hyf : y.f.l = f' := by rw [y.hf, hr]; rfl
      have hys : y.s.l = b' := by rw [y.hs, hr]; rfl
      have h00 : decide (((0 : Nat) : Int) = 0) = true := rfl
      repeat (first | refine JL.q (by first | (apply OQ.neB (a := ((0 : Nat) : Int)) (b := 0); exact rfl; exact rfl; exact h00) | (apply OQ.move; exact rfl) | (apply OQ.assign; exact rfl)) rfl ?_ | refine JC.seq ?_ | refine JC.region ?_ | refine JL.nil ?_ | refine JE.next ?_)
      refine JC.cond rfl (fun h => by cases h) (fun _ => ?_)
      have hsm : small2 y.f := fun p hp => by
        rw [hyf] at hp
        have := lp p hp
        omega
      have cr : ∀ w', Holds w [] (⟨b13, Row 41 [y.f.v, y.s.v], true⟩ :: ((y.s.ents ++ y.f.ents) ++ (accC 36 5 q subs ++ (Ms.flatten ++ (sp.ents ++ []))))) w' → Calls Tryz.prog 26 [.agg #[y.f.v, y.s.v], N (others + 1)].toArray w' fun e w2 => ∃ x : PA (k + 1) (readP Quo.Qd k f' b'), e = .returned (.tuple #[.agg x.cs.toArray, N (codeE (readP Quo.Qd k f' b'))]) ∧ Holds w' [] x.M w2 := fun w' hw' => by
        have h1 : Holds w [] (y.s.ents ++ (y.f.ents ++ (accC 36 5 q subs ++ (Ms.flatten ++ (sp.ents ++ []))))) w' := by
          rw [← List.append_assoc]
          exact Sl.Holds.weak hw' (.drop _ _ _ (Less.refl _))
        have oks : y.s.ok w' := Sl8.ents_ok h1 y.ns
        have okf : y.f.ok w' := Sl2.ents_ok (Sl.Holds.weak h1 (less_app _ (Less.refl _))) y.nf
        have := ih y.f y.s w' (hE.holds hw') okf oks hsm (by rw [hyf]; omega) (by rw [hys]; omega) (fun p hp _ => by rw [hyf] at hp; have := lp p hp; omega)
        rw [hyf, hys] at this
        exact this
      repeat (first | refine JL.q (by first | (apply OQ.load_agg (cs := [y.f.v, y.s.v]); exact ltA12; exact ltS12; exact rfl; exact .here; exact rfl; exact Row.all) | (apply OQ.move; exact rfl) | (apply OQ.addN; exact rfl; exact rfl; exact (by (try simp only []); omega))) rfl ?_ | refine JC.seq ?_ | refine JC.region ?_ | refine JC.skip ?_ | refine JE.next ?_)
      refine JL.callg (ι := PA (k + 1) (readP Quo.Qd k f' b')) (vs := [.agg #[y.f.v, y.s.v], N (others + 1)]) (fun x => .tuple #[.agg x.cs.toArray, N (codeE (readP Quo.Qd k f' b'))]) (fun x => x.M) goes_readU rfl rfl (fun x => x.wr) cr ?_
      intro x2
      refine JL.less (M' := x2.M ++ (accC 36 5 q subs ++ (Ms.flatten ++ (sp.ents ++ [])))) (less_app2 (.drop _ _ _ (less_app _ (Less.refl _))) _) ?_
      repeat (refine JL.q (by first | (apply OQ.extract; exact rfl; exact rfl) | (apply OQ.move; exact rfl)) rfl ?_)
      refine JL.alloc (r := pz) ?_ ?_ fun b15 _ => ?_
      exact ptZ9
      rfl
      refine JL.store_all (cs := x2.cs) ptS rfl rfl x2.len x2.one .here rfl ?_
      have hcp : (∃ e, readP Quo.Qd k f' b' = .error e) ∨ (∃ p, readP Quo.Qd k f' b' = .ok p) := by
        cases readP Quo.Qd k f' b' with
        | error e => exact .inl ⟨e, rfl⟩
        | ok q => exact .inr ⟨q, rfl⟩
      rcases hcp with ⟨e, hp⟩ | ⟨p, hp⟩
      · have hk2 : codeE (readP Quo.Qd k f' b') = e := by rw [hp]; rfl
        rw [hk2]
        have he := readP_ne qd_ne k f' b' e hp
        have hM : mapE (subR (readP Quo.Qd k)) ys = .error e := by
          rw [htake]
          exact mapE_err hL (by unfold subR; rw [hr]; exact hp)
        have hne : decide ((e : Int) = 0) = false := decide_eq_false (by omega)
        rw [hM]
        repeat (first | refine JL.q (by first | (apply OQ.neB (a := (e : Int)) (b := 0); exact rfl; exact rfl; exact hne) | (apply OQ.move; exact rfl) | (apply OQ.assign; exact rfl)) rfl ?_ | refine JC.seq ?_ | refine JC.region ?_ | refine JL.nil ?_ | refine JE.next ?_)
        refine JC.cond rfl (fun _ => ?_) (fun h => by cases h)
        repeat (first | refine JL.q (by first | (apply OQ.move; exact rfl) | (apply OQ.assign; exact rfl)) rfl ?_ | refine JC.seq ?_ | refine JC.region ?_ | refine JL.nil ?_ | refine JE.next ?_)
        refine JC.ret ?_
        repeat (first | refine JE.then_ret ?_ | refine JE.blk_ret ?_)
        exact JE.ret2 rfl (RV.tmp rfl) (RV.tmp rfl) fun w' hw => ⟨PL.err, rfl, hw.weak (.nil _)⟩
      · have hk2 : codeE (readP Quo.Qd k f' b') = 0 := by rw [hp]; rfl
        rw [hk2]
        have hPE := x2.is p hp
        repeat (first | refine JL.q (by first | (apply OQ.neB (a := ((0 : Nat) : Int)) (b := 0); exact rfl; exact rfl; exact h00) | (apply OQ.move; exact rfl) | (apply OQ.assign; exact rfl)) rfl ?_ | refine JC.seq ?_ | refine JC.region ?_ | refine JL.nil ?_ | refine JE.next ?_)
        refine JC.cond rfl (fun h => by cases h) (fun _ => ?_)
        repeat (first | refine JL.q (by first | (apply OQ.load_agg (cs := x2.cs); exact ptA9; exact ptS; exact rfl; exact .here; exact x2.len; exact Row.all) | (apply OQ.move; exact rfl)) rfl ?_ | refine JC.region ?_ | refine JC.skip ?_ | refine JE.next ?_)
        refine JL.litA (cs := x2.cs) Tryz.underlying34 ptI12 rfl (by decide) (by decide) rfl x2.len rfl fun bl _ => ?_
        refine JL.less (M' := ⟨bl, Row 36 x2.cs, true⟩ :: (x2.M ++ (accC 36 5 q subs ++ (Ms.flatten ++ (sp.ents ++ []))))) (.keep _ _ _ _ _ _ (fun _ h => h) (.drop _ _ _ (Less.refl _))) ?_
        refine JL.perm (M' := ⟨bl, Row 36 x2.cs, true⟩ :: (accC 36 5 q subs ++ (x2.M ++ (Ms.flatten ++ (sp.ents ++ []))))) ?_ (List.Perm.cons _ (perm_comm3 _ _ _))
        refine JL.appendC (c := x2.cs) (L := subs) q Tryz.underlying34 ptI12 hq rfl rfl x2.len (fun v hv => List.all_eq_true.1 x2.one v hv) rfl (by decide) (by omega) (by omega) rfl fun b' cap' => ?_
        rw [← hv30]
        repeat (first | refine JL.q (by first | (apply OQ.move; exact rfl) | (apply OQ.assign; exact rfl) | (apply OQ.addN; exact rfl; exact rfl; exact (by (try simp only []); omega))) rfl ?_ | refine JC.region ?_ | refine JL.nil ?_ | refine JE.next ?_ | refine JE.blk_normal ?_)
        refine JE.perm (M' := accC 36 5 (some (b', cap')) (subs ++ [x2.cs]) ++ ((Ms ++ [x2.M]).flatten ++ (sp.ents ++ []))) (List.Perm.append_left _ ?_) ?_
        · rw [List.flatten_append, List.append_assoc]
          show (x2.M ++ _).Perm (Ms.flatten ++ ((x2.M ++ []) ++ _))
          rw [List.append_nil x2.M]
          exact perm_comm3 _ _ _
        refine JE.again (i := RpZ.mk i q subs Ms) (RpZ.mk (i + 1) (some (b', cap')) (subs ++ [x2.cs]) (Ms ++ [x2.M])) ⟨hi', nofun, fun M hM => ?_, L ++ [p], ?_, ?_, ?_, ?_, fun j hj => ?_⟩ (by show ys.length - (i + 1) < ys.length - i; omega) (by repeat (first | exact SubE.nil | refine SubE.cons _ _ _ rfl ?_)) (Less.refl _)
        · rcases List.mem_append.1 hM with h | h
          · exact hwr M h
          · rw [List.mem_singleton.1 h]; exact x2.wr
        · show mapE _ (ys.take (i + 1)) = _
          rw [htk]
          exact mapE_snoc hL (by unfold subR; rw [hr]; exact hp)
        · show i + 1 = _
          rw [List.length_append, List.length_singleton]; omega
        · show (subs ++ [x2.cs]).length = _
          rw [List.length_append, List.length_append, hsl]; rfl
        · show (Ms ++ [x2.M]).length = _
          rw [List.length_append, List.length_append, hml]; rfl
        · have hj : j < (subs ++ [x2.cs]).length := hj
          rw [List.length_append, List.length_singleton] at hj
          show PartE (k + 1) ((L ++ [p]).getD j default) ((subs ++ [x2.cs]).getD j []) ((Ms ++ [x2.M]).getD j [])
          by_cases e : j < subs.length
          · rw [getD_app_l (by omega), getD_app_l e, getD_app_l (by omega)]
            exact hsub j e
          · obtain rfl : j = subs.length := by omega
            rw [getD_app_r]
            rw [show (L ++ [p]).getD subs.length default = p by rw [hsl]; exact getD_app_r, show (Ms ++ [x2.M]).getD subs.length [] = x2.M by rw [hsl, ← hml]; exact getD_app_r]
            exact hPE
  · have hi' : ¬ i < ys.length := of_decide_eq_false h
    obtain rfl : i = ys.length := by omega
    rw [List.take_length] at hL
    rw [hL]
    repeat (first | refine JL.q (by first | (apply OQ.move; exact rfl) | (apply OQ.assign; exact rfl)) rfl ?_ | refine JC.seq ?_ | refine JC.region ?_ | refine JC.exit ?_ | refine JL.nil ?_ | refine JE.next ?_ | refine JE.then_exit ?_ | refine JE.blk_hit ?_)
    refine JC.ret ?_
    exact JE.ret2 rfl (RV.tmp rfl) (RV.tmp rfl) fun w' hw => ⟨⟨q, subs, Ms, hq, fun L' h => by cases h; exact ⟨hsl, hml, hsub⟩, hwr⟩, rfl, hw.weak (less_app2 (less_pre _ _) _)⟩
end Go.Proofs.YtbbmhkdfdgnkpaaGreatDoor

/-
  Of no statement by itself: how long a parameter's value may be.
  Conditions: none but each lemma's own.
-/
namespace Go.Proofs.YtbbmhkdfdgnkpaaGreatDoor
namespace Mim
open Fld Tok
theorem sem_low : ∀ (n : Nat) (r : List By) (q : Bool) (x : List By), r.length ≤ n → ∀ y ∈ semR r q x, y.length ≤ r.length + x.length := by
  intro n
  induction n with
  | zero =>
    intro r q x hr y hy
    obtain rfl : r = [] := List.eq_nil_of_length_eq_zero (by omega)
    rw [semV_e] at hy
    rw [List.mem_singleton.1 hy]
    omega
  | succ n ih =>
    intro r q x hr y hy
    cases r with
    | nil =>
      rw [semV_e] at hy
      rw [List.mem_singleton.1 hy]
      omega
    | cons c r =>
      simp only [List.length_cons] at hr
      by_cases h : q = true ∧ c = 92
      · obtain ⟨rfl, rfl⟩ := h
        cases r with
        | nil =>
          rw [semV_92e] at hy
          rw [List.mem_singleton.1 hy]
          simp
          omega
        | cons c2 r =>
          rw [semV_92] at hy
          have := ih r true _ (by simp only [List.length_cons] at hr; omega) y hy
          simp only [List.length_append, List.length_cons, List.length_nil] at this ⊢
          omega
      · rw [semV_cons c r q x h] at hy
        split at hy
        · have := ih r _ _ (by omega) y hy
          simp only [List.length_append, List.length_cons, List.length_nil] at this ⊢
          omega
        · split at hy
          · rcases List.mem_cons.1 hy with rfl | hy
            · simp only [List.length_cons]; omega
            · have := ih r _ _ (by omega) y hy
              simp only [List.length_nil, List.length_cons] at this ⊢
              omega
          · have := ih r _ _ (by omega) y hy
            simp only [List.length_append, List.length_cons, List.length_nil] at this ⊢
            omega
theorem unq_low : ∀ (n : Nat) (r o : List By), r.length ≤ n → (unqR r o).1.length ≤ r.length + o.length := by
  intro n
  induction n with
  | zero =>
    intro r o h
    obtain rfl : r = [] := List.eq_nil_of_length_eq_zero (by omega)
    rw [unqR.eq_def]
    simp
  | succ n ih =>
    intro r o h
    cases r with
    | nil => rw [unqR.eq_def]; simp
    | cons c r =>
      simp only [List.length_cons] at h
      rw [unqR.eq_def]
      dsimp only
      split
      · simp only [List.length_cons]; omega
      · split
        · cases r with
          | nil => simp only [List.length_cons]; omega
          | cons c2 r =>
            have := ih r (o ++ [c2]) (by simp only [List.length_cons] at h; omega)
            simp only [List.length_append, List.length_cons, List.length_nil] at this ⊢
            omega
        · have := ih r (o ++ [c]) (by omega)
          simp only [List.length_append, List.length_cons, List.length_nil] at this ⊢
          omega
theorem part_low {s : List By} {p : PrB} (h : partB s = some p) : p.2.length ≤ s.length := by
  have h1 := trim_len (s.drop (fst 61 s + 1))
  rw [List.length_drop] at h1
  unfold partB at h
  split at h
  · cases h
  · split at h
    · cases h
    · split at h
      · cases h
        show (trim _).length ≤ _
        omega
      · split at h
        · cases h
        · split at h
          · cases h
            have := unq_low _ (trim (s.drop (fst 61 s + 1))).tail [] (Nat.le_refl _)
            rw [List.length_tail] at this
            simp only [List.length_nil] at this
            show (unqR _ _).1.length ≤ _
            omega
          · cases h
theorem mapM_low {l : List (List By)} {r : List PrB} (h : l.mapM partB = some r) : r.length = l.length ∧ ∀ p ∈ r, ∃ s ∈ l, partB s = some p := by
  induction l generalizing r with
  | nil => cases h; exact ⟨rfl, nofun⟩
  | cons s l ih =>
    rw [List.mapM_cons] at h
    cases e1 : partB s with
    | none => rw [e1] at h; cases h
    | some p =>
      rw [e1] at h
      cases e2 : l.mapM partB with
      | none => rw [e2] at h; cases h
      | some r' =>
        rw [e2] at h
        cases h
        obtain ⟨h1, h2⟩ := ih e2
        refine ⟨by simp [h1], fun q hq => ?_⟩
        rcases List.mem_cons.1 hq with rfl | hq
        · exact ⟨s, by simp, e1⟩
        · obtain ⟨t, ht, e⟩ := h2 q hq
          exact ⟨t, by simp [ht], e⟩
theorem params_low (v : List By) : (paramsB v).2.1.length ≤ v.length + 1 ∧ ∀ p ∈ (paramsB v).2.1, p.2.length ≤ v.length := by
  have hb := bareB_len v
  unfold paramsB
  split
  · unfold paramsT
    split
    · exact ⟨Nat.zero_le _, nofun⟩
    · have h1 := semV_len _ (bareB v).1 false [] (Nat.le_refl _)
      have h2 := sem_low _ (bareB v).1 false [] (Nat.le_refl _)
      split
      · exact ⟨Nat.zero_le _, nofun⟩
      · next l hl =>
        obtain ⟨k1, k2⟩ := mapM_low hl
        have e : (semB (bareB v).1).length ≤ (bareB v).1.length + 1 := h1
        rw [List.length_tail] at k1
        refine ⟨by show l.length ≤ _; omega, fun p hp => ?_⟩
        obtain ⟨s, hs, e⟩ := k2 p hp
        have := part_low e
        have := h2 s (List.mem_of_mem_tail hs)
        simp only [List.length_nil] at this
        omega
  · exact ⟨Nat.zero_le _, nofun⟩
theorem par_low {l : List PrB} {m : Nat} (h : ∀ p ∈ l, p.2.length ≤ m) (n : List By) : (parB l n).length ≤ m := by
  unfold parB
  cases e : l.find? fun p => decide (p.1 = n) with
  | none => exact Nat.zero_le _
  | some p => exact h p (List.mem_of_find?_eq_some e)
theorem typ_low {f : List PrB} {m : Nat} (h : ∀ p ∈ f, sameB p.1 ctN = true → p.2.length ≤ m) : (typB f).2.1.length ≤ m + 1 ∧ (parB (typB f).2.1 bdN).length ≤ m := by
  have hA : ∀ v ∈ allB ctN f, v.length ≤ m := fun v hv => by
    unfold allB at hv
    obtain ⟨p, hp, rfl⟩ := List.mem_map.1 hv
    obtain ⟨h1, h2⟩ := List.mem_filter.1 hp
    exact h p h1 h2
  unfold typB
  cases e : allB ctN f with
  | nil => exact ⟨Nat.zero_le _, Nat.zero_le _⟩
  | cons v l =>
    have hv := hA v (by rw [e]; exact List.mem_cons_self)
    obtain ⟨h1, h2⟩ := params_low v
    exact ⟨by show (paramsB v).2.1.length ≤ _; omega, par_low (fun p hp => Nat.le_trans (h2 p hp) hv) bdN⟩
end Mim
end Go.Proofs.YtbbmhkdfdgnkpaaGreatDoor

/-
  Of no statement by itself: what the landed mime's read and Read give.
  Conditions: each theorem's own.
-/
namespace Go.Proofs.YtbbmhkdfdgnkpaaGreatDoor
set_option maxRecDepth 10000
open Sl Fld Mim Tok
theorem ptC12 : scal Tryz.prog 34 = true := by kernel_rfl
theorem ptS1 : szT Tryz.prog 34 = some 1 := by kernel_rfl
def badE : List Ent := [⟨0, fun _ => False, true⟩]
theorem PartE.bad {d : Nat} {p : Part} : PartE d p pz badE where
  len := rfl
  one := rfl
  wr := fun e he => by rw [List.mem_singleton.1 he]
  is := fun w0 S w' hw => by
    obtain ⟨o, _, hA⟩ := hw.get (b := 0) (A := fun _ => False) (wr := true) .here
    exact hA.elim
instance {d : Nat} {r : Except Nat (List Part)} : Inhabited (PL d r) := ⟨⟨some (0, 0), (match r with | .ok L => L | .error _ => []).map fun _ => pz, (match r with | .ok L => L | .error _ => []).map fun _ => badE, nofun, fun L h => by
  subst h
  refine ⟨by simp, by simp, fun i hi => ?_⟩
  have hi : i < L.length := by simpa using hi
  have e1 : (L.map fun _ => pz).getD i [] = pz := by rw [List.getD_eq_getElem?_getD, List.getElem?_map, List.getElem?_eq_getElem hi]; rfl
  have e2 : (L.map fun _ => badE).getD i [] = badE := by rw [List.getD_eq_getElem?_getD, List.getElem?_map, List.getElem?_eq_getElem hi]; rfl
  show PartE d _ ((L.map fun _ => pz).getD i []) ((L.map fun _ => badE).getD i [])
  rw [e1, e2]
  exact PartE.bad, fun M hM e he => by
  obtain ⟨_, _, rfl⟩ := List.mem_map.1 hM
  rw [List.mem_singleton.1 he]⟩⟩
set_option maxHeartbeats 64000000 in
theorem read_step (k others : Nat) (hko : k + others = 8) (ih : ∀ k', k = k' + 1 → ReadsAs k' (others + 1)) : ReadsAs k others := by
  intro f s w hE hf hs hz hl hb hv
  have hvt : ∀ p ∈ f.l, sameB p.1 ctN = true → p.2.length ≤ 999999 := fun p hp h => hv p hp (.inl h)
  have hve : ∀ p ∈ f.l, sameB p.1 ceN = true → p.2.length ≤ 999999 := fun p hp h => hv p hp (.inr h)
  obtain ⟨tl1, tl2⟩ := typ_low hvt
  have hne := fun e => readP_ne qd_ne k f.l s.l e
  rw [readP_node, nodeR_is] at hne
  rw [readP_node, nodeR_is]
  have cb := fun (M : List Ent) (w' : World) (hw' : Holds w [] M w') => begun_any f s w' (hf.holds hw' rfl) hz hl hvt
  have cy := fun (M : List Ent) (w' : World) (hw' : Holds w [] M w') => rbody_any f s w' (hE.holds hw') (hf.holds hw' rfl) (hs.holds hw' rfl) hz hl hb hve
  refine enter (n := 42) Tryz.func26 rfl rfl rfl (Holds.start w []) ?_
  refine JC.seq (JC.region (JL.box (r := [f.v, s.v]) rfl rfl rfl fun b2 _ => ?_))
  refine JL.alloc (r := pz) ?_ ?_ fun b4 _ => ?_
  exact ptZ9
  rfl
  repeat (first | refine JL.q (by first | (apply OQ.load_agg (cs := [f.v, s.v]); exact ltA12; exact ltS12; exact rfl; exact (.there .here); exact rfl; exact Row.all) | (apply OQ.assign; exact rfl)) rfl ?_ | refine JC.seq ?_ | refine JC.region ?_ | refine JL.nil ?_ | refine JE.next ?_)
  refine JL.callg (ι := G2 (typB f.l).2.1) (vs := [.agg #[f.v, s.v]]) (fun y => .tuple #[.agg ([Z (typB f.l).1, y.z.v, .int .i64 0, nilS.v, .slice none 0 0] : List Value).toArray, N (typB f.l).2.2]) (fun y => y.z.ents) goes_begun rfl rfl (fun y => y.z.ents_wr) (cb _) ?_
  intro y
  have hyl := y.h
  have hyn : y.z.l.length < 9223372036854775807 := by rw [hyl]; omega
  generalize typB f.l = T at *
  refine JL.perm (M' := [⟨b4, Row 36 pz, true⟩, ⟨b2, Row 41 [f.v, s.v], true⟩] ++ y.z.ents) ?_ List.perm_append_comm
  repeat (refine JL.q (by first | (apply OQ.extract; exact rfl; exact rfl) | (apply OQ.move; exact rfl)) rfl ?_)
  refine JL.alloc (r := pz) ?_ ?_ fun b6 _ => ?_
  exact ptZ9
  rfl
  refine JL.store_all (cs := [Z T.1, y.z.v, .int .i64 0, nilS.v, .slice none 0 0]) ptS rfl rfl rfl rfl .here rfl ?_
  by_cases hk : T.2.2 ≠ 0
  · rw [if_pos hk]
    have h0 : decide ((T.2.2 : Int) = 0) = false := decide_eq_false (by omega)
    repeat (first | refine JL.q (by first | (apply OQ.neB (a := (T.2.2 : Int)) (b := 0); exact rfl; exact rfl; exact h0) | (apply OQ.move; exact rfl) | (apply OQ.assign; exact rfl)) rfl ?_ | refine JC.seq ?_ | refine JC.region ?_ | refine JL.nil ?_ | refine JE.next ?_)
    refine JC.cond rfl (fun _ => ?_) (fun h => by cases h)
    refine JC.seq (JC.region (JL.q OQ.build_P0 rfl ?_))
    refine JL.q (OQ.move rfl) rfl ?_
    refine JL.store_all (cs := pz) ptS rfl rfl rfl rfl (.there .here) rfl ?_
    repeat (first | refine JL.q (by (apply OQ.assign; exact rfl)) rfl ?_ | refine JL.nil ?_ | refine JE.next ?_)
    refine JC.ret ?_
    repeat (refine JE.then_ret ?_)
    exact JE.ret2 rfl (RV.cell_agg ptA9 ptS rfl (.there .here) rfl Row.all) (RV.tmp rfl) fun w' hw => ⟨PA.err, rfl, hw.weak (.nil _)⟩
  have hk0 : T.2.2 = 0 := by omega
  have h0 : decide ((T.2.2 : Int) = 0) = true := decide_eq_true (by omega)
  rw [if_neg hk] at hne ⊢
  have ch := fun w' => hasp_any T.1 y.z.v (.int .i64 0) nilS.v (.slice none 0 0) rfl w'
  repeat (first | refine JL.q (by first | (apply OQ.neB (a := (T.2.2 : Int)) (b := 0); exact rfl; exact rfl; exact h0) | (apply OQ.move; exact rfl) | (apply OQ.assign; exact rfl)) rfl ?_ | refine JC.seq ?_ | refine JC.region ?_ | refine JL.nil ?_ | refine JE.next ?_)
  refine JC.cond rfl (fun h => by cases h) (fun _ => ?_)
  cases hm : multiB T.1
  · rw [hm] at ch
    rw [hm, if_neg (by decide)] at hne
    rw [if_neg (by decide)]
    repeat (first | refine JL.q (by first | (apply OQ.load_agg (cs := [Z T.1, y.z.v, .int .i64 0, nilS.v, .slice none 0 0]); exact ptA9; exact ptS; exact rfl; exact .here; exact rfl; exact Row.all) | (apply OQ.callx (vs := [.agg #[Z T.1, y.z.v, .int .i64 0, nilS.v, .slice none 0 0]]); exact goes_hasp; exact rfl; exact (fun w' _ => ch w'))) rfl ?_ | refine JC.seq ?_ | refine JC.region ?_ | refine JC.skip ?_ | refine JL.nil ?_ | refine JE.next ?_)
    refine JC.cond rfl (fun h => by cases h) (fun _ => ?_)
    repeat (first | refine JL.q (by (apply OQ.load_agg (cs := [f.v, s.v]); exact ltA12; exact ltS12; exact rfl; exact (.there (.there .here)); exact rfl; exact Row.all)) rfl ?_ | refine JC.region ?_)
    refine JL.callg (ι := RB f.l s.l) (vs := [.agg #[f.v, s.v]]) (fun r => .tuple #[.int .i64 r.c, r.x.v, N r.k]) (fun r => r.x.ents) goes_rbody rfl rfl (fun r => r.x.ents_wr) (cy _) ?_
    intro r
    refine JL.perm (M' := [⟨b6, Row 36 [Z T.1, y.z.v, .int .i64 0, nilS.v, .slice none 0 0], true⟩, ⟨b4, Row 36 pz, true⟩, ⟨b2, Row 41 [f.v, s.v], true⟩] ++ (r.x.ents ++ y.z.ents)) ?_ (perm_comm3 _ [_, _, _] _)
    repeat (refine JL.q (by first | (apply OQ.extract; exact rfl; exact rfl) | (apply OQ.move; exact rfl) | (apply OQ.fld; exact rfl; exact rfl; exact rfl; exact (by decide); exact rfl)) rfl ?_)
    refine JL.store_eq (v := .int .i64 r.c) (r' := [Z T.1, y.z.v, .int .i64 r.c, nilS.v, .slice none 0 0]) inS12 rfl rfl rfl rfl .here (by simp) rfl ?_
    repeat (refine JL.q (by (apply OQ.fld; exact rfl; exact rfl; exact rfl; exact (by decide); exact rfl)) rfl ?_)
    refine JL.store_eq (v := r.x.v) (r' := [Z T.1, y.z.v, .int .i64 r.c, r.x.v, .slice none 0 0]) bsS12 rfl rfl rfl rfl .here (by simp) rfl ?_
    have hri := r.is
    by_cases hrk : r.k = 0
    · obtain ⟨c', hcc, yb, hyb, hc1, hx1⟩ : ∃ c', codB (ceB f.l) = some c' ∧ ∃ yb, bodyR Quo.Qd c' s.l = .ok yb ∧ r.c = c' ∧ r.x.l = yb := by
        cases hC : codB (ceB f.l) with
        | none => rw [hC] at hri; have : r.k = 3 := hri; omega
        | some c' =>
          rw [hC] at hri
          dsimp only at hri
          cases hb2 : bodyR Quo.Qd c' s.l with
          | error e => rw [hb2] at hri; exact absurd (hri.1 ▸ hrk) hri.2
          | ok yb => rw [hb2] at hri; exact ⟨c', rfl, yb, hb2, hri.2.1, hri.2.2⟩
      have hsp : leafO Quo.Qd (codB (ceB f.l)) s.l T.1 T.2.1 = .ok (.mk T.1 T.2.1 c' yb []) := by
        unfold leafO
        rw [hcc]
        dsimp only
        rw [hyb]
      rw [hsp]
      have hk0' : decide ((r.k : Int) = 0) = true := decide_eq_true (by omega)
      repeat (first | refine JL.q (by first | (apply OQ.neB (a := (r.k : Int)) (b := 0); exact rfl; exact rfl; exact hk0') | (apply OQ.move; exact rfl) | (apply OQ.assign; exact rfl)) rfl ?_ | refine JC.seq ?_ | refine JC.region ?_ | refine JL.nil ?_ | refine JE.next ?_)
      refine JC.cond rfl (fun h => by cases h) (fun _ => ?_)
      repeat (first | refine JL.q (by (apply OQ.load_agg (cs := [Z T.1, y.z.v, .int .i64 r.c, r.x.v, .slice none 0 0]); exact ptA9; exact ptS; exact rfl; exact .here; exact rfl; exact Row.all)) rfl ?_ | refine JC.seq ?_ | refine JC.region ?_ | refine JC.skip ?_ | refine JE.next ?_)
      refine JL.store_all (cs := [Z T.1, y.z.v, .int .i64 r.c, r.x.v, .slice none 0 0]) ptS rfl rfl rfl rfl (.there .here) rfl ?_
      repeat (first | refine JL.q (by (apply OQ.assign; exact rfl)) rfl ?_ | refine JL.nil ?_ | refine JE.next ?_)
      refine JC.ret ?_
      refine JE.ret2 rfl (RV.cell_agg ptA9 ptS rfl (.there .here) rfl Row.all) (RV.tmp rfl) fun w' hw => ?_
      have hPE := partE_leaf (k := T.1) (ps := y.z) (c := r.c) (x := r.x) y.n r.nn
      rw [hyl, hc1, hx1] at hPE
      refine ⟨⟨[Z T.1, y.z.v, .int .i64 c', r.x.v, .slice none 0 0], r.x.ents ++ y.z.ents, rfl, rfl, hPE.wr, fun p hp => by cases hp; exact ⟨rfl, rfl, hPE.wr, fun w0 S w' hw' => (hPE.is w0 S w' hw').mono (by omega)⟩⟩, by rw [hc1]; rfl, hw.weak (.drop _ _ _ (.drop _ _ _ (.drop _ _ _ (Less.refl _))))⟩
    · have hsp : leafO Quo.Qd (codB (ceB f.l)) s.l T.1 T.2.1 = .error r.k := by
        unfold leafO
        cases hC : codB (ceB f.l) with
        | none => rw [hC] at hri; have : r.k = 3 := hri; rw [this]
        | some c' =>
          rw [hC] at hri
          dsimp only at hri ⊢
          cases hb2 : bodyR Quo.Qd c' s.l with
          | error e => rw [hb2] at hri; rw [hri.1]
          | ok yb => rw [hb2] at hri; exact absurd hri.1 hrk
      rw [hsp]
      have hk0' : decide ((r.k : Int) = 0) = false := decide_eq_false (by omega)
      repeat (first | refine JL.q (by first | (apply OQ.neB (a := (r.k : Int)) (b := 0); exact rfl; exact rfl; exact hk0') | (apply OQ.move; exact rfl) | (apply OQ.assign; exact rfl)) rfl ?_ | refine JC.seq ?_ | refine JC.region ?_ | refine JL.nil ?_ | refine JE.next ?_)
      refine JC.cond rfl (fun _ => ?_) (fun h => by cases h)
      refine JC.seq (JC.region (JL.q OQ.build_P0 rfl ?_))
      refine JL.q (OQ.move rfl) rfl ?_
      refine JL.store_all (cs := pz) ptS rfl rfl rfl rfl (.there .here) rfl ?_
      repeat (first | refine JL.q (by (apply OQ.assign; exact rfl)) rfl ?_ | refine JL.nil ?_ | refine JE.next ?_)
      refine JC.ret ?_
      repeat (refine JE.then_ret ?_)
      exact JE.ret2 rfl (RV.cell_agg ptA9 ptS rfl (.there .here) rfl Row.all) (RV.tmp rfl) fun w' hw => ⟨PA.err, rfl, hw.weak (.nil _)⟩
  · rw [hm] at ch
    rw [hm, if_pos rfl] at hne
    rw [if_pos rfl]
    repeat (first | refine JL.q (by first | (apply OQ.load_agg (cs := [Z T.1, y.z.v, .int .i64 0, nilS.v, .slice none 0 0]); exact ptA9; exact ptS; exact rfl; exact .here; exact rfl; exact Row.all) | (apply OQ.callx (vs := [.agg #[Z T.1, y.z.v, .int .i64 0, nilS.v, .slice none 0 0]]); exact goes_hasp; exact rfl; exact (fun w' _ => ch w'))) rfl ?_ | refine JC.seq ?_ | refine JC.region ?_ | refine JC.skip ?_ | refine JL.nil ?_ | refine JE.next ?_)
    refine JC.cond rfl (fun _ => ?_) (fun h => by cases h)
    have cp := fun (M : List Ent) (w' : World) (hw' : Holds w [] M w') => rparts_any k others hko ih s (parB T.2.1 bdN) w' (hE.holds hw') (hs.holds hw' rfl) hb (by omega)
    have co := fun (w' : World) (hw' : y.z.ok w') => bof_any T.1 y.z (.int .i64 0) nilS.v (.slice none 0 0) w' hw' hyn
    rw [hyl] at co
    refine JC.perm (M' := ⟨b2, Row 41 [f.v, s.v], true⟩ :: (⟨b6, Row 36 [Z T.1, y.z.v, .int .i64 0, nilS.v, .slice none 0 0], true⟩ :: ⟨b4, Row 36 pz, true⟩ :: y.z.ents)) ?_ (List.perm_middle (l₁ := [_, _]))
    let vs : Nat → PL k (partsR (subK k) s.l (parB T.2.1 bdN)) → Value := fun j z => match j with
      | 0 => Pt b2 1
      | 1 => s.v
      | 2 => .agg ([Z T.1, y.z.v, .int .i64 0, nilS.v, .slice none 0 0] : List Value).toArray
      | 3 => Z (parB T.2.1 bdN)
      | 4 => N others
      | 5 => .tuple #[z.v, N (codeL (partsR (subK k) s.l (parB T.2.1 bdN)))]
      | 6 => .tuple #[z.v, N (codeL (partsR (subK k) s.l (parB T.2.1 bdN)))]
      | 7 => z.v
      | 8 => N (codeL (partsR (subK k) s.l (parB T.2.1 bdN)))
      | 9 => Pt b6 4
      | _ => N (codeL (partsR (subK k) s.l (parB T.2.1 bdN)))
    let Ms : Nat → PL k (partsR (subK k) s.l (parB T.2.1 bdN)) → List Ent := fun j z => match j with
      | 5 => z.ents
      | 10 => [⟨b6, Row 36 [Z T.1, y.z.v, .int .i64 0, nilS.v, z.v], true⟩]
      | 12 => [⟨b2, Row 41 [f.v, s.v], true⟩]
      | 13 => [⟨b6, Row 36 [Z T.1, y.z.v, .int .i64 0, nilS.v, .slice none 0 0], true⟩]
      | 14 => ⟨b4, Row 36 pz, true⟩ :: y.z.ents
      | _ => []
    refine JC.growR (g := ⟨[(2, Pt b2 0), (4, Pt b4 0), (6, Pt b6 0), (1, N others)], 15, vs, Ms, (fun j => match j with | 1 => [(0, 20)] | 3 => [(2, 22)] | 5 => [(1, 21), (3, 23), (4, 24)] | 6 => [(5, 25)] | 7 => [(6, 19)] | 8 => [(6, 19)] | 10 => [(9, 28), (7, 26)] | 11 => [(8, 27)] | _ => []), (fun j => match j with | 1 => [12] | 2 => [13] | 3 => [14] | 10 => [13] | _ => []), (fun j => match j with | 10 => [13] | _ => []), (fun j => match j with | 6 => some 5 | 7 => some 6 | 10 => some 7 | _ => none), fun _ => [], fun _ a b => a = b⟩) [(11, 7)] [10, 14, 12, 5] mixMi (by repeat (first | exact SubE.nil | refine SubE.cons _ _ _ rfl ?_)) (fun _ _ => .nil) (less_eq (by show _ :: _ :: ((_ :: y.z.ents) ++ []) = _; rw [List.append_nil])) (by kernel_rfl) (by kernel_rfl) (by kernel_rfl) ?_ ?_
    · refine ⟨?_, ?_, ?_, ?_, ?_, ?_, ?_, ?_, ?_, ?_, ?_, ?_, trivial⟩
      · (intro x EF MF Q kk; exact JL.q (OQ.fldx (o := 1) rfl rfl rfl (by decide) rfl rfl) rfl (JL.nil (kk default nofun)))
      · (intro x EF MF Q kk; exact JL.q (OQ.load bsCF rfl .here (Row.cell (v := s.v) rfl)) rfl (JL.nil (kk default nofun)))
      · (intro x EF MF Q kk; exact JL.q (OQ.load_agg (cs := [Z T.1, y.z.v, .int .i64 0, nilS.v, .slice none 0 0]) ptA9 ptS rfl .here rfl Row.all) rfl (JL.nil (kk default nofun)))
      · (intro x EF MF Q kk; exact JL.q (OQ.callx (vs := [.agg #[Z T.1, y.z.v, .int .i64 0, nilS.v, .slice none 0 0]]) goes_bof rfl (fun w' hw' => co w' (Sl2.ents_ok (M := [] ++ MF) (by
          have h1 : Holds w [] (((⟨b4, Row 36 pz, true⟩ :: y.z.ents) ++ []) ++ MF) w' := hw'
          rw [List.append_assoc] at h1
          exact Sl.Holds.weak h1 (.drop _ _ _ (Less.refl _))) y.n))) rfl (JL.nil (kk default nofun)))
      · (intro x EF MF Q kk; exact JL.q (OQ.move rfl) rfl (JL.nil (kk default nofun)))
      · (intro x EF MF Q kk; exact JL.callg (ι := PL k (partsR (subK k) s.l (parB T.2.1 bdN))) (vs := [s.v, Z (parB T.2.1 bdN), N others]) (fun z => .tuple #[z.v, N (codeL (partsR (subK k) s.l (parB T.2.1 bdN)))]) (fun z => z.ents) goes_rparts rfl rfl (fun z => z.entsw) (cp _) fun z => JL.nil (kk z nofun))
      · (intro x EF MF Q kk; exact JL.q (OQ.move rfl) rfl (JL.nil (kk (x 5) (fun k h => by cases h; rfl))))
      · (intro x EF MF Q kk; exact JL.q (OQ.extract rfl rfl) rfl (JL.nil (kk (x 6) (fun k h => by cases h; rfl))))
      · (intro x EF MF Q kk; exact JL.q (OQ.extract rfl rfl) rfl (JL.nil (kk default nofun)))
      · (intro x EF MF Q kk; exact JL.q (OQ.fldx (o := 4) rfl rfl rfl (by decide) rfl rfl) rfl (JL.nil (kk default nofun)))
      · (intro x EF MF Q kk; exact JL.store_eq (v := (x 7).v) (r' := [Z T.1, y.z.v, .int .i64 0, nilS.v, (x 7).v]) ptS1 rfl rfl (accV_one _ _) (accV_cells _ _) .here (by simp) rfl (JL.nil (kk (x 7) (fun k h => by cases h; rfl))))
      · (intro x EF MF Q kk; exact JL.q (OQ.assign rfl) rfl (JL.nil (kk default nofun)))
    intro x hx
    have z6 : x 6 = x 5 := hx 6 5 (by decide) rfl
    have z7 : x 7 = x 6 := hx 7 6 (by decide) rfl
    have z10 : x 10 = x 7 := hx 10 7 (by decide) rfl
    have hz10 : x 10 = x 5 := z10.trans (z7.trans z6)
    show JE _ _ _ _ _ [(7, N (codeL (partsR (subK k) s.l (parB T.2.1 bdN)))), (2, Pt b2 0), (4, Pt b4 0), (6, Pt b6 0), (1, N others)] ([⟨b6, Row 36 [Z T.1, y.z.v, .int .i64 0, nilS.v, (x 10).v], true⟩] ++ ((⟨b4, Row 36 pz, true⟩ :: y.z.ents) ++ ([⟨b2, Row 41 [f.v, s.v], true⟩] ++ ((x 5).ents ++ []))))
    rw [hz10]
    clear hz10 z10 z7 z6 hx
    generalize x 5 = z
    clear x vs Ms cp co
    refine JE.perm (M' := ⟨b6, Row 36 [Z T.1, y.z.v, .int .i64 0, nilS.v, z.v], true⟩ :: ⟨b4, Row 36 pz, true⟩ :: ⟨b2, Row 41 [f.v, s.v], true⟩ :: (y.z.ents ++ (z.ents ++ []))) (.cons _ (.cons _ List.perm_middle)) ?_
    refine JE.next ?_
    have hcp : (∃ e, partsR (subK k) s.l (parB T.2.1 bdN) = .error e) ∨ (∃ L, partsR (subK k) s.l (parB T.2.1 bdN) = .ok L) := by
      cases partsR (subK k) s.l (parB T.2.1 bdN) with
      | error e => exact .inl ⟨e, rfl⟩
      | ok L => exact .inr ⟨L, rfl⟩
    rcases hcp with ⟨e, hp⟩ | ⟨L, hp⟩
    · have hcl : codeL (partsR (subK k) s.l (parB T.2.1 bdN)) = e := by rw [hp]; rfl
      rw [hcl]
      rw [hp] at hne
      have he := hne e rfl
      have hsp : multO (partsR (subK k) s.l (parB T.2.1 bdN)) T.1 T.2.1 = .error e := by rw [hp]; rfl
      rw [hsp]
      have hk0' : decide ((e : Int) = 0) = false := decide_eq_false (by omega)
      repeat (first | refine JL.q (by first | (apply OQ.neB (a := (e : Int)) (b := 0); exact rfl; exact rfl; exact hk0') | (apply OQ.move; exact rfl)) rfl ?_ | refine JC.seq ?_ | refine JC.region ?_ | refine JL.nil ?_ | refine JE.next ?_)
      refine JC.cond rfl (fun _ => ?_) (fun h => by cases h)
      refine JC.seq (JC.region (JL.q OQ.build_P0 rfl ?_))
      refine JL.q (OQ.move rfl) rfl ?_
      refine JL.store_all (cs := pz) ptS rfl rfl rfl rfl (.there .here) rfl ?_
      repeat (first | refine JL.q (by (apply OQ.assign; exact rfl)) rfl ?_ | refine JL.nil ?_ | refine JE.next ?_)
      refine JC.ret ?_
      repeat (refine JE.then_ret ?_)
      exact JE.ret2 rfl (RV.cell_agg ptA9 ptS rfl (.there .here) rfl Row.all) (RV.tmp rfl) fun w' hw => ⟨PA.err, rfl, hw.weak (.nil _)⟩
    · have hcl : codeL (partsR (subK k) s.l (parB T.2.1 bdN)) = 0 := by rw [hp]; rfl
      rw [hcl]
      obtain ⟨i1, i2, i3⟩ := z.is L hp
      have hzv : z.v = accV z.q L.length := by unfold PL.v; rw [i1]
      have hsp : multO (partsR (subK k) s.l (parB T.2.1 bdN)) T.1 T.2.1 = .ok (.mk T.1 T.2.1 0 [] L) := by rw [hp]; rfl
      rw [hsp]
      have h00 : decide (((0 : Nat) : Int) = 0) = true := rfl
      rw [hzv]
      repeat (first | refine JL.q (by first | (apply OQ.neB (a := ((0 : Nat) : Int)) (b := 0); exact rfl; exact rfl; exact h00) | (apply OQ.move; exact rfl)) rfl ?_ | refine JC.seq ?_ | refine JC.region ?_ | refine JL.nil ?_ | refine JE.next ?_)
      refine JC.cond rfl (fun h => by cases h) (fun _ => ?_)
      repeat (first | refine JL.q (by (apply OQ.load_agg (cs := [Z T.1, y.z.v, .int .i64 0, nilS.v, accV z.q L.length]); exact ptA9; exact ptS; exact rfl; exact .here; exact rfl; exact Row.all)) rfl ?_ | refine JC.seq ?_ | refine JC.region ?_ | refine JC.skip ?_ | refine JE.next ?_)
      have hPE := partE_node (d := k) (k := T.1) (ps := y.z) (L := L) (subs := z.subs) (Ms := z.Ms) (q := z.q) y.n z.hq i1 i2 i3
      rw [hyl] at hPE
      refine JL.store_all (cs := [Z T.1, y.z.v, .int .i64 0, nilS.v, accV z.q L.length]) ptS rfl rfl rfl hPE.one (.there .here) rfl ?_
      repeat (first | refine JL.q (by (apply OQ.assign; exact rfl)) rfl ?_ | refine JL.nil ?_ | refine JE.next ?_)
      refine JC.ret ?_
      refine JE.ret2 rfl (RV.cell_agg ptA9 ptS rfl (.there .here) rfl Row.all) (RV.tmp rfl) fun w' hw => ?_
      refine ⟨⟨[Z T.1, y.z.v, .int .i64 0, nilS.v, accV z.q L.length], accC 36 5 z.q z.subs ++ (y.z.ents ++ z.Ms.flatten), rfl, hPE.one, hPE.wr, fun p hp => by cases hp; exact hPE⟩, rfl, ?_⟩
      have h1 : Holds w [] (y.z.ents ++ (z.ents ++ [])) w' := hw.weak (.drop _ _ _ (.drop _ _ _ (.drop _ _ _ (Less.refl _))))
      rw [List.append_nil] at h1
      exact h1.perm (perm_comm3 _ _ _)
theorem mread_any : ∀ (k others : Nat), k + others = 8 → ReadsAs k others := by
  intro k
  induction k with
  | zero => exact fun others h => read_step 0 others h nofun
  | succ k ih => exact fun others h => read_step (k + 1) others h fun k' e => by cases e; exact ih (others + 1) (by omega)
set_option maxHeartbeats 8000000 in
theorem mreadT_any (f : Sl2) (s : Sl8) (w : World) (hE : EncOk w) (hf : f.ok w) (hs : s.ok w) (hz : small2 f) (hl : f.l.length ≤ 1000000) (hb : s.l.length ≤ 20000) (hv : ∀ p ∈ f.l, sameB p.1 ctN = true ∨ sameB p.1 ceN = true → p.2.length ≤ 999999) : Calls Tryz.prog 14 [.agg #[f.v, s.v]].toArray w
    fun e w' => ∃ x : PA 9 (readP Quo.Qd 8 f.l s.l), e = .returned (.tuple #[.agg x.cs.toArray, N (codeE (readP Quo.Qd 8 f.l s.l))]) ∧ Holds w [] x.M w' := by
  refine enter (n := 8) Tryz.func14 rfl rfl rfl (Holds.start w []) ?_
  refine JC.seq (JC.region (JL.box (r := [f.v, s.v]) rfl rfl rfl fun b1 _ => ?_))
  refine JL.alloc (r := pz) ?_ ?_ fun b2 _ => ?_
  exact ptZ9
  rfl
  repeat (first | refine JL.q (by first | (apply OQ.load_agg (cs := [f.v, s.v]); exact ltA12; exact ltS12; exact rfl; exact (.there .here); exact rfl; exact Row.all) | (apply OQ.assign; exact rfl)) rfl ?_ | refine JC.seq ?_ | refine JC.region ?_ | refine JL.nil ?_ | refine JE.next ?_)
  refine JL.callg (ι := PA 9 (readP Quo.Qd 8 f.l s.l)) (vs := [.agg #[f.v, s.v], N 0]) (fun x => .tuple #[.agg x.cs.toArray, N (codeE (readP Quo.Qd 8 f.l s.l))]) (fun x => x.M) goes_readU rfl rfl (fun x => x.wr) (fun w' hw' => mread_any 8 0 rfl f s w' (hE.holds hw') (hf.holds hw' rfl) (hs.holds hw' rfl) hz hl hb hv) ?_
  intro x
  refine JL.perm (M' := [⟨b2, Row 36 pz, true⟩, ⟨b1, Row 41 [f.v, s.v], true⟩] ++ x.M) ?_ List.perm_append_comm
  repeat (refine JL.q (by (apply OQ.extract; exact rfl; exact rfl)) rfl ?_)
  refine JL.store_all (cs := x.cs) ptS rfl rfl x.len x.one .here rfl ?_
  repeat (first | refine JL.q (by (apply OQ.assign; exact rfl)) rfl ?_ | refine JL.nil ?_ | refine JE.next ?_)
  refine JC.ret ?_
  exact JE.ret2 rfl (RV.cell_agg ptA9 ptS rfl .here x.len Row.all) (RV.tmp rfl) fun w' hw => ⟨x, rfl, hw.weak (.drop _ _ _ (.drop _ _ _ (Less.refl _)))⟩
end Go.Proofs.YtbbmhkdfdgnkpaaGreatDoor

/-
  Of no statement by itself: what mime's Boundary, Split and Read owe is paid (mimeOk).
  Conditions: each theorem's own.
-/
namespace Go.Proofs.YtbbmhkdfdgnkpaaGreatDoor
open Sl Fld Mim
theorem mimeOk : MimeOk Quo.Qd where
  bound := fun s w h => mbnd_any s w (by omega)
  split := fun s bd w hs hl hb => (msplit_any s bd w hs (by omega) hb).mono fun e w' ⟨z, h1, h2⟩ =>
    ⟨⟨accL z.q z.rs, by show (accL z.q z.rs).rs.map Sl8.l = _; rw [accL_rs z.hq, z.hrs]⟩, by rw [h1, accL_v]; rfl, h2.chg, accL_ok h2 z.h0⟩
  read := fun f s w hE hf hs hz hl hl2 hv => (mreadT_any f s w hE hf hs hz (by omega) hl2 (fun p hp h => by have := hv p hp h; omega)).mono fun e w' ⟨x, h1, h2⟩ =>
    ⟨⟨x.cs, x.len⟩, h1, h2.chg, fun p hp => ((x.is p hp).is _ _ _ h2).mono (by omega)⟩
end Go.Proofs.YtbbmhkdfdgnkpaaGreatDoor

/-
  Of no statement by itself: what the landed token's addValue gives.
  Conditions: the theorem's own.
-/
namespace Go.Proofs.YtbbmhkdfdgnkpaaGreatDoor
set_option maxRecDepth 10000
open Sl Fld Tok
theorem goes_addValue : Goes Tryz.prog 57 := ⟨_, Tryz.func57, rfl, by kernel_rfl⟩
def valW (v : List Fld.By) : List Fld.By := if simpleB v then v else [34] ++ esc v ++ [34]
theorem escW_len (v : List Fld.By) : (esc v).length ≤ 2 * v.length := by
  induction v with
  | nil => decide
  | cons c v ih =>
    have e : esc (c :: v) = (if c = 34 ∨ c = 92 then [92, c] else [c]) ++ esc v := by unfold esc; rw [List.flatMap_cons]
    rw [e, List.length_append, List.length_cons]
    split
    · simp only [List.length_cons, List.length_nil]; omega
    · simp only [List.length_cons, List.length_nil]; omega
theorem valW_len (v : List Fld.By) : (valW v).length ≤ 2 * v.length + 2 := by
  have := escW_len v
  unfold valW
  split
  · omega
  · simp only [List.length_append, List.length_cons, List.length_nil]; omega
theorem esc_take (v : List Fld.By) {i : Nat} (h : i < v.length) : esc (v.take (i + 1)) = esc (v.take i) ++ (if v.getD i 0 = 34 ∨ v.getD i 0 = 92 then [92, v.getD i 0] else [v.getD i 0]) := by
  rw [List.take_add_one, List.getElem?_eq_getElem h, Option.toList_some]
  unfold esc
  rw [List.flatMap_append, List.flatMap_singleton]
  rw [List.getD_eq_getElem?_getD, List.getElem?_eq_getElem h]
  rfl
structure AvS where
  i : Nat
  b : Nat
  cap : Nat
set_option maxHeartbeats 16000000 in
theorem addValue_any (b cap : Nat) (X v : List Bt) (w : World) {o : Obj} (ho : w.heap[b]? = some o) (hA : OwnF 5 X.length cap (X.map U8) o) (hX : X.length ≤ 1000000000) (hv : v.length ≤ 2000000) : Calls Tryz.prog 57 [.slice (some ⟨b, 0, none⟩) X.length cap, Z v].toArray w fun e w' => ∃ q : Nat × Nat, e = .returned (.slice (some ⟨q.1, 0, none⟩) (X ++ valW v).length q.2) ∧ Holds w [b] [⟨q.1, OwnF 5 (X ++ valW v).length q.2 ((X ++ valW v).map U8), true⟩] w' := by
  refine enter (n := 43) Tryz.func57 rfl rfl rfl (Holds.one ho hA) ?_
  have cM : ∀ (d : Nat) (w0 w' : World) (S : List Nat) (M : List Ent), Holds w0 S (⟨d, Row 9 [Z notWord], true⟩ :: M) w' → Calls Tryz.prog 77 [Z v, prF d].toArray w' fun e w'' => e = .returned (.bool (simpleB v)) ∧ Ext w' w'' := fun d w0 w' S M hw' => by
    have := made_any v (prF d) (prB notWord) w' (fun_printed hw' .here) (by omega)
    rw [made_word] at this
    exact this
  repeat (first | refine JL.q (by first | (apply OQ.move; exact rfl) | (apply OQ.assign; exact rfl)) rfl ?_ | refine JC.seq ?_ | refine JC.region ?_ | refine JL.nil ?_ | refine JE.next ?_)
  refine JL.callg (ι := Nat) (vs := [Z notWord]) prF (fun b => [⟨b, Row 9 [Z notWord], true⟩]) goes_printed rfl rfl (fun b e he => by rw [List.mem_singleton.1 he]) (fun w' _ => printed_any notWord w') fun d => ?_
  unfold valW
  cases hs : simpleB v
  case true =>
    rw [if_pos rfl]
    rw [hs] at cM
    repeat (first | refine JL.q (by (apply OQ.callx (vs := [Z v, prF d]); exact goes_made; exact rfl; exact (fun w' hw' => cM d _ w' _ _ hw'))) rfl ?_ | refine JL.nil ?_ | refine JE.next ?_)
    refine JC.cond rfl (fun _ => ?_) (fun h => by cases h)
    repeat (first | refine JL.q (by (apply OQ.move; exact rfl)) rfl ?_ | refine JC.seq ?_ | refine JC.region ?_)
    refine JL.appendX (v := Z v) (m := v.length) (xs := X.map U8) (news := v.map U8) (fun b' cap' => [⟨d, Row 9 [Z notWord], true⟩, ⟨b', OwnF 5 (X.length + v.length) cap' (X.map U8 ++ v.map U8), true⟩]) Tryz.underlying22 u8e rfl rfl (fun _ _ => src_str Tryz.underlying9) (by intro _ _; repeat (first | exact Repl.here | apply Repl.there)) (by omega) rfl fun b' cap' => ?_
    repeat (first | refine JL.q (by (apply OQ.assign; exact rfl)) rfl ?_ | refine JL.nil ?_ | refine JE.next ?_)
    refine JC.ret ?_
    repeat (refine JE.then_ret ?_)
    refine JE.ret1 rfl (RV.tmp rfl) fun w' hw => ⟨(b', cap'), ?_, ?_⟩
    · rw [List.length_append]
    · rw [List.length_append, List.map_append]
      exact hw.weak (.drop _ _ _ (Less.refl _))
  rw [if_neg (by decide)]
  rw [hs] at cM
  repeat (first | refine JL.q (by (apply OQ.callx (vs := [Z v, prF d]); exact goes_made; exact rfl; exact (fun w' hw' => cM d _ w' _ _ hw'))) rfl ?_ | refine JL.nil ?_ | refine JE.next ?_)
  refine JC.cond rfl (fun h => by cases h) (fun _ => ?_)
  repeat (first | refine JL.q (by (apply OQ.move; exact rfl)) rfl ?_ | refine JC.seq ?_ | refine JC.region ?_ | refine JC.skip ?_ | refine JE.next ?_)
  refine JL.pushF (v := U8 34) (xs := X.map U8) (fun b' cap' => [⟨d, Row 9 [Z notWord], true⟩, ⟨b', OwnF 5 (X.length + 1) cap' (X.map U8 ++ [U8 34]), true⟩]) Tryz.underlying22 u8e rfl rfl rfl (fun _ => rfl) (by intro _ _; repeat (first | exact Repl.here | apply Repl.there)) (by omega) rfl rfl fun bl b1 cap1 => ?_
  repeat (first | refine JL.q (by first | (apply OQ.lenS; exact Tryz.underlying9; exact rfl) | (apply OQ.move; exact rfl) | (apply OQ.assign; exact rfl)) rfl ?_ | refine JC.seq ?_ | refine JC.region ?_ | refine JC.block ?_ | refine JL.nil ?_ | refine JE.next ?_)
  have hel : ∀ i, (esc (v.take i)).length ≤ 4000000 := fun i => by
    have := escW_len (v.take i)
    rw [List.length_take] at this
    omega
  refine JC.loop (fun z : AvS => [(0, .slice (some ⟨z.b, 0, none⟩) (X ++ [34] ++ esc (v.take z.i)).length z.cap), (1, Z v), (16, N v.length), (17, N z.i)]) (fun z => [⟨z.b, OwnF 5 (X ++ [34] ++ esc (v.take z.i)).length z.cap ((X ++ [34] ++ esc (v.take z.i)).map U8), true⟩]) (fun z => v.length - z.i) (fun z => z.i ≤ v.length) ⟨0, b1, cap1⟩ (Nat.zero_le _) ?_ ?_ ?_
  · show SubE _ [(0, .slice (some ⟨b1, 0, none⟩) (X ++ [34] ++ esc (v.take 0)).length cap1), (1, Z v), (16, N v.length), (17, N 0)]
    rw [List.take_zero, show esc [] = [] from rfl, List.append_nil, List.length_append, List.length_singleton]
    exact (by repeat (first | exact SubE.nil | refine SubE.cons _ _ _ rfl ?_))
  · show Less [⟨b1, OwnF 5 (X ++ [34] ++ esc (v.take 0)).length cap1 ((X ++ [34] ++ esc (v.take 0)).map U8), true⟩] _
    rw [List.take_zero, show esc [] = [] from rfl, List.append_nil, List.length_append, List.length_singleton, List.map_append]
    exact .drop _ _ _ (Less.refl _)
  rintro ⟨i, b2, cap2⟩ hi
  dsimp only at hi ⊢
  have hll : (X ++ [34] ++ esc (v.take i)).length ≤ X.length + 4000001 := by
    have := hel i
    simp only [List.length_append, List.length_singleton]
    omega
  repeat (first | refine JL.q (by (apply OQ.lssN; exact rfl; exact rfl)) rfl ?_ | refine JC.seq ?_ | refine JC.region ?_ | refine JL.nil ?_ | refine JE.next ?_)
  refine JC.cond rfl (fun h => ?_) (fun h => ?_)
  · have hi' : i < v.length := of_decide_eq_true h
    clear h hi
    have hst := esc_take v hi'
    have i0 := fun {n : Nat} {E : Env} {C : World → Prop} {dst : Option Tmp} {ty : TypeId} {pos : String} {aft : Array Edge} {g : Option (Nat × Bool)} {x y : Operand} => idxAt10 hi' (n := n) (E := E) (C := C) (dst := dst) (ty := ty) (pos := pos) (aft := aft) (g := g) (x := x) (y := y)
    generalize v.getD i 0 = c at hst i0
    cases h34 : decide (c = 34) <;> cases h92 : decide (c = 92)
    · have hst2 : esc (v.take (i + 1)) = esc (v.take i) ++ [c] := by rw [hst, if_neg (fun k => k.elim (of_decide_eq_false h34) (of_decide_eq_false h92))]
      have heq : X ++ [34] ++ esc (v.take (i + 1)) = (X ++ [34] ++ esc (v.take i)) ++ [c] := by rw [hst2]; simp
      repeat (first | refine JL.q (by first | (apply i0; exact rfl; exact rfl) | (apply OQ.eq8T (b := 34); exact rfl; exact rfl; exact h34) | (apply OQ.eq8T (b := 92); exact rfl; exact rfl; exact h92) | (apply OQ.pick_f; exact rfl; exact rfl) | (apply OQ.move; exact rfl) | (apply OQ.assign; exact rfl)) rfl ?_ | refine JC.seq ?_ | refine JC.region ?_ | refine JC.block ?_ | refine JC.skip ?_ | refine JL.nil ?_ | refine JE.next ?_ | refine JL.gon rfl rfl ?_)
      refine JC.cond rfl (fun h => by cases h) (fun _ => ?_)
      generalize X ++ [34] ++ esc (v.take i) = O at hll heq ⊢
      repeat (first | refine JL.q (by first | (apply i0; exact rfl; exact rfl) | (apply OQ.move; exact rfl)) rfl ?_ | refine JC.region ?_ | refine JC.skip ?_ | refine JE.next ?_)
      refine JL.pushF (v := U8 c) (xs := O.map U8) (fun b' cap' => [⟨b', OwnF 5 (O.length + 1) cap' (O.map U8 ++ [U8 c]), true⟩]) Tryz.underlying22 u8e rfl rfl rfl (fun _ => rfl) (by intro _ _; repeat (first | exact Repl.here | apply Repl.there)) (by omega) rfl rfl fun bl b4 cap4 => ?_
      repeat (first | refine JL.q (by first | (apply OQ.move; exact rfl) | (apply OQ.assign; exact rfl) | (apply OQ.addN; exact rfl; exact rfl; exact (by (try simp only []); omega))) rfl ?_ | refine JC.region ?_ | refine JL.nil ?_ | refine JE.next ?_ | refine JE.blk_normal ?_)
      refine JE.again (i := AvS.mk i b2 cap2) (AvS.mk (i + 1) b4 cap4) hi' (by dsimp only; omega) ?_ (.keep _ _ _ _ _ _ (fun o' h => ?_) (.nil _))
      · dsimp only; rw [heq, List.length_append]; exact (by repeat (first | exact SubE.nil | refine SubE.cons _ _ _ rfl ?_))
      · dsimp only; rw [heq, List.length_append, List.map_append]; exact h
    · have hst2 : esc (v.take (i + 1)) = esc (v.take i) ++ [92] ++ [c] := by rw [hst, if_pos (by exact .inr (of_decide_eq_true h92))]; simp
      have heq : X ++ [34] ++ esc (v.take (i + 1)) = (X ++ [34] ++ esc (v.take i)) ++ [92] ++ [c] := by rw [hst2]; simp
      repeat (first | refine JL.q (by first | (apply i0; exact rfl; exact rfl) | (apply OQ.eq8T (b := 34); exact rfl; exact rfl; exact h34) | (apply OQ.eq8T (b := 92); exact rfl; exact rfl; exact h92) | (apply OQ.pick_f; exact rfl; exact rfl) | (apply OQ.move; exact rfl) | (apply OQ.assign; exact rfl)) rfl ?_ | refine JC.seq ?_ | refine JC.region ?_ | refine JC.block ?_ | refine JC.skip ?_ | refine JL.nil ?_ | refine JE.next ?_ | refine JL.gon rfl rfl ?_)
      refine JC.cond rfl (fun _ => ?_) (fun h => by cases h)
      generalize X ++ [34] ++ esc (v.take i) = O at hll heq ⊢
      repeat (first | refine JL.q (by (apply OQ.move; exact rfl)) rfl ?_ | refine JC.region ?_)
      refine JL.pushF (v := U8 92) (xs := O.map U8) (fun b' cap' => [⟨b', OwnF 5 (O.length + 1) cap' (O.map U8 ++ [U8 92]), true⟩]) Tryz.underlying22 u8e rfl rfl rfl (fun _ => rfl) (by intro _ _; repeat (first | exact Repl.here | apply Repl.there)) (by omega) rfl rfl fun bl b3 cap3 => ?_
      repeat (first | refine JL.q (by first | (apply i0; exact rfl; exact rfl) | (apply OQ.move; exact rfl) | (apply OQ.assign; exact rfl)) rfl ?_ | refine JC.region ?_ | refine JL.nil ?_ | refine JE.next ?_)
      refine JL.pushF (v := U8 c) (xs := O.map U8 ++ [U8 92]) (fun b' cap' => [⟨b', OwnF 5 (O.length + 1 + 1) cap' (O.map U8 ++ [U8 92] ++ [U8 c]), true⟩]) Tryz.underlying22 u8e rfl rfl rfl (fun _ => rfl) (by intro _ _; repeat (first | exact Repl.here | apply Repl.there)) (by omega) rfl rfl fun bl b4 cap4 => ?_
      repeat (first | refine JL.q (by first | (apply OQ.move; exact rfl) | (apply OQ.assign; exact rfl) | (apply OQ.addN; exact rfl; exact rfl; exact (by (try simp only []); omega))) rfl ?_ | refine JC.region ?_ | refine JL.nil ?_ | refine JE.next ?_ | refine JE.blk_normal ?_)
      refine JE.again (i := AvS.mk i b2 cap2) (AvS.mk (i + 1) b4 cap4) hi' (by dsimp only; omega) ?_ (.keep _ _ _ _ _ _ (fun o' h => ?_) (.nil _))
      · dsimp only; rw [heq, List.length_append, List.length_append]; exact (by repeat (first | exact SubE.nil | refine SubE.cons _ _ _ rfl ?_))
      · dsimp only; rw [heq, List.length_append, List.length_append, List.map_append, List.map_append]; exact h
    · have hst2 : esc (v.take (i + 1)) = esc (v.take i) ++ [92] ++ [c] := by rw [hst, if_pos (by exact .inl (of_decide_eq_true h34))]; simp
      have heq : X ++ [34] ++ esc (v.take (i + 1)) = (X ++ [34] ++ esc (v.take i)) ++ [92] ++ [c] := by rw [hst2]; simp
      repeat (first | refine JL.q (by first | (apply i0; exact rfl; exact rfl) | (apply OQ.eq8T (b := 34); exact rfl; exact rfl; exact h34) | (apply OQ.pick_t; exact rfl; exact rfl) | (apply OQ.move; exact rfl) | (apply OQ.assign; exact rfl)) rfl ?_ | refine JC.seq ?_ | refine JC.region ?_ | refine JC.block ?_ | refine JC.skip ?_ | refine JL.nil ?_ | refine JE.next ?_ | refine JL.gskip rfl rfl rfl rfl ?_)
      refine JC.cond rfl (fun _ => ?_) (fun h => by cases h)
      generalize X ++ [34] ++ esc (v.take i) = O at hll heq ⊢
      repeat (first | refine JL.q (by (apply OQ.move; exact rfl)) rfl ?_ | refine JC.region ?_)
      refine JL.pushF (v := U8 92) (xs := O.map U8) (fun b' cap' => [⟨b', OwnF 5 (O.length + 1) cap' (O.map U8 ++ [U8 92]), true⟩]) Tryz.underlying22 u8e rfl rfl rfl (fun _ => rfl) (by intro _ _; repeat (first | exact Repl.here | apply Repl.there)) (by omega) rfl rfl fun bl b3 cap3 => ?_
      repeat (first | refine JL.q (by first | (apply i0; exact rfl; exact rfl) | (apply OQ.move; exact rfl) | (apply OQ.assign; exact rfl)) rfl ?_ | refine JC.region ?_ | refine JL.nil ?_ | refine JE.next ?_)
      refine JL.pushF (v := U8 c) (xs := O.map U8 ++ [U8 92]) (fun b' cap' => [⟨b', OwnF 5 (O.length + 1 + 1) cap' (O.map U8 ++ [U8 92] ++ [U8 c]), true⟩]) Tryz.underlying22 u8e rfl rfl rfl (fun _ => rfl) (by intro _ _; repeat (first | exact Repl.here | apply Repl.there)) (by omega) rfl rfl fun bl b4 cap4 => ?_
      repeat (first | refine JL.q (by first | (apply OQ.move; exact rfl) | (apply OQ.assign; exact rfl) | (apply OQ.addN; exact rfl; exact rfl; exact (by (try simp only []); omega))) rfl ?_ | refine JC.region ?_ | refine JL.nil ?_ | refine JE.next ?_ | refine JE.blk_normal ?_)
      refine JE.again (i := AvS.mk i b2 cap2) (AvS.mk (i + 1) b4 cap4) hi' (by dsimp only; omega) ?_ (.keep _ _ _ _ _ _ (fun o' h => ?_) (.nil _))
      · dsimp only; rw [heq, List.length_append, List.length_append]; exact (by repeat (first | exact SubE.nil | refine SubE.cons _ _ _ rfl ?_))
      · dsimp only; rw [heq, List.length_append, List.length_append, List.map_append, List.map_append]; exact h
    · have hst2 : esc (v.take (i + 1)) = esc (v.take i) ++ [92] ++ [c] := by rw [hst, if_pos (by exact .inl (of_decide_eq_true h34))]; simp
      have heq : X ++ [34] ++ esc (v.take (i + 1)) = (X ++ [34] ++ esc (v.take i)) ++ [92] ++ [c] := by rw [hst2]; simp
      repeat (first | refine JL.q (by first | (apply i0; exact rfl; exact rfl) | (apply OQ.eq8T (b := 34); exact rfl; exact rfl; exact h34) | (apply OQ.pick_t; exact rfl; exact rfl) | (apply OQ.move; exact rfl) | (apply OQ.assign; exact rfl)) rfl ?_ | refine JC.seq ?_ | refine JC.region ?_ | refine JC.block ?_ | refine JC.skip ?_ | refine JL.nil ?_ | refine JE.next ?_ | refine JL.gskip rfl rfl rfl rfl ?_)
      refine JC.cond rfl (fun _ => ?_) (fun h => by cases h)
      generalize X ++ [34] ++ esc (v.take i) = O at hll heq ⊢
      repeat (first | refine JL.q (by (apply OQ.move; exact rfl)) rfl ?_ | refine JC.region ?_)
      refine JL.pushF (v := U8 92) (xs := O.map U8) (fun b' cap' => [⟨b', OwnF 5 (O.length + 1) cap' (O.map U8 ++ [U8 92]), true⟩]) Tryz.underlying22 u8e rfl rfl rfl (fun _ => rfl) (by intro _ _; repeat (first | exact Repl.here | apply Repl.there)) (by omega) rfl rfl fun bl b3 cap3 => ?_
      repeat (first | refine JL.q (by first | (apply i0; exact rfl; exact rfl) | (apply OQ.move; exact rfl) | (apply OQ.assign; exact rfl)) rfl ?_ | refine JC.region ?_ | refine JL.nil ?_ | refine JE.next ?_)
      refine JL.pushF (v := U8 c) (xs := O.map U8 ++ [U8 92]) (fun b' cap' => [⟨b', OwnF 5 (O.length + 1 + 1) cap' (O.map U8 ++ [U8 92] ++ [U8 c]), true⟩]) Tryz.underlying22 u8e rfl rfl rfl (fun _ => rfl) (by intro _ _; repeat (first | exact Repl.here | apply Repl.there)) (by omega) rfl rfl fun bl b4 cap4 => ?_
      repeat (first | refine JL.q (by first | (apply OQ.move; exact rfl) | (apply OQ.assign; exact rfl) | (apply OQ.addN; exact rfl; exact rfl; exact (by (try simp only []); omega))) rfl ?_ | refine JC.region ?_ | refine JL.nil ?_ | refine JE.next ?_ | refine JE.blk_normal ?_)
      refine JE.again (i := AvS.mk i b2 cap2) (AvS.mk (i + 1) b4 cap4) hi' (by dsimp only; omega) ?_ (.keep _ _ _ _ _ _ (fun o' h => ?_) (.nil _))
      · dsimp only; rw [heq, List.length_append, List.length_append]; exact (by repeat (first | exact SubE.nil | refine SubE.cons _ _ _ rfl ?_))
      · dsimp only; rw [heq, List.length_append, List.length_append, List.map_append, List.map_append]; exact h
  · have hi' : ¬ i < v.length := of_decide_eq_false h
    obtain rfl : i = v.length := by omega
    rw [List.take_length] at hll ⊢
    generalize esc v = ev at hll ⊢
    repeat (first | refine JL.q (by (apply OQ.move; exact rfl)) rfl ?_ | refine JC.seq ?_ | refine JC.region ?_ | refine JC.exit ?_ | refine JE.next ?_ | refine JE.then_exit ?_ | refine JE.blk_hit ?_)
    refine JL.pushF (v := U8 34) (xs := (X ++ [34] ++ ev).map U8) (fun b' cap' => [⟨b', OwnF 5 ((X ++ [34] ++ ev).length + 1) cap' ((X ++ [34] ++ ev).map U8 ++ [U8 34]), true⟩]) Tryz.underlying22 u8e rfl rfl rfl (fun _ => rfl) (by intro _ _; repeat (first | exact Repl.here | apply Repl.there)) (by omega) rfl rfl fun bl b' cap' => ?_
    repeat (first | refine JL.q (by (apply OQ.assign; exact rfl)) rfl ?_ | refine JL.nil ?_ | refine JE.next ?_)
    refine JC.ret ?_
    refine JE.ret1 rfl (RV.tmp rfl) fun w' hw => ⟨(b', cap'), ?_, ?_⟩
    · dsimp only
      rw [show X ++ ([34] ++ ev ++ [34]) = X ++ [34] ++ ev ++ [34] by simp, List.length_append (bs := [34])]
      rfl
    · dsimp only
      rw [show X ++ ([34] ++ ev ++ [34]) = X ++ [34] ++ ev ++ [34] by simp, List.length_append (bs := [34]), List.map_append (l₂ := [34])]
      exact hw
end Go.Proofs.YtbbmhkdfdgnkpaaGreatDoor

/-
  Of no statement by itself: what token's functions owe (TokenOk); over it: what despatchlaw10's speaks, TokenBare and TokenAddress give.
  Conditions: TokenOk, and each theorem's own.
-/
namespace Go.Proofs.YtbbmhkdfdgnkpaaGreatDoor
set_option maxRecDepth 10000
open Sl Fld Tok
structure TokenOk : Prop where
  atom : ∀ (s : List Bt) (w : World), s.length < 1000000 → Calls Tryz.prog 55 [Z s].toArray w fun e w' => e = .returned (.bool (atomB s)) ∧ Ext w w'
  bare : ∀ (s : List Bt) (w : World), s.length < 140000000 → Calls Tryz.prog 90 [Z s].toArray w fun e w' => e = .returned (.tuple #[Z (bareB s).1, N (bareB s).2]) ∧ Ext w w'
  params : ∀ (s : List Bt) (w : World), s.length < 1000000 → Calls Tryz.prog 65 [Z s].toArray w fun e w' => ∃ y : Sl2, e = .returned (.tuple #[Z (paramsB s).1, y.v, N (paramsB s).2.2]) ∧ Ext w w' ∧ y.ok w' ∧ y.l = (paramsB s).2.1
  write : ∀ (k : List Bt) (a : Sl2) (w : World), a.ok w → k.length ≤ 2000000 → a.l.length ≤ 20 → (∀ p ∈ a.l, p.1.length ≤ 2000000 ∧ p.2.length ≤ 2000000) → Calls Tryz.prog 37 [Z k, a.v].toArray w fun e w' => e = .returned (.tuple #[Z (if rightP k a.l then writeB k a.l else []), N (if rightP k a.l then 0 else 3)]) ∧ Ext w w'
end Go.Proofs.YtbbmhkdfdgnkpaaGreatDoor

/-
  Of no statement by itself: what the landed token's Write gives; the landed token keeps what token owes (TokenOk).
  Conditions: none but each theorem's own.
-/
namespace Go.Proofs.YtbbmhkdfdgnkpaaGreatDoor
set_option maxRecDepth 10000
open Sl Fld Tok
/-! ### blocks handed to a call and back -/
namespace Sl
end Sl
theorem goes_writeA : Goes Tryz.prog 37 := ⟨_, Tryz.func37, rfl, by kernel_rfl⟩
theorem rightP_is (k : List Fld.By) (l : List (List Fld.By × List Fld.By)) : rightP k l = (l.all (fun p => atomB p.1 && decide (p.1.map small = p.1) && p.2.all sok) && kindB k && decide (k.map small = k)) := rfl
theorem parW_val (p : List Fld.By × List Fld.By) : parW p = [59, 32] ++ p.1 ++ [61] ++ valW p.2 := rfl
structure WrS where
  i : Nat
  b : Nat
  cap : Nat
set_option maxHeartbeats 32000000 in
theorem writeA_any (k : List Bt) (a : Sl2) (w : World) (ha : a.ok w) (hkl : k.length ≤ 2000000) (hal : a.l.length ≤ 20) (hpl : ∀ p ∈ a.l, p.1.length ≤ 2000000 ∧ p.2.length ≤ 2000000) : Calls Tryz.prog 37 [Z k, a.v].toArray w fun e w' => e = .returned (.tuple #[Z (if rightP k a.l then writeB k a.l else []), N (if rightP k a.l then 0 else 3)]) ∧ Ext w w' := by
  refine enter (n := 57) Tryz.func37 rfl rfl rfl (Holds.start w []) ?_
  have cK := fun w' => isKind_any k w' (by omega)
  have cN := fun w' => noBig_any k w' (by omega)
  rw [rightP_is]
  cases h1 : kindB k
  · rw [h1] at cK
    rw [Bool.and_false, Bool.false_and, if_neg (by decide), if_neg (by decide)]
    repeat (first | refine JL.q (by first | (apply OQ.callx (vs := [Z k]); exact goes_isKind; exact rfl; exact (fun w' _ => cK w')) | (apply OQ.not; exact rfl) | (apply OQ.pick_t; exact rfl; exact rfl) | (apply OQ.move; exact rfl) | (apply OQ.assign; exact rfl)) rfl ?_ | refine JC.seq ?_ | refine JC.region ?_ | refine JL.nil ?_ | refine JE.next ?_ | refine JL.gskip rfl rfl rfl rfl ?_)
    refine JC.cond rfl (fun _ => ?_) (fun h => by cases h)
    repeat (first | refine JL.q (by (apply OQ.assign; exact rfl)) rfl ?_ | refine JC.seq ?_ | refine JC.region ?_ | refine JL.nil ?_ | refine JE.next ?_)
    refine JC.ret ?_
    repeat (refine JE.then_ret ?_)
    exact JE.ret2 rfl (RV.tmp rfl) (RV.tmp rfl) fun w' hw => ⟨rfl, hw.chg⟩
  rw [h1] at cK
  cases h2 : decide (k.map small = k)
  · rw [h2] at cN
    rw [Bool.and_false, if_neg (by decide), if_neg (by decide)]
    repeat (first | refine JL.q (by first | (apply OQ.callx (vs := [Z k]); exact goes_isKind; exact rfl; exact (fun w' _ => cK w')) | (apply OQ.callx (vs := [Z k]); exact goes_noBig; exact rfl; exact (fun w' _ => cN w')) | (apply OQ.not; exact rfl) | (apply OQ.pick_f; exact rfl; exact rfl) | (apply OQ.move; exact rfl) | (apply OQ.assign; exact rfl)) rfl ?_ | refine JC.seq ?_ | refine JC.region ?_ | refine JL.nil ?_ | refine JE.next ?_ | refine JL.gon rfl rfl ?_)
    refine JC.cond rfl (fun _ => ?_) (fun h => by cases h)
    repeat (first | refine JL.q (by (apply OQ.assign; exact rfl)) rfl ?_ | refine JC.seq ?_ | refine JC.region ?_ | refine JL.nil ?_ | refine JE.next ?_)
    refine JC.ret ?_
    repeat (refine JE.then_ret ?_)
    exact JE.ret2 rfl (RV.tmp rfl) (RV.tmp rfl) fun w' hw => ⟨rfl, hw.chg⟩
  rw [h2] at cN
  rw [Bool.and_true, Bool.and_true]
  repeat (first | refine JL.q (by first | (apply OQ.callx (vs := [Z k]); exact goes_isKind; exact rfl; exact (fun w' _ => cK w')) | (apply OQ.callx (vs := [Z k]); exact goes_noBig; exact rfl; exact (fun w' _ => cN w')) | (apply OQ.not; exact rfl) | (apply OQ.pick_f; exact rfl; exact rfl) | (apply OQ.move; exact rfl) | (apply OQ.assign; exact rfl)) rfl ?_ | refine JC.seq ?_ | refine JC.region ?_ | refine JL.nil ?_ | refine JE.next ?_ | refine JL.gon rfl rfl ?_)
  refine JC.cond rfl (fun h => by cases h) (fun _ => ?_)
  repeat (first | refine JL.q (by (apply OQ.move; exact rfl)) rfl ?_ | refine JC.seq ?_ | refine JC.region ?_ | refine JC.skip ?_ | refine JE.next ?_)
  refine JL.s2o (r := k) Tryz.underlying9 rfl Tryz.underlying22 Tryz.underlying5 rfl rfl fun b0 cap0 _ => ?_
  repeat (first | refine JL.q (by first | (apply OQ.len; exact Tryz.underlying33; exact rfl) | (apply OQ.move; exact rfl) | (apply OQ.assign; exact rfl)) rfl ?_ | refine JC.seq ?_ | refine JC.region ?_ | refine JC.block ?_ | refine JL.nil ?_ | refine JE.next ?_)
  let g : Pr → Bool := fun p => atomB p.1 && decide (p.1.map small = p.1) && p.2.all sok
  let O : Nat → List Bt := fun i => k ++ (a.l.take i).flatMap parW
  have hO : ∀ i, i < a.l.length → O (i + 1) = O i ++ parW (a.l.getD i ([], [])) := by
    intro i hi
    show k ++ (a.l.take (i + 1)).flatMap parW = k ++ (a.l.take i).flatMap parW ++ _
    rw [List.take_add_one, List.getElem?_eq_getElem hi, Option.toList_some, List.flatMap_append, List.flatMap_singleton, List.getD_eq_getElem?_getD, List.getElem?_eq_getElem hi, List.append_assoc]
    rfl
  refine JC.loop (fun z : WrS => [(6, .slice (some ⟨z.b, 0, none⟩) (O z.i).length z.cap), (19, a.v), (20, N a.l.length), (21, N z.i)]) (fun z => [⟨z.b, OwnF 5 (O z.i).length z.cap ((O z.i).map U8), true⟩]) (fun z => a.l.length - z.i) (fun z => z.i ≤ a.l.length ∧ (a.l.take z.i).all g = true ∧ (O z.i).length ≤ 2000000 + 6000010 * z.i) ⟨0, b0, cap0⟩ ⟨Nat.zero_le _, rfl, ?_⟩ ?_ ?_ ?_
  · show (k ++ []).length ≤ _
    rw [List.append_nil]
    exact hkl
  · show SubE _ [(6, .slice (some ⟨b0, 0, none⟩) (k ++ []).length cap0), (19, a.v), (20, N a.l.length), (21, N 0)]
    rw [List.append_nil]
    exact (by repeat (first | exact SubE.nil | refine SubE.cons _ _ _ rfl ?_))
  · show Less [⟨b0, OwnF 5 (k ++ []).length cap0 ((k ++ []).map U8), true⟩] _
    rw [List.append_nil]
    exact Less.refl _
  rintro ⟨i, b1, cap1⟩ ⟨hi, hg, hlen⟩
  dsimp only at hi hg hlen ⊢
  repeat (first | refine JL.q (by (apply OQ.lssN; exact rfl; exact rfl)) rfl ?_ | refine JC.seq ?_ | refine JC.region ?_ | refine JL.nil ?_ | refine JE.next ?_)
  refine JC.cond rfl (fun h => ?_) (fun h => ?_)
  · have hi' : i < a.l.length := of_decide_eq_true h
    clear h hi
    obtain ⟨bx, jx, eX, lx, cx1, cx2⟩ := ha.at hi'
    have cx := pair_cells cx1 cx2
    have vx : a.v = .slice (some ⟨bx, jx, none⟩) a.l.length a.cap := by rw [← eX]; rfl
    have hO1 := hO i hi'
    have hall := all_take g a.l ([], []) hi'
    have hbad := all_bad g a.l ([], []) hi'
    rw [hg, Bool.true_and] at hall
    have hmem : a.l.getD i ([], []) ∈ a.l := by
      rw [List.getD_eq_getElem?_getD, List.getElem?_eq_getElem hi']
      exact List.getElem_mem hi'
    obtain ⟨n1, n2⟩ := hpl _ hmem
    rw [parW_val] at hO1
    generalize a.l.getD i ([], []) = p at cx hO1 hall hbad n1 n2
    clear hmem cx1 cx2 eX
    obtain ⟨n, v⟩ := p
    dsimp only at cx hO1 n1 n2
    have cA := fun w' => atomA_any n w' (by omega)
    have cB := fun w' => noBig_any n w' (by omega)
    have cV := fun w' => may_any v w' (by omega)
    have hvl := valW_len v
    have hg1 : g (n, v) = (atomB n && decide (n.map small = n) && v.all sok) := rfl
    rw [hg1] at hall hbad
    generalize O i = P at hlen hO1 ⊢
    generalize hPe : O (i + 1) = P' at hO1
    rw [vx]
    repeat (first | refine JL.q (by first | (apply OQ.idxS; exact Tryz.underlying33; exact parS; exact rfl; exact rfl; exact hi') | (apply OQ.load_agg_old (cs := pc (n, v)); exact parA; exact rfl; exact parS; exact lx; exact (by simp); exact cx)) rfl ?_ | refine JC.seq ?_ | refine JC.region ?_ | refine JC.block ?_ | refine JC.skip ?_ | refine JE.next ?_)
    refine JL.alloc parZ rfl fun b8 _ => ?_
    refine JL.store_all (cs := pc (n, v)) parS rfl rfl rfl rfl .here rfl ?_
    cases d1 : atomB n
    · have hb := hbad (by rw [d1]; rfl)
      rw [if_neg (by rw [hb]; decide), if_neg (by rw [hb]; decide)]
      rw [d1] at cA
      repeat (first | refine JL.q (by first | (apply OQ.load; exact strC1; exact rfl; exact .here; exact (Row.cell (v := Z n) rfl)) | (apply OQ.callx (vs := [Z n]); exact goes_atomA; exact rfl; exact (fun w' _ => cA w')) | (apply OQ.not; exact rfl) | (apply OQ.pick_t; exact rfl; exact rfl) | (apply OQ.move; exact rfl) | (apply OQ.fld; exact rfl; exact rfl; exact rfl; exact (by decide); exact rfl)) rfl ?_ | refine JC.seq ?_ | refine JC.region ?_ | refine JL.nil ?_ | refine JE.next ?_ | refine JL.gskip rfl rfl rfl rfl ?_)
      refine JC.cond rfl (fun _ => ?_) (fun h => by cases h)
      repeat (first | refine JL.q (by (apply OQ.assign; exact rfl)) rfl ?_ | refine JC.seq ?_ | refine JC.region ?_ | refine JL.nil ?_ | refine JE.next ?_)
      refine JC.ret ?_
      repeat (first | refine JE.then_ret ?_ | refine JE.blk_ret ?_)
      exact JE.ret2 rfl (RV.tmp rfl) (RV.tmp rfl) fun w' hw => ⟨rfl, hw.chg⟩
    cases d2 : decide (n.map small = n)
    · have hb := hbad (by rw [d1, d2]; rfl)
      rw [if_neg (by rw [hb]; decide), if_neg (by rw [hb]; decide)]
      rw [d1] at cA
      rw [d2] at cB
      repeat (first | refine JL.q (by first | (apply OQ.load; exact strC1; exact rfl; exact .here; exact (Row.cell (v := Z n) rfl)) | (apply OQ.callx (vs := [Z n]); exact goes_atomA; exact rfl; exact (fun w' _ => cA w')) | (apply OQ.callx (vs := [Z n]); exact goes_noBig; exact rfl; exact (fun w' _ => cB w')) | (apply OQ.not; exact rfl) | (apply OQ.pick_t; exact rfl; exact rfl) | (apply OQ.pick_f; exact rfl; exact rfl) | (apply OQ.move; exact rfl) | (apply OQ.fld; exact rfl; exact rfl; exact rfl; exact (by decide); exact rfl)) rfl ?_ | refine JC.seq ?_ | refine JC.region ?_ | refine JL.nil ?_ | refine JE.next ?_ | refine JL.gon rfl rfl ?_ | refine JL.gskip rfl rfl rfl rfl ?_)
      refine JC.cond rfl (fun _ => ?_) (fun h => by cases h)
      repeat (first | refine JL.q (by (apply OQ.assign; exact rfl)) rfl ?_ | refine JC.seq ?_ | refine JC.region ?_ | refine JL.nil ?_ | refine JE.next ?_)
      refine JC.ret ?_
      repeat (first | refine JE.then_ret ?_ | refine JE.blk_ret ?_)
      exact JE.ret2 rfl (RV.tmp rfl) (RV.tmp rfl) fun w' hw => ⟨rfl, hw.chg⟩
    cases d3 : v.all sok
    · have hb := hbad (by rw [d1, d2, d3]; rfl)
      rw [if_neg (by rw [hb]; decide), if_neg (by rw [hb]; decide)]
      rw [d1] at cA
      rw [d2] at cB
      rw [d3] at cV
      repeat (first | refine JL.q (by first | (apply OQ.load; exact strC1; exact rfl; exact .here; exact (Row.cell (v := Z n) rfl)) | (apply OQ.load; exact strC1; exact rfl; exact .here; exact (Row.cell (v := Z v) rfl)) | (apply OQ.callx (vs := [Z n]); exact goes_atomA; exact rfl; exact (fun w' _ => cA w')) | (apply OQ.callx (vs := [Z n]); exact goes_noBig; exact rfl; exact (fun w' _ => cB w')) | (apply OQ.callx (vs := [Z v]); exact goes_may; exact rfl; exact (fun w' _ => cV w')) | (apply OQ.not; exact rfl) | (apply OQ.pick_f; exact rfl; exact rfl) | (apply OQ.move; exact rfl) | (apply OQ.fld; exact rfl; exact rfl; exact rfl; exact (by decide); exact rfl)) rfl ?_ | refine JC.seq ?_ | refine JC.region ?_ | refine JL.nil ?_ | refine JE.next ?_ | refine JL.gon rfl rfl ?_)
      refine JC.cond rfl (fun _ => ?_) (fun h => by cases h)
      repeat (first | refine JL.q (by (apply OQ.assign; exact rfl)) rfl ?_ | refine JC.seq ?_ | refine JC.region ?_ | refine JL.nil ?_ | refine JE.next ?_)
      refine JC.ret ?_
      repeat (first | refine JE.then_ret ?_ | refine JE.blk_ret ?_)
      exact JE.ret2 rfl (RV.tmp rfl) (RV.tmp rfl) fun w' hw => ⟨rfl, hw.chg⟩
    rw [d1] at cA
    rw [d2] at cB
    rw [d3] at cV
    rw [d1, d2, d3] at hall
    repeat (first | refine JL.q (by first | (apply OQ.load; exact strC1; exact rfl; exact .here; exact (Row.cell (v := Z n) rfl)) | (apply OQ.load; exact strC1; exact rfl; exact .here; exact (Row.cell (v := Z v) rfl)) | (apply OQ.callx (vs := [Z n]); exact goes_atomA; exact rfl; exact (fun w' _ => cA w')) | (apply OQ.callx (vs := [Z n]); exact goes_noBig; exact rfl; exact (fun w' _ => cB w')) | (apply OQ.callx (vs := [Z v]); exact goes_may; exact rfl; exact (fun w' _ => cV w')) | (apply OQ.not; exact rfl) | (apply OQ.pick_f; exact rfl; exact rfl) | (apply OQ.move; exact rfl) | (apply OQ.fld; exact rfl; exact rfl; exact rfl; exact (by decide); exact rfl)) rfl ?_ | refine JC.seq ?_ | refine JC.region ?_ | refine JL.nil ?_ | refine JE.next ?_ | refine JL.gon rfl rfl ?_)
    refine JC.cond rfl (fun h => by cases h) (fun _ => ?_)
    repeat (first | refine JL.q (by (apply OQ.move; exact rfl)) rfl ?_ | refine JC.seq ?_ | refine JC.region ?_ | refine JC.skip ?_ | refine JE.next ?_)
    refine JL.appendX (v := Z [59, 32]) (m := 2) (xs := P.map U8) (news := ([59, 32] : List Bt).map U8) (fun b' cap' => [⟨b8, Row 38 (pc (n, v)), true⟩, ⟨b', OwnF 5 (P.length + 2) cap' (P.map U8 ++ ([59, 32] : List Bt).map U8), true⟩]) Tryz.underlying22 u8e rfl rfl (fun _ _ => src_str Tryz.underlying9) (by intro _ _; repeat (first | exact Repl.here | apply Repl.there)) (by omega) rfl fun b2 cap2 => ?_
    repeat (first | refine JL.q (by first | (apply OQ.load; exact strC1; exact rfl; exact .here; exact (Row.cell (v := Z n) rfl)) | (apply OQ.move; exact rfl) | (apply OQ.assign; exact rfl) | (apply OQ.fld; exact rfl; exact rfl; exact rfl; exact (by decide); exact rfl)) rfl ?_ | refine JC.seq ?_ | refine JC.region ?_ | refine JL.nil ?_ | refine JE.next ?_)
    refine JL.appendX (v := Z n) (m := n.length) (xs := P.map U8 ++ ([59, 32] : List Bt).map U8) (news := n.map U8) (fun b' cap' => [⟨b8, Row 38 (pc (n, v)), true⟩, ⟨b', OwnF 5 (P.length + 2 + n.length) cap' (P.map U8 ++ ([59, 32] : List Bt).map U8 ++ n.map U8), true⟩]) Tryz.underlying22 u8e rfl rfl (fun _ _ => src_str Tryz.underlying9) (by intro _ _; repeat (first | exact Repl.here | apply Repl.there)) (by omega) rfl fun b3 cap3 => ?_
    repeat (first | refine JL.q (by first | (apply OQ.move; exact rfl) | (apply OQ.assign; exact rfl)) rfl ?_ | refine JC.seq ?_ | refine JC.region ?_ | refine JL.nil ?_ | refine JE.next ?_)
    refine JL.pushF (v := U8 61) (xs := P.map U8 ++ ([59, 32] : List Bt).map U8 ++ n.map U8) (fun b' cap' => [⟨b8, Row 38 (pc (n, v)), true⟩, ⟨b', OwnF 5 (P.length + 2 + n.length + 1) cap' (P.map U8 ++ ([59, 32] : List Bt).map U8 ++ n.map U8 ++ [U8 61]), true⟩]) Tryz.underlying22 u8e rfl rfl rfl (fun _ => rfl) (by intro _ _; repeat (first | exact Repl.here | apply Repl.there)) (by omega) rfl rfl fun bl b4 cap4 => ?_
    repeat (first | refine JL.q (by first | (apply OQ.load; exact strC1; exact rfl; exact .here; exact (Row.cell (v := Z v) rfl)) | (apply OQ.move; exact rfl) | (apply OQ.assign; exact rfl) | (apply OQ.fld; exact rfl; exact rfl; exact rfl; exact (by decide); exact rfl)) rfl ?_ | refine JC.region ?_ | refine JL.nil ?_ | refine JE.next ?_)
    obtain ⟨Y, hY⟩ : ∃ Y, Y = P ++ [59, 32] ++ n ++ [61] := ⟨_, rfl⟩
    have hYl : Y.length = P.length + 2 + n.length + 1 := by rw [hY]; simp only [List.length_append, List.length_cons, List.length_nil]
    have hYm : Y.map U8 = P.map U8 ++ ([59, 32] : List Bt).map U8 ++ n.map U8 ++ [U8 61] := by rw [hY]; simp
    have hP' : P' = Y ++ valW v := by rw [hO1, hY]; simp
    rw [← hYl, ← hYm]
    refine JL.call (ι := Nat × Nat) (vs := [.slice (some ⟨b4, 0, none⟩) Y.length cap4, Z v]) (fun q => .slice (some ⟨q.1, 0, none⟩) (Y ++ valW v).length q.2) (fun q => [⟨b8, Row 38 (pc (n, v)), true⟩, ⟨q.1, OwnF 5 (Y ++ valW v).length q.2 ((Y ++ valW v).map U8), true⟩]) goes_addValue rfl rfl ?_ ?_
    · intro w' hw'
      obtain ⟨o, ho, hA⟩ := hw'.get (b := b4) (wr := true) (A := OwnF 5 Y.length cap4 (Y.map U8)) (by repeat (first | exact Has.here | apply Has.there))
      refine (addValue_any b4 cap4 Y v w' ho hA (by omega) n2).mono ?_
      rintro e w2 ⟨q, rfl, h2⟩
      exact ⟨q, rfl, hw'.relay (by repeat (first | exact Repl.here | apply Repl.there)) h2⟩
    rintro ⟨b5, cap5⟩
    dsimp only
    have hYv : (Y ++ valW v).length ≤ 2000000 + 6000010 * (i + 1) := by
      rw [List.length_append]
      omega
    rw [← hP'] at hYv ⊢
    repeat (first | refine JL.q (by first | (apply OQ.move; exact rfl) | (apply OQ.assign; exact rfl) | (apply OQ.addN; exact rfl; exact rfl; exact (by (try simp only []); omega))) rfl ?_ | refine JC.region ?_ | refine JL.nil ?_ | refine JE.next ?_ | refine JE.blk_normal ?_)
    refine JE.again (i := WrS.mk i b1 cap1) (WrS.mk (i + 1) b5 cap5) ⟨hi', hall, ?_⟩ (by dsimp only; omega) ?_ ?_
    · dsimp only
      rw [hPe]
      exact hYv
    · dsimp only
      rw [hPe]
      exact (by repeat (first | exact SubE.nil | refine SubE.cons _ _ _ rfl ?_))
    · dsimp only
      rw [hPe]
      exact .drop _ _ _ (Less.refl _)
  · have hi' : ¬ i < a.l.length := of_decide_eq_false h
    obtain rfl : i = a.l.length := by omega
    rw [List.take_length] at hg
    rw [if_pos hg, if_pos hg]
    have hOO : O a.l.length = writeB k a.l := by show k ++ (a.l.take a.l.length).flatMap parW = _; rw [List.take_length]; rfl
    rw [hOO] at hlen ⊢
    repeat (first | refine JL.q (by first | (apply OQ.b2s (s := ⟨some ⟨b1, 0, none⟩, cap1, writeB k a.l⟩); exact Tryz.underlying22; exact Tryz.underlying5; exact Tryz.underlying9; exact rfl; exact (fun w' hw' => ownF_ok hw' .here)) | (apply OQ.move; exact rfl) | (apply OQ.assign; exact rfl)) rfl ?_ | refine JC.seq ?_ | refine JC.region ?_ | refine JC.exit ?_ | refine JL.nil ?_ | refine JE.next ?_ | refine JE.then_exit ?_ | refine JE.blk_hit ?_)
    refine JC.ret ?_
    exact JE.ret2 rfl (RV.tmp rfl) (RV.tmp rfl) fun w' hw => ⟨rfl, hw.chg⟩
end Go.Proofs.YtbbmhkdfdgnkpaaGreatDoor

/-
  Of no statement by itself: what the landed mime's writeBody gives; slices.EqualFunc over bytes.Equal.
  Conditions: each theorem's own.
-/
namespace Go.Proofs.YtbbmhkdfdgnkpaaGreatDoor
set_option maxRecDepth 10000
open Sl Fld Mim Tok
theorem goes_wbody : Goes Tryz.prog 41 := ⟨_, Tryz.func41, rfl, by kernel_rfl⟩
theorem goes_eqf : Goes Tryz.prog 59 := ⟨_, Tryz.func59, rfl, by kernel_rfl⟩
theorem OQ.callV {P : Program} {n : Nat} {E : Env} {w0 : World} {S : List Nat} {M : List Ent} {dst : Option Tmp} {ty : TypeId} {pos : String} {aft : Array Edge} {g : Option (Nat × Bool)} {x : Operand} {f : FuncId} {xs : List Operand} {vs : List Value} {v : Value} {ats : Array TypeId} (hg : Goes P f) (hf : ev E x = some (.func (.func f) #[] #[])) (hx : evs E xs = some vs) (hc : ∀ w, Holds w0 S M w → Calls P f vs.toArray w fun e w' => e = .returned v ∧ Ext w w') :
    OQ P n E (Holds w0 S M) ⟨dst, .call ⟨.value x, xs.toArray, ats⟩, ty, pos, aft, g⟩ v := by
  refine ⟨fun a hk w hw => ?_⟩
  unfold Oper.quietAt
  rw [exec_callv (caps := []) hg hk hf hx w, List.append_nil]
  exact ⟨rfl, (hc w hw).mono fun e w' ⟨k1, k2⟩ => ⟨k1, hw.ext k2⟩⟩
set_option maxHeartbeats 16000000 in
theorem wbody_any (Qe : List Fld.By → List Fld.By) (k : List Bt) (v1 v4 : Value) (c : Int) (x : Sl8) (w : World) (hv1 : v1.cells = #[v1]) (hx : x.ok w) (hl : x.l.length ≤ 4000) (hc : c = 0 ∨ c = 1) : Calls Tryz.prog 41 [.agg #[Z k, v1, .int .i64 c, x.v, v4]].toArray w
    fun e w' => ∃ y : { y : Sl8 // Ans y (bodyW Qe c x.l) }, e = .returned y.1.v ∧ Holds w [] y.1.ents w' := by
  refine enter (n := 18) Tryz.func41 rfl rfl rfl (Holds.start w []) ?_
  refine JC.seq (JC.region (JL.box (r := [Z k, v1, .int .i64 c, x.v, v4]) rfl rfl rfl fun b _ => ?_))
  rcases hc with rfl | rfl
  · have d1 : decide ((0 : Int) = 1) = false := rfl
    have d2 : decide ((0 : Int) = 2) = false := rfl
    repeat (first | refine JL.q (by first | (apply OQ.load; exact inCE; exact rfl; exact .here; exact (Row.cell (v := .int .i64 0) rfl)) | (apply OQ.eqB (a := 0) (b := 1); exact rfl; exact rfl; exact d1) | (apply OQ.assign; exact rfl) | (apply OQ.fld; exact rfl; exact rfl; exact rfl; exact (by decide); exact rfl)) rfl ?_ | refine JC.seq ?_ | refine JC.region ?_ | refine JC.block ?_ | refine JL.nil ?_ | refine JE.next ?_)
    refine JC.cond rfl (fun h => by cases h) (fun _ => ?_)
    repeat (first | refine JL.q (by first | (apply OQ.eqB (a := 0) (b := 2); exact rfl; exact rfl; exact d2) | (apply OQ.assign; exact rfl)) rfl ?_ | refine JC.seq ?_ | refine JC.region ?_ | refine JL.nil ?_ | refine JE.next ?_)
    refine JC.cond rfl (fun h => by cases h) (fun _ => ?_)
    repeat (first | refine JL.q (by first | (apply OQ.load; exact bsCF; exact rfl; exact .here; exact (Row.cell (v := x.v) rfl)) | (apply OQ.fld; exact rfl; exact rfl; exact rfl; exact (by decide); exact rfl)) rfl ?_ | refine JC.seq ?_ | refine JC.region ?_ | refine JC.skip ?_ | refine JE.next ?_ | refine JE.blk_normal ?_)
    refine JL.callg (ι := { q : Acc // q = none → x.l = [] }) (vs := [x.v]) (fun q => accV q.1 x.l.length) (fun q => accE 5 q.1 (x.l.map U8)) goes_clone rfl rfl (fun q => accE_wr _ _ _) (fun w' hw' => (clone_any x w' (hx.holds hw' rfl) (by omega)).mono fun e w2 ⟨q, h1, h2, h3⟩ => ⟨⟨q, h2⟩, h1, h3⟩) ?_
    rintro ⟨q, hq⟩
    dsimp only
    repeat (first | refine JL.q (by (apply OQ.assign; exact rfl)) rfl ?_ | refine JL.nil ?_ | refine JE.next ?_)
    refine JC.ret ?_
    refine JE.ret1 rfl (RV.tmp rfl) fun w' hw => ⟨⟨accS q x.l, ⟨accS_l hq, accS_none⟩⟩, by rw [accS_v], (Sl.Holds.weak hw (less_pre _ _)).weak (accS_ents q x.l)⟩
  · have d1 : decide ((1 : Int) = 1) = true := rfl
    repeat (first | refine JL.q (by first | (apply OQ.load; exact inCE; exact rfl; exact .here; exact (Row.cell (v := .int .i64 1) rfl)) | (apply OQ.eqB (a := 1) (b := 1); exact rfl; exact rfl; exact d1) | (apply OQ.assign; exact rfl) | (apply OQ.fld; exact rfl; exact rfl; exact rfl; exact (by decide); exact rfl)) rfl ?_ | refine JC.seq ?_ | refine JC.region ?_ | refine JC.block ?_ | refine JL.nil ?_ | refine JE.next ?_)
    refine JC.cond rfl (fun _ => ?_) (fun h => by cases h)
    repeat (first | refine JL.q (by first | (apply OQ.load; exact bsCF; exact rfl; exact .here; exact (Row.cell (v := x.v) rfl)) | (apply OQ.fld; exact rfl; exact rfl; exact rfl; exact (by decide); exact rfl)) rfl ?_ | refine JC.seq ?_ | refine JC.region ?_)
    refine JL.callg (ι := { y : Sl8 // Ans y (Arm.linesB x.l) }) (vs := [x.v]) (fun y => y.1.v) (fun y => y.1.ents) goes_alines rfl rfl (fun y => y.1.ents_wr) (fun w' hw' => (alines_any x w' (hx.holds hw' rfl) (by omega)).mono fun e w2 ⟨y, h1, h2, h3⟩ => ⟨⟨y, h2⟩, h1, h3⟩) ?_
    rintro y
    repeat (first | refine JL.q (by (apply OQ.assign; exact rfl)) rfl ?_ | refine JL.nil ?_ | refine JE.next ?_)
    refine JC.ret ?_
    repeat (first | refine JE.then_ret ?_ | refine JE.blk_ret ?_)
    refine JE.ret1 rfl (RV.tmp rfl) fun w' hw => ⟨y, rfl, Sl.Holds.weak hw (less_pre _ _)⟩
theorem ls_len {s : SlL} : s.ls.length = s.rs.length := List.length_map _
theorem ls_get {s : SlL} {i : Nat} (h : i < s.rs.length) : s.ls.getD i [] = (s.rs.getD i nilS).l := by
  show (s.rs.map Sl8.l).getD i [] = _
  rw [List.getD_eq_getElem?_getD, List.getD_eq_getElem?_getD, List.getElem?_map, List.getElem?_eq_getElem h]
  rfl
theorem take_eq_step {α : Type} [Inhabited α] {a b : List α} {i : Nat} (d : α) (ha : i < a.length) (hb : i < b.length) (h : a.take i = b.take i) (e : a.getD i d = b.getD i d) : a.take (i + 1) = b.take (i + 1) := by
  rw [List.getD_eq_getElem?_getD, List.getD_eq_getElem?_getD, List.getElem?_eq_getElem ha, List.getElem?_eq_getElem hb] at e
  rw [List.take_add_one, List.take_add_one, h, List.getElem?_eq_getElem ha, List.getElem?_eq_getElem hb]
  have e : a[i] = b[i] := e
  rw [e]
set_option maxHeartbeats 16000000 in
theorem eqf_any (A B : SlL) (w : World) (hA : A.ok w) (hB : B.ok w) (hl : A.rs.length < 9223372036854775807) (hl2 : B.rs.length < 9223372036854775807) : Calls Tryz.prog 59 [A.v, B.v, .func (.func 60) #[] #[]].toArray w fun e w' => e = .returned (.bool (decide (A.ls = B.ls))) ∧ Ext w w' := by
  refine enter (n := 32) Tryz.func59 rfl rfl rfl (Holds.start w []) ?_
  cases h0 : decide ((A.rs.length : Int) = (B.rs.length : Int))
  · have hF : decide (A.ls = B.ls) = false := decide_eq_false fun e => by
      have := congrArg List.length e
      rw [ls_len, ls_len] at this
      have := of_decide_eq_false h0
      omega
    rw [hF]
    repeat (first | refine JL.q (by first | (apply OQ.neB; exact rfl; exact rfl; exact h0) | (apply OQ.move; exact rfl) | (apply OQ.assign; exact rfl) | (apply OQ.len; exact rfl; exact rfl)) rfl ?_ | refine JC.seq ?_ | refine JC.region ?_ | refine JL.nil ?_ | refine JE.next ?_)
    refine JC.cond rfl (fun _ => ?_) (fun h => by cases h)
    repeat (first | refine JL.q (by (apply OQ.assign; exact rfl)) rfl ?_ | refine JC.seq ?_ | refine JC.region ?_ | refine JL.nil ?_ | refine JE.next ?_)
    refine JC.ret ?_
    repeat (refine JE.then_ret ?_)
    exact JE.ret1 rfl (RV.tmp rfl) fun w' hw => ⟨rfl, hw.chg⟩
  have hlen : A.rs.length = B.rs.length := by have := of_decide_eq_true h0; omega
  repeat (first | refine JL.q (by first | (apply OQ.neB; exact rfl; exact rfl; exact h0) | (apply OQ.move; exact rfl) | (apply OQ.assign; exact rfl) | (apply OQ.len; exact rfl; exact rfl)) rfl ?_ | refine JC.seq ?_ | refine JC.region ?_ | refine JL.nil ?_ | refine JE.next ?_)
  refine JC.cond rfl (fun h => by cases h) (fun _ => ?_)
  repeat (first | refine JL.q (by first | (apply OQ.move; exact rfl) | (apply OQ.len; exact rfl; exact rfl)) rfl ?_ | refine JC.seq ?_ | refine JC.region ?_ | refine JC.block ?_ | refine JC.skip ?_ | refine JL.nil ?_ | refine JE.next ?_)
  refine JC.loop (fun i : Nat => [(1, B.v), (2, .func (.func 60) #[] #[]), (15, A.v), (16, N A.rs.length), (17, N i)]) (fun _ => []) (fun i => A.rs.length - i) (fun i => i ≤ A.rs.length ∧ A.ls.take i = B.ls.take i) 0 ⟨Nat.zero_le _, rfl⟩ (by repeat (first | exact SubE.nil | refine SubE.cons _ _ _ rfl ?_)) (Less.refl _) ?_
  rintro i ⟨hi, heq⟩
  repeat (first | refine JL.q (by (apply OQ.lssN; exact rfl; exact rfl)) rfl ?_ | refine JC.seq ?_ | refine JC.region ?_ | refine JL.nil ?_ | refine JE.next ?_)
  refine JC.cond rfl (fun h => ?_) (fun h => ?_)
  · have hi' : i < A.rs.length := of_decide_eq_true h
    clear h hi
    obtain ⟨ba, ja, eA, la, ca, oka⟩ := hA.at hi'
    obtain ⟨bb, jb, eB, lb, cb, okb⟩ := hB.at (show i < B.rs.length by omega)
    have vA : A.v = .slice (some ⟨ba, ja, none⟩) A.rs.length A.cap := by rw [← eA]; rfl
    have vB : B.v = .slice (some ⟨bb, jb, none⟩) B.rs.length B.cap := by rw [← eB]; rfl
    have hstep := take_eq_step (a := A.ls) (b := B.ls) (i := i) ([] : List Bt) (by rw [ls_len]; omega) (by rw [ls_len]; omega) heq
    rw [ls_get hi', ls_get (show i < B.rs.length by omega)] at hstep
    have hne : (A.rs.getD i nilS).l ≠ (B.rs.getD i nilS).l → A.ls ≠ B.ls := fun h e => h (by rw [← ls_get hi', ← ls_get (show i < B.rs.length by omega), e])
    generalize A.rs.getD i nilS = a at ca oka hstep hne
    generalize B.rs.getD i nilS = b at cb okb hstep hne
    have ce := fun (M : List Ent) (w' : World) (hw' : Holds w [] M w') => equal_any a b w' (oka.holds hw' rfl) (okb.holds hw' rfl)
    rw [vA, vB]
    cases hb : decide (a.l = b.l)
    · rw [hb] at ce
      rw [decide_eq_false (hne (of_decide_eq_false hb))]
      repeat (first | refine JL.q (by first | (apply OQ.idxS1 (i := i); exact Tryz.underlying24; exact bsS12; exact rfl; exact rfl; exact hi') | (apply OQ.idxS1 (i := i); exact Tryz.underlying24; exact bsS12; exact rfl; exact rfl; exact (hlen ▸ hi')) | (apply OQ.load_old; exact bsC8; exact rfl; exact la; exact (by simp); exact ca) | (apply OQ.load_old; exact bsC8; exact rfl; exact lb; exact (by simp); exact cb) | (apply OQ.callV (f := 60) (vs := [a.v, b.v]); exact goes_equal; exact rfl; exact rfl; exact (ce _)) | (apply OQ.not; exact rfl) | (apply OQ.move; exact rfl) | (apply OQ.assign; exact rfl)) rfl ?_ | refine JC.seq ?_ | refine JC.region ?_ | refine JC.block ?_ | refine JC.skip ?_ | refine JL.nil ?_ | refine JE.next ?_)
      refine JC.cond rfl (fun _ => ?_) (fun h => by cases h)
      repeat (first | refine JL.q (by (apply OQ.assign; exact rfl)) rfl ?_ | refine JC.seq ?_ | refine JC.region ?_ | refine JL.nil ?_ | refine JE.next ?_)
      refine JC.ret ?_
      repeat (first | refine JE.then_ret ?_ | refine JE.blk_ret ?_)
      exact JE.ret1 rfl (RV.tmp rfl) fun w' hw => ⟨rfl, hw.chg⟩
    · rw [hb] at ce
      repeat (first | refine JL.q (by first | (apply OQ.idxS1 (i := i); exact Tryz.underlying24; exact bsS12; exact rfl; exact rfl; exact hi') | (apply OQ.idxS1 (i := i); exact Tryz.underlying24; exact bsS12; exact rfl; exact rfl; exact (hlen ▸ hi')) | (apply OQ.load_old; exact bsC8; exact rfl; exact la; exact (by simp); exact ca) | (apply OQ.load_old; exact bsC8; exact rfl; exact lb; exact (by simp); exact cb) | (apply OQ.callV (f := 60) (vs := [a.v, b.v]); exact goes_equal; exact rfl; exact rfl; exact (ce _)) | (apply OQ.not; exact rfl) | (apply OQ.move; exact rfl) | (apply OQ.assign; exact rfl)) rfl ?_ | refine JC.seq ?_ | refine JC.region ?_ | refine JC.block ?_ | refine JC.skip ?_ | refine JL.nil ?_ | refine JE.next ?_)
      refine JC.cond rfl (fun h => by cases h) (fun _ => ?_)
      repeat (first | refine JL.q (by first | (apply OQ.move; exact rfl) | (apply OQ.addN; exact rfl; exact rfl; exact (by (try simp only []); omega))) rfl ?_ | refine JC.region ?_ | refine JC.skip ?_ | refine JL.nil ?_ | refine JE.next ?_ | refine JE.blk_normal ?_)
      rw [← vA, ← vB]
      exact JE.again (i := i) (i + 1) ⟨hi', hstep (of_decide_eq_true hb)⟩ (by omega) (by repeat (first | exact SubE.nil | refine SubE.cons _ _ _ rfl ?_)) (Less.refl _)
  · have hi' : ¬ i < A.rs.length := of_decide_eq_false h
    obtain rfl : i = A.rs.length := by omega
    have hT : A.ls = B.ls := by
      have h1 : A.ls.take A.rs.length = A.ls := by rw [← ls_len, List.take_length]
      have h2 : B.ls.take A.rs.length = B.ls := by rw [hlen, ← ls_len, List.take_length]
      rw [← h1, heq, h2]
    rw [decide_eq_true hT]
    repeat (first | refine JL.q (by (apply OQ.assign; exact rfl)) rfl ?_ | refine JC.seq ?_ | refine JC.region ?_ | refine JC.exit ?_ | refine JL.nil ?_ | refine JE.next ?_ | refine JE.then_exit ?_ | refine JE.blk_hit ?_)
    exact JC.ret (JE.ret1 rfl (RV.tmp rfl) fun w' hw => ⟨rfl, hw.chg⟩)
end Go.Proofs.YtbbmhkdfdgnkpaaGreatDoor

/-
  Of no statement by itself: what Write's reference tells of errors and sizes; slices of slices as they grow.
  Conditions: each theorem's own.
-/
namespace Go.Proofs.YtbbmhkdfdgnkpaaGreatDoor
set_option maxRecDepth 10000
open Sl Fld Mim Tok
namespace Mim
/-- the parts, each by the function one deeper -/
def subW (Qe : List By → List By) : Nat → Option (Part → Except Nat (List PrB × List By))
  | 0 => none
  | k + 1 => some (writeP Qe k)
theorem writeP_node (Qe : List By → List By) (k : Nat) (p : Part) : writeP Qe k p = nodeA Qe (subW Qe k) p.kind p.ps p.code p.body p.parts := by cases k <;> rfl
/-- the body that is made of a part's parts -/
def partsW (sub : Option (Part → Except Nat (List PrB × List By))) (p : Part) : Except Nat (List By) :=
  if p.parts = [] ∨ boundB (parB p.ps bdN) = false ∨ p.code ≠ 0 ∨ p.body ≠ [] then .error 3
  else match sub with
    | none => .error 5
    | some g => match mapE g p.parts with
      | .error e => .error e
      | .ok xs =>
        if spltB (jn (parB p.ps bdN) (xs.map fun x => writeO x.1 x.2) []) (parB p.ps bdN) = (xs.map (fun x => writeO x.1 x.2), 0) then .ok (jn (parB p.ps bdN) (xs.map fun x => writeO x.1 x.2) [])
        else .error 3
theorem writeP_multi (Qe : List By → List By) (k : Nat) {p : Part} (h1 : rightP p.kind p.ps = true) (h2 : multiB p.kind = true) : writeP Qe k p = match partsW (subW Qe k) p with
    | .error e => .error e
    | .ok b => finW [(ctW, writeB p.kind p.ps)] b := by
  rw [writeP_node]
  unfold nodeA partsW
  rw [if_neg (by rw [h1]; decide), if_pos h2]
  by_cases h : p.parts = [] ∨ boundB (parB p.ps bdN) = false ∨ p.code ≠ 0 ∨ p.body ≠ []
  · rw [if_pos h, if_pos h]
  · rw [if_neg h, if_neg h]
    cases subW Qe k with
    | none => rfl
    | some g =>
      dsimp only
      cases mapE g p.parts with
      | error e => rfl
      | ok xs =>
        dsimp only
        split <;> rfl
theorem writeP_wrong (Qe : List By → List By) (k : Nat) {p : Part} (h1 : rightP p.kind p.ps = false) : writeP Qe k p = .error 3 := by
  rw [writeP_node]
  unfold nodeA
  rw [if_pos h1]
theorem writeP_leaf (Qe : List By → List By) (k : Nat) {p : Part} (h1 : rightP p.kind p.ps = true) (h2 : multiB p.kind = false) : writeP Qe k p = if p.code < 0 ∨ 2 < p.code ∨ p.parts ≠ [] then .error 3 else finW [(ctW, writeB p.kind p.ps), (ceW, ceV p.code)] (bodyW Qe p.code p.body) := by
  rw [writeP_node]
  unfold nodeA
  rw [if_neg (by rw [h1]; decide), if_neg (by rw [h2]; decide)]
theorem finW_K {f g : List PrB} {b c : List By} (h : finW f b = .ok (g, c)) : writeK g c = 0 := (fin_ok h).2.2
theorem finW_ne {f : List PrB} {b : List By} {e : Nat} (h : finW f b = .error e) : e ≠ 0 := by
  unfold finW at h
  split at h
  · cases h
  · cases h; assumption
theorem partsW_ne {sub : Option (Part → Except Nat (List PrB × List By))} (hs : ∀ g, sub = some g → ∀ q e, g q = .error e → e ≠ 0) {p : Part} {e : Nat} (h : partsW sub p = .error e) : e ≠ 0 := by
  unfold partsW at h
  split at h
  · cases h; decide
  · split at h
    · cases h; decide
    · rename_i g
      split at h
      · rename_i e' he
        cases h
        exact mapE_ne (hs g rfl) _ _ he
      · split at h
        · cases h
        · cases h; decide
theorem writeP_K (Qe : List By → List By) (k : Nat) {p : Part} {f : List PrB} {b : List By} (h : writeP Qe k p = .ok (f, b)) : writeK f b = 0 := by
  cases h1 : rightP p.kind p.ps
  · rw [writeP_wrong Qe k h1] at h; cases h
  · cases h2 : multiB p.kind
    · rw [writeP_leaf Qe k h1 h2] at h
      split at h
      · cases h
      · exact finW_K h
    · rw [writeP_multi Qe k h1 h2] at h
      split at h
      · cases h
      · exact finW_K h
theorem writeP_ne (Qe : List By → List By) : ∀ (k : Nat) {p : Part} {e : Nat}, writeP Qe k p = .error e → e ≠ 0 := by
  intro k
  induction k with
  | zero =>
    intro p e h
    cases h1 : rightP p.kind p.ps
    · rw [writeP_wrong Qe 0 h1] at h; cases h; decide
    · cases h2 : multiB p.kind
      · rw [writeP_leaf Qe 0 h1 h2] at h
        split at h
        · cases h; decide
        · exact finW_ne h
      · rw [writeP_multi Qe 0 h1 h2] at h
        split at h
        · rename_i he
          cases h
          exact partsW_ne (fun g hg => by cases hg) he
        · exact finW_ne h
  | succ k ih =>
    intro p e h
    cases h1 : rightP p.kind p.ps
    · rw [writeP_wrong Qe (k + 1) h1] at h; cases h; decide
    · cases h2 : multiB p.kind
      · rw [writeP_leaf Qe (k + 1) h1 h2] at h
        split at h
        · cases h; decide
        · exact finW_ne h
      · rw [writeP_multi Qe (k + 1) h1 h2] at h
        split at h
        · rename_i he
          cases h
          exact partsW_ne (fun g hg q e hq => by cases hg; exact ih hq) he
        · exact finW_ne h
theorem written_len {f : List PrB} {b : List By} (h : writeK f b = 0) : (writeO f b).length ≤ 2097152 := by
  have h1 := written_read h
  unfold readL at h1
  split at h1
  · cases h1
  · omega
/-- what stands in the body as far as so many parts -/
def upTo (bd : List By) (l : List (List By)) : List By := l.flatMap fun p => 45 :: 45 :: bd ++ ([13, 10] ++ (p ++ [13, 10]))
theorem upTo_len {bd : List By} {l : List (List By)} {m : Nat} (h : ∀ p ∈ l, p.length ≤ m) : (upTo bd l).length ≤ l.length * (bd.length + m + 6) := by
  induction l with
  | nil => exact Nat.zero_le _
  | cons p l ih =>
    have h1 := ih fun q hq => h q (by simp [hq])
    have h2 := h p (by simp)
    have e : upTo bd (p :: l) = (45 :: 45 :: bd ++ ([13, 10] ++ (p ++ [13, 10]))) ++ upTo bd l := rfl
    rw [e, List.length_append, List.length_cons, Nat.succ_mul]
    have : (45 :: 45 :: bd ++ ([13, 10] ++ (p ++ [13, 10]))).length = bd.length + p.length + 6 := by
      simp only [List.length_append, List.length_cons, List.length_nil]
      omega
    omega
theorem upTo_snoc (bd : List By) (l : List (List By)) (p : List By) : upTo bd (l ++ [p]) = ((upTo bd l ++ (45 :: 45 :: bd ++ [13, 10])) ++ p) ++ [13, 10] := by
  unfold upTo
  rw [List.flatMap_append]
  simp
end Mim
namespace Sl
theorem accC_one (e : TypeId) (q : Acc) (xs : List Value) : accC e 1 q (xs.map fun v => [v]) = accE e q xs := by
  cases q with
  | none => rfl
  | some p =>
    have : (xs.map fun v => [v]).flatten = xs := by
      induction xs with
      | nil => rfl
      | cons x xs ih => rw [List.map_cons, List.flatten_cons, ih]; rfl
    show [(⟨p.1, Sl.Own e 1 (xs.map fun v => [v]).length p.2 (xs.map fun v => [v]).flatten, true⟩ : Ent)] = [⟨p.1, Sl.Own e 1 xs.length p.2 xs, true⟩]
    rw [this, List.length_map]
section
variable {P : Program} {n : Nat} {w0 : World} {S : List Nat} {ops : Array Oper} {Q : Exit → Act → World → Prop} {l : List Oper} {E : Env} {M M' M0 : List Ent} {d : Nat} {t e ty : TypeId} {pos : String} {aft : Array Edge} {x y : Operand}
/-- one value more -/
theorem JL.appendV {z : Value} {by' bl : Nat} {v : Value} {L : List Value} (q : Acc) (hu : P.underlying t = some (.slice e)) (hi : EI P e z 1 by') (hq : q = none → L = []) (hx : ev E x = some (accV q L.length)) (hy : ev E y = some (.slice (some ⟨bl, 0, none⟩) 1 1))
    (h1 : v.oneCell' = true) (hzz : z.cells.size = 1) (hsm : (L.length + 1) * by' ≤ 140737488355328) (hsm2 : L.length + 1 < 9223372036854775808) (hd : Nat.blt d n = true)
    (kk : ∀ b' cap', JL P n w0 S ops Q l ((d, accV (some (b', cap')) (L ++ [v]).length) :: E) (accE e (some (b', cap')) (L ++ [v]) ++ M0)) :
    JL P n w0 S ops Q (⟨some d, .call ⟨.builtin .append, #[x, y], #[t, t]⟩, ty, pos, aft, none⟩ :: l) E (⟨bl, Row e [v], true⟩ :: (accE e q L ++ M0)) := by
  rw [← accC_one e q L]
  refine JL.appendC (c := [v]) (L := L.map fun v => [v]) q hu hi (fun h => by rw [hq h]; rfl) (by rw [List.length_map]; exact hx) hy rfl (fun u hu => by rw [List.mem_singleton.1 hu]; exact h1) hzz (by decide) (by rw [List.length_map]; exact hsm) (by rw [List.length_map]; exact hsm2) hd fun b' cap' => ?_
  have := kk b' cap'
  rw [← accC_one] at this
  rw [show ((L.map fun v => [v]) ++ [[v]] : List (List Value)) = (L ++ [v]).map fun v => [v] by rw [List.map_append]; rfl, List.length_map]
  exact this
end
/-- a slice of slices that has grown -/
def acL (q : Acc) (rs : List Sl8) : SlL := match q with
  | none => ⟨none, 0, []⟩
  | some p => ⟨some ⟨p.1, 0, none⟩, p.2, rs⟩
theorem acL_v {q : Acc} {rs : List Sl8} : (acL q rs).v = accV q (rs.map Sl8.v).length := by
  cases q with
  | none => rfl
  | some p => show Value.slice _ _ _ = accV _ _; rw [List.length_map]; rfl
theorem acL_rs {q : Acc} {rs : List Sl8} (h : q = none → rs = []) : (acL q rs).rs = rs := by
  cases q with
  | none => rw [h rfl]; rfl
  | some p => rfl
theorem acL_ok {e : TypeId} {q : Acc} {rs : List Sl8} {w0 w : World} {S : List Nat} {M : List Ent} (hw : Holds w0 S (accE e q (rs.map Sl8.v) ++ (flatE rs ++ M)) w) (h0 : ∀ x ∈ rs, x.ad = none → x.l = []) : (acL q rs).ok w := by
  cases q with
  | none => exact ⟨Nat.le_refl _, Reads.nil _ _, nofun⟩
  | some p =>
    have h1 : Holds w0 S ([⟨p.1, Sl.Own e 1 rs.length p.2 (rs.map Sl8.v), true⟩] ++ flatE rs) w := by
      refine Sl.Holds.weak hw ?_
      show Less _ (⟨p.1, Sl.Own e 1 (rs.map Sl8.v).length p.2 (rs.map Sl8.v), true⟩ :: (flatE rs ++ M))
      rw [List.length_map]
      exact .keep _ _ _ _ _ _ (fun _ h => h) (less_pre _ _)
    exact ownL_ok (A := [_]) h1 .here h0
end Sl
end Go.Proofs.YtbbmhkdfdgnkpaaGreatDoor

/-
  Of no statement by itself: a part of bytes in n multiparts: its mail, as long as n is at most 8; one more is an error; pure; no program stands here.
  Conditions: none but each lemma's own.
-/
namespace Go.Proofs.YtbbmhkdfdgnkpaaGreatDoor
namespace Mim
open Fld Tok
def bdI (i : Nat) : List By := [98, BitVec.ofNat 8 (48 + i)]
def mmN : List By := [109, 117, 108, 116, 105, 112, 97, 114, 116, 47, 109, 105, 120, 101, 100]
def abN : List By := [97, 47, 98]
def nest : Nat → List By → Part
  | 0, b => .mk abN [] 1 b []
  | n + 1, b => .mk mmN [(bdN, bdI n)] 0 [] [nest n b]
def nestF : Nat → List PrB
  | 0 => [(ctW, writeB abN []), (ceW, b64)]
  | n + 1 => [(ctW, writeB mmN [(bdN, bdI n)])]
/-- its lines are none of the boundaries from n on -/
def far (n : Nat) (m : List By) : Prop := ∀ q ∈ linB m, ∀ i, n ≤ i → i < 10 → markB (bdI i) q.1 = 0
theorem lin_no45 : ∀ (l x : List By), (∀ c ∈ l, c ≠ 45) → (∀ c ∈ x, c ≠ 45) → ∀ q ∈ linR l x, ∀ c ∈ q.1, c ≠ 45
  | [], x, _, hx => by
    intro q hq
    unfold linR at hq
    split at hq
    · cases hq
    · rw [List.mem_singleton.1 hq]; exact hx
  | d :: l, x, hl, hx => by
    intro q hq
    unfold linR at hq
    split at hq
    · rcases List.mem_cons.1 hq with rfl | hq
      · split
        · exact fun c hc => hx c ((List.dropLast_prefix x).subset hc)
        · exact hx
      · exact lin_no45 l [] (fun c hc => hl c (List.mem_cons_of_mem _ hc)) (by simp) q hq
    · refine lin_no45 l (x ++ [d]) (fun c hc => hl c (List.mem_cons_of_mem _ hc)) (fun c hc => ?_) q hq
      rcases List.mem_append.1 hc with hc | hc
      · exact hx c hc
      · rw [List.mem_singleton.1 hc]; exact hl d List.mem_cons_self
theorem no45_nd {l : List By} (h : ∀ c ∈ l, c ≠ 45) : nd l := by
  intro e
  cases l with
  | nil => cases e
  | cons c l =>
    have : c = 45 := by
      cases l with
      | nil => simp at e
      | cons d l => simp only [List.take_succ_cons, List.take_zero, List.cons.injEq] at e; exact e.1
    exact h c List.mem_cons_self this
theorem sg45 : ∀ m : Fin 64, Arm.sg m.val ≠ 45 := by decide +kernel
theorem enc45 : ∀ (l : List By), ∀ c ∈ Arm.encB l, c ≠ 45 := by
  have hs : ∀ n, n < 64 → Arm.sg n ≠ 45 := fun n hn => sg45 ⟨n, hn⟩
  intro l
  induction l using Arm.by3 with
  | h0 => simp [Arm.encB]
  | h1 a =>
    intro c hc
    have := a.isLt
    simp only [Arm.encB, List.mem_cons, List.not_mem_nil, or_false] at hc
    rcases hc with rfl | rfl | rfl | rfl
    · exact hs _ (by omega)
    · exact hs _ (by omega)
    · decide
    · decide
  | h2 a b =>
    intro c hc
    have := a.isLt
    have := b.isLt
    simp only [Arm.encB, List.mem_cons, List.not_mem_nil, or_false] at hc
    rcases hc with rfl | rfl | rfl | rfl
    · exact hs _ (by omega)
    · exact hs _ (by omega)
    · exact hs _ (by omega)
    · decide
  | h3 a b c r ih =>
    intro x hx
    have := a.isLt
    have := b.isLt
    have := c.isLt
    rw [Arm.encB3] at hx
    simp only [List.mem_cons] at hx
    rcases hx with rfl | rfl | rfl | rfl | hx
    · exact hs _ (by omega)
    · exact hs _ (by omega)
    · exact hs _ (by omega)
    · exact hs _ (by omega)
    · exact ih x hx
theorem ln45 {s : List By} (hs : ∀ c ∈ s, c ≠ 45) : ∀ i, ∀ c ∈ Arm.lnB s i, c ≠ 45
  | 0 => by simp [Arm.lnB]
  | i + 1 => by
    have ih := ln45 hs i
    intro c hc
    unfold Arm.lnB at hc
    have h1 : s.getD i 0 ≠ 45 := by
      by_cases hi : i < s.length
      · rw [List.getD_eq_getElem?_getD, List.getElem?_eq_getElem hi]
        exact hs _ (List.getElem_mem hi)
      · rw [List.getD_eq_getElem?_getD, List.getElem?_eq_none (by omega)]
        decide
    rcases List.mem_append.1 hc with hc | hc
    · exact ih c hc
    rcases List.mem_cons.1 hc with hc | hc
    · rw [hc]; exact h1
    split at hc
    · simp only [List.mem_cons, List.not_mem_nil, or_false] at hc
      rcases hc with rfl | rfl <;> decide
    · cases hc
theorem lines_far (b : List By) (n : Nat) : far n (Arm.linesB b) := fun q hq i _ _ =>
  mark_nd (no45_nd (lin_no45 _ [] (ln45 (enc45 b) _) (by simp) q hq))
theorem last_app (a : List By) {b : List By} {x : By} (h : b.getLast? = some x) : (a ++ b).getLast? = some x := by
  obtain ⟨y, rfl⟩ := List.getLast?_eq_some_iff.1 h
  rw [← List.append_assoc]
  exact List.getLast?_concat
theorem lines_last {b : List By} (h : Arm.linesB b ≠ []) : (Arm.linesB b).getLast? = some 10 := by
  unfold Arm.linesB at h ⊢
  cases e : (Arm.encB b).length with
  | zero => rw [e] at h; exact absurd rfl h
  | succ k =>
    unfold Arm.lnB
    rw [if_pos (Or.inr e.symm)]
    simp
/-! ### heads -/
theorem lin_cat {a : List By} (r : List By) (h : a.getLast? = some 10) : linB (a ++ r) = linB a ++ linB r := by
  obtain ⟨x, rfl⟩ := List.getLast?_eq_some_iff.1 h
  unfold linB
  rw [List.append_assoc, List.singleton_append, lin_app]
theorem far_cat {a r : List By} {n : Nat} (h : a.getLast? = some 10) (h1 : far n a) (h2 : far n r) : far n (a ++ r) := by
  intro q hq
  rw [lin_cat r h] at hq
  rcases List.mem_append.1 hq with hq | hq
  · exact h1 q hq
  · exact h2 q hq
theorem far_mono {m : List By} {n k : Nat} (h : far n m) (hk : n ≤ k) : far k m := fun q hq i hi hi' => h q hq i (Nat.le_trans hk hi) hi'
def headN (n : Nat) : List By := headB (nestF n) ++ [13, 10]
def farB (n : Nat) (m : List By) : Bool := (linB m).all fun q => (List.range 10).all fun i => decide (i < n) || decide (markB (bdI i) q.1 = 0)
theorem far_of {n : Nat} {m : List By} (h : farB n m = true) : far n m := fun q hq i hi hi' => by
  have h1 := List.all_eq_true.1 h q hq
  have h2 := List.all_eq_true.1 h1 i (List.mem_range.2 hi')
  simp only [Bool.or_eq_true, decide_eq_true_eq] at h2
  omega
def headGood (n : Nat) : Bool := farB 0 (headN n) && (decide ((headN n).getLast? = some 10) && (decide ((headN n).length ≤ 100) && (decide ((nestF n).length ≤ 2) && (nestF n).all fun p => nameB p.1 && valB p.2)))
theorem head_good : ∀ n : Fin 10, headGood n.val = true := by decide +kernel
theorem head_is {n : Nat} (h : n < 10) : far 0 (headN n) ∧ (headN n).getLast? = some 10 ∧ (headN n).length ≤ 100 ∧ (nestF n).length ≤ 2 ∧ (nestF n).all (fun p => nameB p.1 && valB p.2) = true := by
  have := head_good ⟨n, h⟩
  unfold headGood at this
  simp only [Bool.and_eq_true, decide_eq_true_eq] at this
  exact ⟨far_of this.1, this.2.1, this.2.2.1, this.2.2.2.1, this.2.2.2.2⟩
theorem nest_fin {n : Nat} {b : List By} (hn : n < 10) (hb : b.length ≤ 100000) : writeK (nestF n) b = 0 ∧ writeO (nestF n) b = headN n ++ b := by
  obtain ⟨_, _, h3, h4, h5⟩ := head_is hn
  have hl : (headN n).length = (headB (nestF n)).length + 2 := by unfold headN; rw [List.length_append]; rfl
  have hk : writeK (nestF n) b = 0 := by
    unfold writeK
    rw [if_pos h5, if_neg (by omega)]
  refine ⟨hk, ?_⟩
  unfold writeO
  rw [if_pos hk]
  rfl
/-! ### multiparts -/
theorem bd_ok : ∀ i : Fin 10, boundB (bdI i.val) = true := by decide +kernel
theorem bd_far : ∀ i j : Fin 10, i.val < j.val → markB (bdI j.val) (45 :: 45 :: bdI i.val) = 0 ∧ markB (bdI j.val) (45 :: 45 :: (bdI i.val ++ [45, 45])) = 0 := by decide +kernel
theorem far_line {a : List By} {n : Nat} (ha : ∀ c ∈ a, c ≠ 10) (h : ∀ i, n ≤ i → i < 10 → markB (bdI i) a = 0) : far n (a ++ [13, 10]) := by
  intro q hq
  rw [lin_line ha []] at hq
  have : linB ([] : List By) = [] := rfl
  rw [this, List.mem_singleton] at hq
  subst hq
  exact h
theorem jn_one (bd m : List By) : jn bd [m] [] = (45 :: 45 :: bd ++ [13, 10]) ++ (m ++ ([13, 10] ++ (45 :: 45 :: (bd ++ [45, 45]) ++ [13, 10]))) := by simp [jn]
theorem far_jn {n : Nat} {m : List By} (hn : n < 9) (hl : m.getLast? = some 10) (h : far n m) : far (n + 1) (jn (bdI n) [m] []) := by
  have hb := bd_ok ⟨n, by omega⟩
  rw [jn_one]
  refine far_cat (last_app _ rfl) (far_line (fun c hc => (dash_ok hb c hc).2.1) fun i h1 h2 => (bd_far ⟨n, by omega⟩ ⟨i, h2⟩ (by show n < i; omega)).1) ?_
  refine far_cat hl (far_mono h (by omega)) ?_
  refine far_cat (by simp) (far_line (a := []) (by simp) fun i h1 h2 => mark_nd nd_nil) ?_
  exact far_line (fun c hc => (dash_ok2 hb c hc).2.1) fun i h1 h2 => (bd_far ⟨n, by omega⟩ ⟨i, h2⟩ (by show n < i; omega)).2
theorem par_bd (v : List By) : parB [(bdN, v)] bdN = v := by
  unfold parB
  rw [List.find?_cons_of_pos (by simp)]
  rfl
def rightN (n : Nat) : Bool := rightP mmN [(bdN, bdI n)]
theorem right_n : ∀ n : Fin 10, rightN n.val = true := by decide +kernel
theorem right_0 : rightP abN [] = true := by decide +kernel
/-- a mail of n multiparts: its body, how long it is, and that its lines are none of the boundaries from n on -/
theorem nest_ok (Qe : List By → List By) (b : List By) (hb : b.length ≤ 300) : ∀ n, n ≤ 8 → ∃ y : List By, (∀ k, n ≤ k → writeP Qe k (nest n b) = .ok (nestF n, y)) ∧ y.length ≤ 1300 + 150 * n ∧ far n (writeO (nestF n) y) ∧ (writeO (nestF n) y).getLast? = some 10 ∧ writeK (nestF n) y = 0
  | 0, _ => by
    have hl : (Arm.linesB b).length ≤ 1300 := by
      have h1 := Arm.lnB_len (Arm.encB b) (Arm.encB b).length
      have h2 := Arm.encB_len b
      unfold Arm.linesB
      omega
    obtain ⟨hk, ho⟩ := nest_fin (n := 0) (b := Arm.linesB b) (by decide) (by omega)
    obtain ⟨g1, g2, _⟩ := head_is (n := 0) (by decide)
    refine ⟨Arm.linesB b, fun k _ => ?_, by omega, ?_, ?_, hk⟩
    · have e : nodeW Qe (match k with | 0 => none | k + 1 => some (writeP Qe k)) (nest 0 b) = .ok (nestF 0, Arm.linesB b) := by
        show nodeA Qe _ abN [] 1 b [] = _
        unfold nodeA
        rw [if_neg (by rw [right_0]; decide), if_neg (by decide), if_neg (by decide)]
        show finW (nestF 0) (Arm.linesB b) = _
        unfold finW
        rw [if_pos hk]
      cases k with
      | zero => exact e
      | succ k => exact e
    · rw [ho]
      exact far_cat g2 g1 (lines_far b 0)
    · rw [ho]
      by_cases h0 : Arm.linesB b = []
      · rw [h0, List.append_nil]; exact g2
      · exact last_app _ (lines_last h0)
  | n + 1, hn => by
    obtain ⟨y, h1, h2, h3, h4, h5⟩ := nest_ok Qe b hb n (by omega)
    obtain ⟨g1, g2, g3, _⟩ := head_is (n := n + 1) (by omega)
    obtain ⟨_, _, g4, _⟩ := head_is (n := n) (by omega)
    obtain ⟨_, ho⟩ := nest_fin (n := n) (b := y) (by omega) (by omega)
    have hm : (writeO (nestF n) y).length ≤ 100 + y.length := by rw [ho, List.length_append]; omega
    have hy : (jn (bdI n) [writeO (nestF n) y] []).length ≤ 1300 + 150 * (n + 1) := by
      rw [jn_one]
      simp only [List.length_append, List.length_cons, List.length_nil, bdI]
      omega
    obtain ⟨hk, hO⟩ := nest_fin (n := n + 1) (b := jn (bdI n) [writeO (nestF n) y] []) (by omega) (by omega)
    have hbd := bd_ok ⟨n, by omega⟩
    refine ⟨jn (bdI n) [writeO (nestF n) y] [], fun k hk' => ?_, hy, ?_, ?_, hk⟩
    · obtain ⟨k, rfl⟩ : ∃ j, k = j + 1 := ⟨k - 1, by omega⟩
      show nodeA Qe (some (writeP Qe k)) mmN [(bdN, bdI n)] 0 [] [nest n b] = _
      have e1 : mapE (writeP Qe k) [nest n b] = .ok [(nestF n, y)] := by
        rw [mapE, h1 k (by omega)]
        rfl
      have hr := right_n ⟨n, by omega⟩
      unfold rightN at hr
      unfold nodeA
      rw [par_bd, if_neg (by rw [hr]; decide), if_pos (by decide), if_neg (by rw [hbd]; simp)]
      dsimp only
      rw [e1]
      dsimp only
      rw [List.map_cons, List.map_nil, if_pos (jn_only hbd (by simp) fun p hp => by rw [List.mem_singleton.1 hp]; exact fun q hq => h3 q hq n (Nat.le_refl _) (by omega))]
      unfold finW
      have hk2 : writeK [(ctW, writeB mmN [(bdN, bdI n)])] (jn (bdI n) [writeO (nestF n) y] []) = 0 := hk
      rw [if_pos hk2]
      rfl
    · rw [hO]
      exact far_cat g2 (far_mono g1 (by omega)) (far_jn (by omega) h4 h3)
    · rw [hO, jn_one]
      exact last_app _ (last_app _ (last_app _ (last_app _ (last_app _ rfl))))
theorem nest_deep (Qe : List By → List By) (b : List By) : ∀ n, n < 10 → ∀ k, k < n → writeP Qe k (nest n b) = .error 5
  | 0, _, _, h => by cases h
  | n + 1, hn, k, h => by
    have hbd := bd_ok ⟨n, by omega⟩
    have hr := right_n ⟨n, by omega⟩
    unfold rightN at hr
    cases k with
    | zero =>
      show nodeA Qe none mmN [(bdN, bdI n)] 0 [] [nest n b] = _
      unfold nodeA
      rw [par_bd, if_neg (by rw [hr]; decide), if_pos (by decide), if_neg (by rw [hbd]; simp)]
    | succ k =>
      show nodeA Qe (some (writeP Qe k)) mmN [(bdN, bdI n)] 0 [] [nest n b] = _
      have e1 : mapE (writeP Qe k) [nest n b] = .error 5 := by
        rw [mapE, nest_deep Qe b n (by omega) k (by omega)]
      unfold nodeA
      rw [par_bd, if_neg (by rw [hr]; decide), if_pos (by decide), if_neg (by rw [hbd]; simp)]
      dsimp only
      rw [e1]
theorem nest_noQ (b : List By) : ∀ n k, noQ k (nest n b)
  | 0, 0 => by show (1 : Int) ≠ 2; decide
  | 0, k + 1 => ⟨by show (1 : Int) ≠ 2; decide, by intro q hq; cases hq⟩
  | n + 1, 0 => by show (0 : Int) ≠ 2; decide
  | n + 1, k + 1 => ⟨by show (0 : Int) ≠ 2; decide, by
    intro q hq
    rw [List.mem_singleton.1 (show q ∈ [nest n b] from hq)]
    exact nest_noQ b n k⟩
theorem nest_read (Qd : List By → Except Nat (List By)) (Qe : List By → List By) {n k : Nat} {b : List By} {f : List PrB} {y : List By} (h : writeP Qe k (nest n b) = .ok (f, y)) : readP Qd k f y = .ok (nest n b) := read_written k (.inr (nest_noQ b n k)) h
end Mim
end Go.Proofs.YtbbmhkdfdgnkpaaGreatDoor

/-
  Of no statement by itself: literals of slices of two elements with many cells; over X's partial knowledge, for any program P.
  Conditions: each rule's own hypotheses.
-/
namespace Go.Proofs.YtbbmhkdfdgnkpaaGreatDoor
namespace Sl
section
variable {P : Program} {n : Nat} {w0 : World} {S : List Nat} {ops : Array Oper} {Q : Exit → Act → World → Prop} {l : List Oper} {E : Env} {M : List Ent}
variable {d : Nat} {t e ty : TypeId} {pos : String} {aft : Array Edge} {v z : Value} {x y : Operand} {sz by' : Nat} {cs ds : List Value}
end
end Sl
end Go.Proofs.YtbbmhkdfdgnkpaaGreatDoor

/-
  Of no statement by itself: what MimeDeep gives, over MimeOk.
  Conditions: MimeOk, and each theorem's own.
-/
namespace Go.Proofs.YtbbmhkdfdgnkpaaGreatDoor
set_option maxRecDepth 10000
open Sl Fld Mim
theorem goes_mwrite : Goes Tryz.prog 13 := ⟨_, Tryz.func13, rfl, by kernel_rfl⟩
theorem paramI : EI Tryz.prog 38 (.agg (pc ([], [])).toArray) 2 32 := by unfold EI; kernel_rfl
theorem partI : EI Tryz.prog 36 (.agg #[Z [], .slice none 0 0, .int .i64 0, .slice none 0 0, .slice none 0 0]) 5 96 := by unfold EI; kernel_rfl
theorem letA12 : aggT Tryz.prog 41 = true := by kernel_rfl
theorem letS12 : szT Tryz.prog 41 = some 2 := by kernel_rfl
theorem letZ12 : zc Tryz.prog 41 = some [nil2.v, nilS.v] := by kernel_rfl
section
variable {n : Nat} {E : Env} {C : World → Prop} {dst : Option Tmp} {ty : TypeId} {pos : String} {aft : Array Edge} {g : Option (Nat × Bool)} {x y z : Operand}
theorem build_par {a b : List Bt} (hx : ev E x = some (Z a)) (hy : ev E y = some (Z b)) : OQ Tryz.prog n E C ⟨dst, .build 38 #[(0, x), (1, y)], ty, pos, aft, g⟩ (.agg (pc (a, b)).toArray) := by
  refine OQ.run fun k hk w _ => ?_
  have h1 := hk.eval hx
  have h2 := hk.eval hy
  have h3 := run_build (P := Tryz.prog) w 38 #[(0, Z a), (1, Z b)] #[Z a, Z b] (by kernel_rfl)
  simp [execOp, h1, h2, Sem.run_bind, h3, pc]
theorem build_p1 {a : List Bt} {c : Int} {s : Sl8} (hx : ev E x = some (Z a)) (hy : ev E y = some (.int .i64 c)) (hz : ev E z = some s.v) : OQ Tryz.prog n E C ⟨dst, .build 36 #[(0, x), (2, y), (3, z)], ty, pos, aft, g⟩ (.agg #[Z a, .slice none 0 0, .int .i64 c, s.v, .slice none 0 0]) := by
  refine OQ.run fun k hk w _ => ?_
  have h1 := hk.eval hx
  have h2 := hk.eval hy
  have h3 := hk.eval hz
  have h4 := run_build (P := Tryz.prog) w 36 #[(0, Z a), (2, .int .i64 c), (3, s.v)] #[Z a, .slice none 0 0, .int .i64 c, s.v, .slice none 0 0] (by kernel_rfl)
  simp [execOp, h1, h2, h3, Sem.run_bind, h4]
theorem build_p2 {a : List Bt} {p q : Option Addr} {i j k l : Nat} (hx : ev E x = some (Z a)) (hy : ev E y = some (.slice p i j)) (hz : ev E z = some (.slice q k l)) : OQ Tryz.prog n E C ⟨dst, .build 36 #[(0, x), (1, y), (4, z)], ty, pos, aft, g⟩ (.agg #[Z a, .slice p i j, .int .i64 0, .slice none 0 0, .slice q k l]) := by
  refine OQ.run fun m hk w _ => ?_
  have h1 := hk.eval hx
  have h2 := hk.eval hy
  have h3 := hk.eval hz
  have h4 := run_build (P := Tryz.prog) w 36 #[(0, Z a), (1, .slice p i j), (4, .slice q k l)] #[Z a, .slice p i j, .int .i64 0, .slice none 0 0, .slice q k l] (by kernel_rfl)
  simp [execOp, h1, h2, h3, Sem.run_bind, h4]
end
def digs : List Fld.By := [48, 49, 50, 51, 52, 53, 54, 55, 56, 57]
theorem digs_at {i : Nat} (h : i < 10) : [98] ++ (digs.take (i + 1)).drop i = bdI i := by
  have : ∀ k : Fin 10, [98] ++ (digs.take (k.val + 1)).drop k.val = bdI k.val := by decide +kernel
  exact this ⟨i, h⟩
/-- what is known of a nest's cells by what is known of some blocks -/
def NestE (s : Sl8) (i : Nat) (cs : List Value) (M : List Ent) : Prop := (∀ (w0 : World) (S : List Nat) (w' : World), Holds w0 S M w' → s.ok w' → IsPart (i + 1) w' (nest i s.l) cs) ∧ cs.length = 5 ∧ cs.all Value.oneCell' = true
theorem nest_0 (s : Sl8) : NestE s 0 [Z abN, nil2.v, .int .i64 1, s.v, .slice none 0 0] [] :=
  ⟨fun w0 S w' _ hs => ⟨nil2, s, none, 0, [], rfl, ⟨nil2_ok w', rfl⟩, ⟨hs, rfl⟩, Nat.le_refl _, Reads.nil _ _, rfl, nofun⟩, rfl, rfl⟩
theorem nest_up {s : Sl8} {i : Nat} {cs : List Value} {M : List Ent} {b1 b2 : Nat} (h : NestE s i cs M) : NestE s (i + 1) [Z mmN, .slice (some ⟨b1, 0, none⟩) 1 1, .int .i64 0, nilS.v, .slice (some ⟨b2, 0, none⟩) 1 1] (⟨b2, Row 36 cs, true⟩ :: ⟨b1, Row 38 (pc (bdN, bdI i)), true⟩ :: M) := by
  refine ⟨fun w0 S w' hw hs => ?_, rfl, rfl⟩
  obtain ⟨o2, ho2, hA2⟩ := hw.get (b := b2) (A := Row 36 cs) (wr := true) .here
  obtain ⟨o1, ho1, hA1⟩ := hw.get (b := b1) (A := Row 38 (pc (bdN, bdI i))) (wr := true) (.there .here)
  refine ⟨⟨some ⟨b1, 0, none⟩, 1, [(bdN, bdI i)]⟩, nilS, some ⟨b2, 0, none⟩, 1, [cs], rfl, ⟨⟨Nat.le_refl _, Reads.block ho1 (Row.all _ hA1)⟩, rfl⟩, ⟨nilS_ok w', rfl⟩, Nat.le_refl _, ?_, rfl, fun k hk => ?_⟩
  · have e : [cs].flatten = cs := by simp
    rw [e]
    exact Reads.block ho2 (Row.all _ hA2)
  · obtain rfl : k = 0 := by simpa using hk
    exact h.1 w0 S w' (Sl.Holds.weak hw (.drop _ _ _ (.drop _ _ _ (Less.refl _)))) hs
theorem nest_low (b : List Fld.By) (hb : b.length ≤ 300) : ∀ (d i : Nat), i < 10 → lowP d (nest i b)
  | 0, _, _ => trivial
  | d + 1, 0, _ => ⟨show abN.length ≤ 1000 by decide, show 0 ≤ 10 by decide, nofun, show (0 : Int) ≤ 1 by decide, show (1 : Int) ≤ 2 by decide, by show b.length ≤ 4000; omega, show 0 ≤ 5 by decide, nofun⟩
  | d + 1, i + 1, hi => ⟨show mmN.length ≤ 1000 by decide, show 1 ≤ 10 by decide, fun q hq => by
      rw [List.mem_singleton.1 hq]; exact ⟨show bdN.length ≤ 1000 by decide, show 2 ≤ 1000 by decide⟩, show (0 : Int) ≤ 0 by decide, show (0 : Int) ≤ 2 by decide, show 0 ≤ 4000 by decide, show 1 ≤ 5 by decide, fun q hq => by
      rw [List.mem_singleton.1 hq]; exact nest_low b hb d i (by omega)⟩
theorem nest_sized (b : List Fld.By) (hb : b.length ≤ 300) : ∀ (d i : Nat), sized d (nest i b)
  | 0, _ => trivial
  | d + 1, 0 => ⟨show 0 < 4611686018427387904 by decide, by show b.length < _; omega, show 0 < 4611686018427387904 by decide, nofun⟩
  | d + 1, i + 1 => ⟨show 1 < 4611686018427387904 by decide, show 0 < 4611686018427387904 by decide, show 1 < 4611686018427387904 by decide, fun q hq => by rw [List.mem_singleton.1 hq]; exact nest_sized b hb d i⟩
def nestFGood (n : Nat) : Bool := (nestF n).all fun p => decide (p.1.length ≤ 1000) && decide (p.2.length ≤ 1000)
theorem nestF_good : ∀ n : Fin 10, nestFGood n.val = true := by decide +kernel
theorem nestF_small {n : Nat} (h : n < 10) : ∀ p ∈ nestF n, p.1.length ≤ 1000 ∧ p.2.length ≤ 1000 := fun p hp => by
  have := List.all_eq_true.1 (nestF_good ⟨n, h⟩) p hp
  simpa using this
theorem and3 (a : Int) : (BitVec.ofInt 64 a &&& BitVec.ofNat 64 3).toNat ≤ 3 := by
  have h : (BitVec.ofInt 64 a &&& BitVec.ofNat 64 3).toNat ≤ (BitVec.ofNat 64 3).toNat := by
    rw [BitVec.toNat_and]; exact Nat.and_le_right
  exact h
theorem isPart_one : ∀ {d : Nat} {w : World} {p : Part} {cs : List Value}, IsPart d w p cs → cs.all Value.oneCell' = true
  | _ + 1, _, _, _, ⟨_, _, _, _, _, h, _⟩ => by rw [h]; rfl
structure DeT where
  i : Nat
  cs : List Value
  M : List Ent
set_option maxHeartbeats 32000000 in
theorem law_mimeDeep {Qd : List Fld.By → Except Nat (List Fld.By)} (hM : MimeOk Qd) (hW : MimeW) (s : Sl8) (mo : Int) (w : World) (hs : s.ok w) (hE : EncOk w) : Calls Tryz.prog 4 [s.v, .int .i64 mo].toArray w fun e w' => e = .returned (.bool true) ∧ Ext w w' := by
  refine enter (n := 70) Tryz.func4 rfl rfl rfl (Holds.start w []) ?_
  have cs := fun (M : List Ent) (w' : World) (hw' : Holds w [] M w') => speaks12_any hM w' (hE.holds hw')
  repeat (first | refine JL.q (by first | (apply OQ.callx (vs := []); exact goes_speaks12; exact rfl; exact (cs _)) | (apply OQ.not; exact rfl) | (apply OQ.assign; exact rfl)) rfl ?_ | refine JC.seq ?_ | refine JC.region ?_ | refine JL.nil ?_ | refine JE.next ?_)
  refine JC.cond rfl (fun h => by cases h) (fun _ => ?_)
  cases g0 : decide ((300 : Int) < (s.l.length : Int))
  all_goals (repeat (first | refine JL.q (by first | (apply OQ.len; exact Tryz.underlying22; exact rfl) | (apply OQ.gtrB (b := 300); exact rfl; exact rfl; exact g0) | (apply OQ.move; exact rfl)) rfl ?_ | refine JC.seq ?_ | refine JC.region ?_ | refine JC.skip ?_ | refine JL.nil ?_ | refine JE.next ?_))
  all_goals refine JC.cond rfl (fun h => ?_) (fun h => ?_)
  all_goals first | (exfalso; revert h; decide) | skip
  all_goals clear h
  all_goals first
    | ((repeat (first | refine JL.q (by first | (apply OQ.move; exact rfl) | (apply OQ.assign; exact rfl)) rfl ?_ | refine JC.seq ?_ | refine JC.region ?_ | refine JC.skip ?_ | refine JL.nil ?_ | refine JE.next ?_))
       refine JC.ret ?_
       (repeat (refine JE.then_ret ?_))
       exact JE.ret1 rfl (RV.tmp rfl) fun w' hw => ⟨rfl, hw.chg⟩)
    | skip
  have l1 : s.l.length ≤ 300 := by have := of_decide_eq_false g0; omega
  clear g0 cs
  repeat (first | refine JL.q (by first | (apply build_p1 (a := abN) (c := 1) (s := s); exact rfl; exact rfl; exact rfl) | (apply OQ.move; exact rfl)) rfl ?_ | refine JC.seq ?_ | refine JC.region ?_ | refine JC.skip ?_ | refine JE.next ?_)
  refine JL.alloc ptZ rfl fun b5 _ => ?_
  refine JL.store_all (cs := [Z abN, nil2.v, .int .i64 1, s.v, .slice none 0 0]) ptS rfl rfl rfl rfl .here rfl ?_
  have h3 := and3 mo
  repeat (first | refine JL.q (by first | (apply OQ.lowI (a := mo) (m := 3); exact rfl; exact rfl; exact (by decide)) | (apply OQ.move; exact rfl) | (apply OQ.assign; exact rfl) | (apply OQ.addN; exact rfl; exact rfl; exact (by (try simp only []); omega))) rfl ?_ | refine JC.seq ?_ | refine JC.region ?_ | refine JC.block ?_ | refine JL.nil ?_ | refine JE.next ?_)
  generalize (BitVec.ofInt 64 mo &&& BitVec.ofNat 64 3).toNat = t at h3
  have hn : 6 + t < 10 := by omega
  clear h3
  skip
  refine JC.loop (fun z : DeT => [(0, s.v), (5, Pt b5 0), (6, N (6 + t)), (7, N z.i)]) (fun z => ⟨b5, Row 36 z.cs, true⟩ :: z.M) (fun z => 6 + t - z.i) (fun z => z.i ≤ 6 + t ∧ NestE s z.i z.cs z.M) ⟨0, _, []⟩ ⟨Nat.zero_le _, nest_0 s⟩ (by repeat (first | exact SubE.nil | refine SubE.cons _ _ _ rfl ?_)) (Less.refl _) ?_
  generalize 6 + t = n at hn
  rintro ⟨i, cs, M⟩ ⟨hi, hN⟩
  dsimp only at hi hN ⊢
  have hcl := hN.2.1
  have hc1 := hN.2.2
  repeat (first | refine JL.q (by first | (apply OQ.move; exact rfl) | (apply OQ.lssN; exact rfl; exact rfl)) rfl ?_ | refine JC.seq ?_ | refine JC.region ?_ | refine JL.nil ?_ | refine JE.next ?_)
  refine JC.cond rfl (fun h => ?_) (fun h => ?_)
  · have hi' : i < n := of_decide_eq_true h
    clear h hi
    have hi10 : i < 10 := by omega
    have hdg := digs_at hi10
    repeat (first | refine JL.q (by first | (apply OQ.subS (l := digs); exact Tryz.underlying9; exact rfl; exact rfl; exact rfl; exact (by omega); exact (show i + 1 ≤ 10 by omega)) | (apply OQ.addS (l := [98]) (r := (digs.take (i + 1)).drop i); exact rfl; exact rfl; exact (by rw [List.length_drop, List.length_take, List.length_cons, List.length_nil]; omega)) | (apply OQ.move; exact rfl) | (apply OQ.assign; exact rfl) | (apply OQ.addN; exact rfl; exact rfl; exact (by (try simp only []); omega))) rfl ?_ | refine JC.seq ?_ | refine JC.region ?_ | refine JC.block ?_ | refine JC.skip ?_ | refine JL.nil ?_ | refine JE.next ?_)
    rw [hdg]
    repeat (refine JL.q (by (apply build_par (a := bdN) (b := bdI i); exact rfl; exact rfl)) rfl ?_)
    refine JL.litA (cs := pc (bdN, bdI i)) Tryz.underlying33 paramI rfl (by decide) (by decide) rfl rfl rfl fun b1 _ => ?_
    repeat (refine JL.q (by (apply OQ.load_agg (cs := cs); exact ptA; exact ptS; exact rfl; exact (.there .here); exact hcl; exact Row.all)) rfl ?_)
    refine JL.litA (cs := cs) Tryz.underlying34 partI rfl (by decide) (by decide) rfl hcl rfl fun b2 _ => ?_
    repeat (refine JL.q (by (apply build_p2 (a := mmN); exact rfl; exact rfl; exact rfl)) rfl ?_)
    refine JL.store_all (cs := [Z mmN, .slice (some ⟨b1, 0, none⟩) 1 1, .int .i64 0, nilS.v, .slice (some ⟨b2, 0, none⟩) 1 1]) ptS rfl rfl rfl rfl (.there (.there .here)) hcl ?_
    repeat (first | refine JL.q (by first | (apply OQ.move; exact rfl) | (apply OQ.assign; exact rfl) | (apply OQ.addN; exact rfl; exact rfl; exact (by (try simp only []); omega))) rfl ?_ | refine JC.region ?_ | refine JL.nil ?_ | refine JE.next ?_ | refine JE.blk_normal ?_)
    exact JE.perm (List.Perm.trans (.cons _ (.swap _ _ _)) (.swap _ _ _)) (JE.again (i := DeT.mk i cs M) (DeT.mk (i + 1) _ _) ⟨hi', nest_up hN⟩ (by dsimp only; omega) (by repeat (first | exact SubE.nil | refine SubE.cons _ _ _ rfl ?_)) (Less.refl _))
  · have hi' : ¬ i < n := of_decide_eq_false h
    clear h
    obtain rfl : i = n := by omega
    clear hi hi'
    let Qe : List Fld.By → List Fld.By := fun x => x
    refine JC.reb (S' := []) (M' := [⟨b5, Row 36 cs, false⟩]) (fun w1 hw1 => Holds.cold (M := [⟨b5, Row 36 cs, true⟩]) (Sl.Holds.weak hw1 (.keep _ _ _ _ _ _ (fun _ h => h) (.nil _)))) fun w1 hw1 => ?_
    have hx1 : Ext w w1 := hw1.chg
    have hP : IsPart 10 w1 (nest i s.l) cs := (hN.1 _ _ w1 (Sl.Holds.weak hw1 (.drop _ _ _ (Less.refl _))) (hs.holds hw1 rfl)).mono (by omega)
    clear hN hw1 M hs
    repeat (first | refine JL.q (by (apply OQ.load_agg (cs := cs); exact ptA; exact ptS; exact rfl; exact .here; exact hcl; exact Row.all)) rfl ?_ | refine JC.seq ?_ | refine JC.region ?_ | refine JC.exit ?_ | refine JE.next ?_ | refine JE.then_exit ?_ | refine JE.blk_hit ?_)
    refine JL.callw (vs := [.agg cs.toArray]) (S' := []) (ι := { x : Sl2 × Sl8 // x.1.l = fstE (writeP Qe 8 (nest i s.l)) ∧ x.2.l = sndE (writeP Qe 8 (nest i s.l)) }) (fun x => .tuple #[.agg #[x.1.1.v, x.1.2.v], N (codeE (writeP Qe 8 (nest i s.l)))]) (fun x w2 => x.1.1.ok w2 ∧ x.1.2.ok w2) [⟨b5, Row 36 cs, false⟩] goes_mwrite rfl rfl (fun w' hw' => hW.write Qe (nest i s.l) cs w' ((hE.ext hx1).holds hw') (hP.ext hw'.chg) (nest_noQ _ _ _) (nest_low _ l1 _ _ hn)) (Less.refl _) (by intro e he hr; rw [List.mem_singleton.1 he] at hr; cases hr) ?_
    rintro ⟨⟨F, G⟩, hF, hG⟩ w2 hw2 ⟨okF, okG⟩
    dsimp only at hF hG okF okG ⊢
    replace hx1 := hx1.trans hw2.chg
    replace hP := hP.ext hw2.chg
    clear hw2
    by_cases hn8 : i ≤ 8
    · obtain ⟨y, hy1, hy2, _⟩ := nest_ok Qe s.l l1 i hn8
      have hw8 := hy1 8 hn8
      have hrd := nest_read Qd Qe hw8
      rw [hw8] at hF hG ⊢
      have h0 : decide (((0 : Nat) : Int) = ((0 : Nat) : Int)) = true := rfl
      have h8 : decide ((8 : Int) < (i : Int)) = false := decide_eq_false (by omega)
      have hF' : F.l = nestF i := hF
      have hG' : G.l = y := hG
      have hsm := nestF_small hn
      have hlF : F.l.length ≤ 2 := by rw [hF']; exact (Mim.head_is hn).2.2.2.1
      repeat (refine JL.q (by first | (apply OQ.extract; exact rfl; exact rfl) | (apply OQ.move; exact rfl)) rfl ?_)
      refine JL.alloc letZ12 rfl fun b9 _ => ?_
      refine JL.store_all (cs := [F.v, G.v]) letS12 rfl rfl rfl rfl .here rfl ?_
      repeat (first | refine JL.q (by first | (apply OQ.gtrB (a := (i : Int)) (b := 8); exact rfl; exact rfl; exact h8) | (apply OQ.move; exact rfl) | (apply OQ.assign; exact rfl)) rfl ?_ | refine JC.seq ?_ | refine JC.region ?_ | refine JL.nil ?_ | refine JE.next ?_)
      refine JC.cond rfl (fun h => by cases h) (fun _ => ?_)
      repeat (first | refine JL.q (by (apply OQ.load_agg (cs := [F.v, G.v]); exact letA12; exact letS12; exact rfl; exact .here; exact rfl; exact Row.all)) rfl ?_ | refine JC.seq ?_ | refine JC.region ?_ | refine JC.skip ?_ | refine JE.next ?_)
      refine JL.callw (vs := [.agg #[F.v, G.v]]) (S' := []) (ι := { cs : List Value // cs.length = 5 }) (fun c => .tuple #[.agg c.1.toArray, N (codeE (readP Qd 8 F.l G.l))]) (fun c w3 => ∀ p, readP Qd 8 F.l G.l = .ok p → IsPart 10 w3 p c.1) [⟨b5, Row 36 cs, false⟩] goes_mread rfl rfl (fun w' hw' => hM.read F G w' ((hE.ext hx1).holds hw') (okF.holds hw' rfl) (okG.holds hw' rfl) (fun p hp => by have := hsm p (hF' ▸ hp); exact ⟨Nat.lt_of_le_of_lt this.1 (by decide), Nat.lt_of_le_of_lt this.2 (by decide)⟩) (by omega) (by rw [hG']; omega) (fun p hp _ => by have := hsm p (hF' ▸ hp); omega)) (.drop _ _ _ (Less.refl _)) (by intro e he hr; rw [List.mem_singleton.1 he] at hr; cases hr) ?_
      rintro ⟨c, hc⟩ w3 hw3 hR
      dsimp only at hR ⊢
      replace hx1 := hx1.trans hw3.chg
      replace hP := hP.ext hw3.chg
      clear hw3
      rw [hF', hG', hrd] at hR ⊢
      have hQ := hR _ rfl
      have hsame : ∀ M w', Holds w3 [] M w' → Calls Tryz.prog 15 [.agg cs.toArray, .agg c.toArray].toArray w' fun e w'' => e = .returned (.bool true) ∧ Ext w' w'' := fun M w' hw' => rsame12_any 10 _ cs c w' (hP.ext hw'.chg) (hQ.ext hw'.chg) (nest_sized _ l1 _ _)
      repeat (refine JL.q (by first | (apply OQ.extract; exact rfl; exact rfl) | (apply OQ.move; exact rfl)) rfl ?_)
      refine JL.alloc ptZ rfl fun b11 _ => ?_
      refine JL.store_all (cs := c) ptS rfl rfl hc (isPart_one hQ) .here rfl ?_
      repeat (first | refine JL.q (by first | (apply OQ.eqB (a := ((0 : Nat) : Int)) (b := ((0 : Nat) : Int)); exact rfl; exact rfl; exact h0) | (apply OQ.load_agg (cs := cs); exact ptA; exact ptS; exact rfl; exact (.there .here); exact hcl; exact Row.all) | (apply OQ.load_agg (cs := c); exact ptA; exact ptS; exact rfl; exact .here; exact hc; exact Row.all) | (apply OQ.callx (vs := [.agg cs.toArray, .agg c.toArray]); exact goes_rsame12; exact rfl; exact (hsame _)) | (apply OQ.pick_t; exact rfl; exact rfl) | (apply OQ.move; exact rfl) | (apply OQ.assign; exact rfl)) rfl ?_ | refine JC.seq ?_ | refine JC.region ?_ | refine JL.nil ?_ | refine JE.next ?_ | refine JL.gon rfl rfl ?_)
      refine JC.ret ?_
      skip
      exact JE.ret1 rfl (RV.tmp rfl) fun w' hw => ⟨rfl, hx1.trans hw.chg⟩
    · have hw5 := nest_deep Qe s.l i hn 8 (by omega)
      rw [hw5] at hF hG ⊢
      have h5 : decide (((5 : Nat) : Int) = ((5 : Nat) : Int)) = true := rfl
      have h8 : decide ((8 : Int) < (i : Int)) = true := decide_eq_true (by omega)
      have hG' : G.l = [] := hG
      have hGl : decide ((G.l.length : Int) = ((0 : Nat) : Int)) = true := by rw [hG']; rfl
      repeat (refine JL.q (by first | (apply OQ.extract; exact rfl; exact rfl) | (apply OQ.move; exact rfl)) rfl ?_)
      refine JL.alloc letZ12 rfl fun b9 _ => ?_
      refine JL.store_all (cs := [F.v, G.v]) letS12 rfl rfl rfl rfl .here rfl ?_
      repeat (first | refine JL.q (by first | (apply OQ.gtrB (a := (i : Int)) (b := 8); exact rfl; exact rfl; exact h8) | (apply OQ.move; exact rfl) | (apply OQ.assign; exact rfl)) rfl ?_ | refine JC.seq ?_ | refine JC.region ?_ | refine JL.nil ?_ | refine JE.next ?_)
      refine JC.cond rfl (fun _ => ?_) (fun h => by cases h)
      repeat (first | refine JL.q (by first | (apply OQ.eqB (a := ((5 : Nat) : Int)) (b := ((5 : Nat) : Int)); exact rfl; exact rfl; exact h5) | (apply OQ.load; exact bsCQ; exact rfl; exact .here; exact (Row.cell (v := G.v) rfl)) | (apply OQ.len; exact Tryz.underlying22; exact rfl) | (apply OQ.eqB (a := (G.l.length : Int)) (b := ((0 : Nat) : Int)); exact rfl; exact rfl; exact hGl) | (apply OQ.pick_t; exact rfl; exact rfl) | (apply OQ.move; exact rfl) | (apply OQ.assign; exact rfl) | (apply OQ.fld; exact rfl; exact rfl; exact rfl; exact (by decide); exact rfl)) rfl ?_ | refine JC.seq ?_ | refine JC.region ?_ | refine JL.nil ?_ | refine JE.next ?_ | refine JL.gon rfl rfl ?_)
      refine JC.ret ?_
      repeat (refine JE.then_ret ?_)
      exact JE.ret1 rfl (RV.tmp rfl) fun w' hw => ⟨rfl, hx1.trans hw.chg⟩
end Go.Proofs.YtbbmhkdfdgnkpaaGreatDoor
