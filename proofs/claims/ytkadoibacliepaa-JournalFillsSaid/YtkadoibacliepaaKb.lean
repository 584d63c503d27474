/-
  Of no statement by itself: the texts JrnG, JrnH, JrnI, JrnJ, JrnK, JrnL, JrnQ in one.
  Conditions: each theorem's own.
-/
import Derived.Test.YtkadoibacliepaaKa
/-
  Of no statement by itself: the landed journal's current, other, Records, Fits.
  Conditions: each theorem's own.
-/
namespace Go.Proofs.Ytkadoibacliepaa
set_option maxRecDepth 10000
open Sl Dsk Jrn
/-- the records at a half, and its generation -/
def recH (bl : List Bk) (first : Nat) : List Bk := toldH bl first (bl.length / 2) (markIn (old bl first)).1
def genH (bl : List Bk) (first : Nat) : BitVec 32 := if (recH bl first).length = 0 then 0 else (markIn (old bl first)).1
def curF (bl : List Bk) : Nat × BitVec 32 × List Bk :=
  if (0 : Int) < ((genH bl 0).toNat : Int) ∧ ((genH bl (bl.length / 2)).toNat : Int) ≤ ((genH bl 0).toNat : Int) then (0, genH bl 0, recH bl 0)
  else if (0 : Int) < ((genH bl (bl.length / 2)).toNat : Int) then (bl.length / 2, genH bl (bl.length / 2), recH bl (bl.length / 2)) else (bl.length / 2, genH bl (bl.length / 2), [[]])
theorem halfAt_c (x : Dp) (bl : List Bk) (pd : List (Nat × Bk)) (first : Nat) (ok : Ok bl pd) (hn : bl.length ≤ 65536) (hf : first < bl.length) (hs : first + bl.length / 2 ≤ bl.length) (w : World) (h0 : Holds w [] (dkR x bl pd) w) :
    Calls Try.prog 91 [ifD x, N first].toArray w fun e w' => ∃ z : {z : Gr // z.l = recH bl first ∧ z.rs.length ≤ bl.length / 2}, e = .returned (.tuple #[.agg (hfc ⟨x, first, bl.length / 2, genH bl first, 0, 0⟩).toArray, z.1.v]) ∧ Holds w [] z.1.E w' :=
  (halfAt_any x bl pd first ok hn hf hs w h0).mono fun e w' ⟨⟨z, hz⟩, h1, h2⟩ => ⟨⟨z, hz⟩, by
    rw [h1]
    have : z.rs.length = (recH bl first).length := by
      have := congrArg List.length hz.1
      rw [Gr.l, List.length_map] at this
      exact this
    unfold genH
    rw [← this], h2⟩
theorem goes_cur : Goes Try.prog 80 := ⟨_, Try.func80, rfl, by kernel_rfl⟩
abbrev GrOf (A : List Bk) (m : Nat) := {z : Gr // z.l = A ∧ z.rs.length ≤ m}
theorem JL.halfAt {n : Nat} {w0 : World} {S : List Nat} {ops : Array Oper} {Q : Exit → Act → World → Prop} {l : List Oper} {E : Env} {M A : List Ent} {d : Nat} {ty : TypeId} {pos : String} {aft : Array Edge} {x1 x2 : Operand} {ats : Array TypeId} {x : Dp} {bl : List Bk} {pd : List (Nat × Bk)} {first : Nat}
    (ok : Ok bl pd) (hn : bl.length ≤ 65536) (hf : first < bl.length) (hs : first + bl.length / 2 ≤ bl.length) (e1 : ev E x1 = some (ifD x)) (e2 : ev E x2 = some (N first)) (hd : Nat.blt d n = true) (hM : M = A ++ (dkR x bl pd ++ []))
    (kk : ∀ z : GrOf (recH bl first) (bl.length / 2), JL Try.prog n w0 S ops Q l ((d, .tuple #[.agg (hfc ⟨x, first, bl.length / 2, genH bl first, 0, 0⟩).toArray, z.1.v]) :: E) (z.1.E ++ M)) : JL Try.prog n w0 S ops Q (⟨some d, .call ⟨.value (.func 91), #[x1, x2], ats⟩, ty, pos, aft, none⟩ :: l) E M :=
  JL.callg (xs := [x1, x2]) (ι := GrOf (recH bl first) (bl.length / 2)) (vs := [ifD x, N first]) (fun z => .tuple #[.agg (hfc ⟨x, first, bl.length / 2, genH bl first, 0, 0⟩).toArray, z.1.v]) (fun z => z.1.E) goes_halfAt (by simp [evs, e1, e2]) hd (fun z => z.1.wr) (fun w' hw' => halfAt_c x bl pd first ok hn hf hs w' (dkR_front (A := A) (by rw [← hM]; exact hw'))) kk
def gr0 (b : Nat) : Gr := ⟨some (b, 1), [nilS], nofun, fun x hx _ => by rw [List.mem_singleton.1 hx]; rfl⟩
set_option maxHeartbeats 16000000 in
theorem cur_any (x : Dp) (bl : List Bk) (pd : List (Nat × Bk)) (ok : Ok bl pd) (hn : bl.length ≤ 65536) (h4 : 4 ≤ bl.length) (w : World) (h0 : Holds w [] (dkR x bl pd) w) :
    Calls Try.prog 80 [ifD x].toArray w fun e w' => ∃ z : GrOf (curF bl).2.2 (bl.length / 2), e = .returned (.tuple #[.agg (hfc ⟨x, (curF bl).1, bl.length / 2, (curF bl).2.1, 0, 0⟩).toArray, z.1.v]) ∧ Holds w [] z.1.E w' := by
  refine enter (n := 40) Try.func80 rfl rfl rfl h0 ?_
  repeat (first | refine JL.q (by first | (apply OQ.move; exact rfl) | (apply OQ.assign; exact rfl) | (apply OQ.nilc; exact rfl) | (apply OQ.len; exact rfl; exact rfl) | (apply OQ.addN; exact rfl; exact rfl; exact (by (try simp only []); omega)) | (apply OQ.subN; exact rfl; exact rfl; exact (by (try simp only []); omega); exact (by (try simp only []); omega)) | (apply OQ.lssN; exact rfl; exact rfl) | (apply OQ.gtrN; exact rfl; exact rfl) | (apply OQ.fld; exact rfl; exact rfl; exact rfl; exact (by decide); exact rfl)) rfl ?_ | refine JC.seq ?_ | refine JC.region ?_ | refine JC.block ?_ | refine JC.skip ?_ | refine JC.exit ?_ | refine JL.nil ?_ | refine JE.next ?_ | refine JE.blk_normal ?_ | refine JE.then_exit ?_ | refine JE.blk_hit ?_ | refine JE.blk_miss rfl ?_ | refine JE.then_ret ?_ | refine JE.blk_ret ?_ | refine JC.label ?_ | refine JL.gon rfl rfl ?_ | refine JL.gskip rfl rfl rfl rfl ?_ | refine JL.gskipU rfl rfl rfl rfl ?_)
  refine JL.alloc (r := hfc0) hfZ rfl fun b2 _ => ?_
  repeat (first | refine JL.q (by first | (apply OQ.move; exact rfl) | (apply OQ.assign; exact rfl) | (apply OQ.nilc; exact rfl) | (apply OQ.len; exact rfl; exact rfl) | (apply OQ.addN; exact rfl; exact rfl; exact (by (try simp only []); omega)) | (apply OQ.subN; exact rfl; exact rfl; exact (by (try simp only []); omega); exact (by (try simp only []); omega)) | (apply OQ.lssN; exact rfl; exact rfl) | (apply OQ.gtrN; exact rfl; exact rfl) | (apply OQ.fld; exact rfl; exact rfl; exact rfl; exact (by decide); exact rfl)) rfl ?_ | refine JC.seq ?_ | refine JC.region ?_ | refine JC.block ?_ | refine JC.skip ?_ | refine JC.exit ?_ | refine JL.nil ?_ | refine JE.next ?_ | refine JE.blk_normal ?_ | refine JE.then_exit ?_ | refine JE.blk_hit ?_ | refine JE.blk_miss rfl ?_ | refine JE.then_ret ?_ | refine JE.blk_ret ?_ | refine JC.label ?_ | refine JL.gon rfl rfl ?_ | refine JL.gskip rfl rfl rfl rfl ?_ | refine JL.gskipU rfl rfl rfl rfl ?_)
  refine JL.halfAt (A := [_]) (first := 0) ok hn (by omega) (by omega) rfl rfl rfl rfl fun z1 => ?_
  repeat (first | refine JL.q (by first | (apply OQ.extract; exact rfl; exact rfl) | (apply OQ.move; exact rfl) | (apply OQ.assign; exact rfl) | (apply OQ.nilc; exact rfl) | (apply OQ.len; exact rfl; exact rfl) | (apply OQ.addN; exact rfl; exact rfl; exact (by (try simp only []); omega)) | (apply OQ.subN; exact rfl; exact rfl; exact (by (try simp only []); omega); exact (by (try simp only []); omega)) | (apply OQ.lssN; exact rfl; exact rfl) | (apply OQ.gtrN; exact rfl; exact rfl) | (apply OQ.fld; exact rfl; exact rfl; exact rfl; exact (by decide); exact rfl)) rfl ?_ | refine JC.seq ?_ | refine JC.region ?_ | refine JC.block ?_ | refine JC.skip ?_ | refine JC.exit ?_ | refine JL.nil ?_ | refine JE.next ?_ | refine JE.blk_normal ?_ | refine JE.then_exit ?_ | refine JE.blk_hit ?_ | refine JE.blk_miss rfl ?_ | refine JE.then_ret ?_ | refine JE.blk_ret ?_ | refine JC.label ?_ | refine JL.gon rfl rfl ?_ | refine JL.gskip rfl rfl rfl rfl ?_ | refine JL.gskipU rfl rfl rfl rfl ?_)
  generalize hh1 : (⟨x, 0, bl.length / 2, genH bl 0, 0, 0⟩ : Hf) = h1
  refine JL.alloc (r := hfc0) hfZ rfl fun b4 _ => ?_
  refine JL.store_all (cs := hfc h1) hf6 rfl rfl rfl rfl .here rfl ?_
  refine JL.perm (M' := ([⟨b4, Row 96 (hfc h1), true⟩, ⟨b2, Row 96 hfc0, true⟩] ++ z1.1.E) ++ (dkR x bl pd ++ [])) ?_ (by
    rw [List.append_nil, List.append_assoc]
    exact List.Perm.cons _ (List.perm_append_comm_assoc z1.1.E [_] _))
  repeat (first | refine JL.q (by first | (apply OQ.inv (xs := []); exact (isSize x); exact rfl; exact (OQ.callx (vs := [Pt x.p 0]) goes_dsizej rfl (fun w' hw' => dsizeR x bl pd w' (dkR_front (A := [⟨b4, Row 96 (hfc h1), true⟩, ⟨b2, Row 96 hfc0, true⟩] ++ z1.1.E) (M := []) hw')))) | (apply OQ.quoN (b := 2); exact rfl; exact rfl; exact (by decide); exact (by omega)) | (apply OQ.move; exact rfl) | (apply OQ.assign; exact rfl) | (apply OQ.nilc; exact rfl) | (apply OQ.len; exact rfl; exact rfl) | (apply OQ.addN; exact rfl; exact rfl; exact (by (try simp only []); omega)) | (apply OQ.subN; exact rfl; exact rfl; exact (by (try simp only []); omega); exact (by (try simp only []); omega)) | (apply OQ.lssN; exact rfl; exact rfl) | (apply OQ.gtrN; exact rfl; exact rfl) | (apply OQ.fld; exact rfl; exact rfl; exact rfl; exact (by decide); exact rfl)) rfl ?_ | refine JC.seq ?_ | refine JC.region ?_ | refine JC.block ?_ | refine JC.skip ?_ | refine JC.exit ?_ | refine JL.nil ?_ | refine JE.next ?_ | refine JE.blk_normal ?_ | refine JE.then_exit ?_ | refine JE.blk_hit ?_ | refine JE.blk_miss rfl ?_ | refine JE.then_ret ?_ | refine JE.blk_ret ?_ | refine JC.label ?_ | refine JL.gon rfl rfl ?_ | refine JL.gskip rfl rfl rfl rfl ?_ | refine JL.gskipU rfl rfl rfl rfl ?_)
  refine JL.halfAt (A := [_, _] ++ z1.1.E) (first := bl.length / 2) ok hn (by omega) (by omega) rfl rfl rfl rfl fun z2 => ?_
  repeat (first | refine JL.q (by first | (apply OQ.extract; exact rfl; exact rfl) | (apply OQ.move; exact rfl) | (apply OQ.assign; exact rfl) | (apply OQ.nilc; exact rfl) | (apply OQ.len; exact rfl; exact rfl) | (apply OQ.addN; exact rfl; exact rfl; exact (by (try simp only []); omega)) | (apply OQ.subN; exact rfl; exact rfl; exact (by (try simp only []); omega); exact (by (try simp only []); omega)) | (apply OQ.lssN; exact rfl; exact rfl) | (apply OQ.gtrN; exact rfl; exact rfl) | (apply OQ.fld; exact rfl; exact rfl; exact rfl; exact (by decide); exact rfl)) rfl ?_ | refine JC.seq ?_ | refine JC.region ?_ | refine JC.block ?_ | refine JC.skip ?_ | refine JC.exit ?_ | refine JL.nil ?_ | refine JE.next ?_ | refine JE.blk_normal ?_ | refine JE.then_exit ?_ | refine JE.blk_hit ?_ | refine JE.blk_miss rfl ?_ | refine JE.then_ret ?_ | refine JE.blk_ret ?_ | refine JC.label ?_ | refine JL.gon rfl rfl ?_ | refine JL.gskip rfl rfl rfl rfl ?_ | refine JL.gskipU rfl rfl rfl rfl ?_)
  generalize hh2 : (⟨x, bl.length / 2, bl.length / 2, genH bl (bl.length / 2), 0, 0⟩ : Hf) = h2
  refine JL.alloc (r := hfc0) hfZ rfl fun b6 _ => ?_
  refine JL.store_all (cs := hfc h2) hf6 rfl rfl rfl rfl .here rfl ?_
  refine JL.perm (M' := [⟨b6, Row 96 (hfc h2), true⟩, ⟨b4, Row 96 (hfc h1), true⟩, ⟨b2, Row 96 hfc0, true⟩] ++ (z1.1.E ++ (z2.1.E ++ dkR x bl pd))) ?_ (by
    rw [List.append_nil]
    refine List.Perm.cons _ ((List.perm_append_comm_assoc z2.1.E ([_, _] ++ z1.1.E) _).trans ?_)
    rw [List.append_assoc]
    exact List.Perm.refl _)
  have hcur : curF bl = if (0 : Int) < (h1.g.toNat : Int) ∧ (h2.g.toNat : Int) ≤ (h1.g.toNat : Int) then (0, h1.g, recH bl 0) else if (0 : Int) < (h2.g.toNat : Int) then (bl.length / 2, h2.g, recH bl (bl.length / 2)) else (bl.length / 2, h2.g, [[]]) := by rw [← hh1, ← hh2]; rfl
  rw [hcur]
  cases c0 : decide ((0 : Int) < (h1.g.toNat : Int) ∧ (h2.g.toNat : Int) ≤ (h1.g.toNat : Int))
  case true =>
    have hc0 := of_decide_eq_true c0
    rw [if_pos hc0]
    repeat (first | refine JL.q (by first | (apply OQ.load; exact u32C; exact rfl; exact (.there .here); exact (Row.cell (v := U32 h1.g) rfl)) | (apply OQ.load; exact u32C; exact rfl; exact .here; exact (Row.cell (v := U32 h2.g) rfl)) | (apply OQ.gtrB (b := 0); exact rfl; exact rfl; exact (decide_eq_true hc0.1)) | (apply OQ.geqB; exact rfl; exact rfl; exact (decide_eq_true hc0.2)) | (apply OQ.pick_t; exact rfl; exact rfl) | (apply OQ.move; exact rfl) | (apply OQ.assign; exact rfl) | (apply OQ.nilc; exact rfl) | (apply OQ.len; exact rfl; exact rfl) | (apply OQ.addN; exact rfl; exact rfl; exact (by (try simp only []); omega)) | (apply OQ.subN; exact rfl; exact rfl; exact (by (try simp only []); omega); exact (by (try simp only []); omega)) | (apply OQ.lssN; exact rfl; exact rfl) | (apply OQ.gtrN; exact rfl; exact rfl) | (apply OQ.fld; exact rfl; exact rfl; exact rfl; exact (by decide); exact rfl)) rfl ?_ | refine JC.seq ?_ | refine JC.region ?_ | refine JC.block ?_ | refine JC.skip ?_ | refine JC.exit ?_ | refine JL.nil ?_ | refine JE.next ?_ | refine JE.blk_normal ?_ | refine JE.then_exit ?_ | refine JE.blk_hit ?_ | refine JE.blk_miss rfl ?_ | refine JE.then_ret ?_ | refine JE.blk_ret ?_ | refine JC.label ?_ | refine JL.gon rfl rfl ?_ | refine JL.gskip rfl rfl rfl rfl ?_ | refine JL.gskipU rfl rfl rfl rfl ?_)
    refine JC.cond_true rfl rfl ?_
    repeat (first | refine JL.q (by first | (apply OQ.load_agg (cs := hfc h1); exact hfAg; exact hf6; exact rfl; exact (.there .here); exact rfl; exact Row.all) | (apply OQ.move; exact rfl) | (apply OQ.assign; exact rfl) | (apply OQ.nilc; exact rfl) | (apply OQ.len; exact rfl; exact rfl) | (apply OQ.addN; exact rfl; exact rfl; exact (by (try simp only []); omega)) | (apply OQ.subN; exact rfl; exact rfl; exact (by (try simp only []); omega); exact (by (try simp only []); omega)) | (apply OQ.lssN; exact rfl; exact rfl) | (apply OQ.gtrN; exact rfl; exact rfl) | (apply OQ.fld; exact rfl; exact rfl; exact rfl; exact (by decide); exact rfl)) rfl ?_ | refine JC.seq ?_ | refine JC.region ?_ | refine JC.block ?_ | refine JC.skip ?_ | refine JC.exit ?_ | refine JL.nil ?_ | refine JE.next ?_ | refine JE.blk_normal ?_ | refine JE.then_exit ?_ | refine JE.blk_hit ?_ | refine JE.blk_miss rfl ?_ | refine JE.then_ret ?_ | refine JE.blk_ret ?_ | refine JC.label ?_ | refine JL.gon rfl rfl ?_ | refine JL.gskip rfl rfl rfl rfl ?_ | refine JL.gskipU rfl rfl rfl rfl ?_)
    refine JL.store_all (cs := hfc h1) hf6 rfl rfl rfl rfl (.there (.there .here)) rfl ?_
    repeat (first | refine JL.q (by first | (apply OQ.move; exact rfl) | (apply OQ.assign; exact rfl) | (apply OQ.nilc; exact rfl) | (apply OQ.len; exact rfl; exact rfl) | (apply OQ.addN; exact rfl; exact rfl; exact (by (try simp only []); omega)) | (apply OQ.subN; exact rfl; exact rfl; exact (by (try simp only []); omega); exact (by (try simp only []); omega)) | (apply OQ.lssN; exact rfl; exact rfl) | (apply OQ.gtrN; exact rfl; exact rfl) | (apply OQ.fld; exact rfl; exact rfl; exact rfl; exact (by decide); exact rfl)) rfl ?_ | refine JC.seq ?_ | refine JC.region ?_ | refine JC.block ?_ | refine JC.skip ?_ | refine JC.exit ?_ | refine JL.nil ?_ | refine JE.next ?_ | refine JE.blk_normal ?_ | refine JE.then_exit ?_ | refine JE.blk_hit ?_ | refine JE.blk_miss rfl ?_ | refine JE.then_ret ?_ | refine JE.blk_ret ?_ | refine JC.label ?_ | refine JL.gon rfl rfl ?_ | refine JL.gskip rfl rfl rfl rfl ?_ | refine JL.gskipU rfl rfl rfl rfl ?_)
    refine JC.ret ?_
    repeat (first | refine JL.q (by first | (apply OQ.move; exact rfl) | (apply OQ.assign; exact rfl) | (apply OQ.nilc; exact rfl) | (apply OQ.len; exact rfl; exact rfl) | (apply OQ.addN; exact rfl; exact rfl; exact (by (try simp only []); omega)) | (apply OQ.subN; exact rfl; exact rfl; exact (by (try simp only []); omega); exact (by (try simp only []); omega)) | (apply OQ.lssN; exact rfl; exact rfl) | (apply OQ.gtrN; exact rfl; exact rfl) | (apply OQ.fld; exact rfl; exact rfl; exact rfl; exact (by decide); exact rfl)) rfl ?_ | refine JC.seq ?_ | refine JC.region ?_ | refine JC.block ?_ | refine JC.skip ?_ | refine JC.exit ?_ | refine JL.nil ?_ | refine JE.next ?_ | refine JE.blk_normal ?_ | refine JE.then_exit ?_ | refine JE.blk_hit ?_ | refine JE.blk_miss rfl ?_ | refine JE.then_ret ?_ | refine JE.blk_ret ?_ | refine JC.label ?_ | refine JL.gon rfl rfl ?_ | refine JL.gskip rfl rfl rfl rfl ?_ | refine JL.gskipU rfl rfl rfl rfl ?_)
    exact JE.ret2 rfl (RV.cell_agg hfAg hf6 rfl (.there (.there .here)) rfl Row.all) (RV.tmp rfl) fun w' hw => ⟨z1, by rw [← hh1]; rfl, hw.weak (.drop _ _ _ (.drop _ _ _ (.drop _ _ _ (less_pre _ _))))⟩
  case false =>
    have hc0 := of_decide_eq_false c0
    rw [if_neg hc0]
    cases c1 : decide ((0 : Int) < (h1.g.toNat : Int))
    case false =>
      repeat (first | refine JL.q (by first | (apply OQ.load; exact u32C; exact rfl; exact (.there .here); exact (Row.cell (v := U32 h1.g) rfl)) | (apply OQ.load; exact u32C; exact rfl; exact .here; exact (Row.cell (v := U32 h2.g) rfl)) | (apply OQ.gtrB (b := 0); exact rfl; exact rfl; exact c1) | (apply OQ.pick_f; exact rfl; exact rfl) | (apply OQ.move; exact rfl) | (apply OQ.assign; exact rfl) | (apply OQ.nilc; exact rfl) | (apply OQ.len; exact rfl; exact rfl) | (apply OQ.addN; exact rfl; exact rfl; exact (by (try simp only []); omega)) | (apply OQ.subN; exact rfl; exact rfl; exact (by (try simp only []); omega); exact (by (try simp only []); omega)) | (apply OQ.lssN; exact rfl; exact rfl) | (apply OQ.gtrN; exact rfl; exact rfl) | (apply OQ.fld; exact rfl; exact rfl; exact rfl; exact (by decide); exact rfl)) rfl ?_ | refine JC.seq ?_ | refine JC.region ?_ | refine JC.block ?_ | refine JC.skip ?_ | refine JC.exit ?_ | refine JL.nil ?_ | refine JE.next ?_ | refine JE.blk_normal ?_ | refine JE.then_exit ?_ | refine JE.blk_hit ?_ | refine JE.blk_miss rfl ?_ | refine JE.then_ret ?_ | refine JE.blk_ret ?_ | refine JC.label ?_ | refine JL.gon rfl rfl ?_ | refine JL.gskip rfl rfl rfl rfl ?_ | refine JL.gskipU rfl rfl rfl rfl ?_)
      refine JC.cond_false rfl rfl ?_
      cases c3 : decide ((0 : Int) < (h2.g.toNat : Int))
      case true =>
        have hc3 := of_decide_eq_true c3
        rw [if_pos hc3]
        repeat (first | refine JL.q (by first | (apply OQ.load; exact u32C; exact rfl; exact .here; exact (Row.cell (v := U32 h2.g) rfl)) | (apply OQ.gtrB (b := 0); exact rfl; exact rfl; exact c3) | (apply OQ.move; exact rfl) | (apply OQ.assign; exact rfl) | (apply OQ.nilc; exact rfl) | (apply OQ.len; exact rfl; exact rfl) | (apply OQ.addN; exact rfl; exact rfl; exact (by (try simp only []); omega)) | (apply OQ.subN; exact rfl; exact rfl; exact (by (try simp only []); omega); exact (by (try simp only []); omega)) | (apply OQ.lssN; exact rfl; exact rfl) | (apply OQ.gtrN; exact rfl; exact rfl) | (apply OQ.fld; exact rfl; exact rfl; exact rfl; exact (by decide); exact rfl)) rfl ?_ | refine JC.seq ?_ | refine JC.region ?_ | refine JC.block ?_ | refine JC.skip ?_ | refine JC.exit ?_ | refine JL.nil ?_ | refine JE.next ?_ | refine JE.blk_normal ?_ | refine JE.then_exit ?_ | refine JE.blk_hit ?_ | refine JE.blk_miss rfl ?_ | refine JE.then_ret ?_ | refine JE.blk_ret ?_ | refine JC.label ?_ | refine JL.gon rfl rfl ?_ | refine JL.gskip rfl rfl rfl rfl ?_ | refine JL.gskipU rfl rfl rfl rfl ?_)
        refine JC.cond_true rfl rfl ?_
        repeat (first | refine JL.q (by first | (apply OQ.load_agg (cs := hfc h2); exact hfAg; exact hf6; exact rfl; exact .here; exact rfl; exact Row.all) | (apply OQ.move; exact rfl) | (apply OQ.assign; exact rfl) | (apply OQ.nilc; exact rfl) | (apply OQ.len; exact rfl; exact rfl) | (apply OQ.addN; exact rfl; exact rfl; exact (by (try simp only []); omega)) | (apply OQ.subN; exact rfl; exact rfl; exact (by (try simp only []); omega); exact (by (try simp only []); omega)) | (apply OQ.lssN; exact rfl; exact rfl) | (apply OQ.gtrN; exact rfl; exact rfl) | (apply OQ.fld; exact rfl; exact rfl; exact rfl; exact (by decide); exact rfl)) rfl ?_ | refine JC.seq ?_ | refine JC.region ?_ | refine JC.block ?_ | refine JC.skip ?_ | refine JC.exit ?_ | refine JL.nil ?_ | refine JE.next ?_ | refine JE.blk_normal ?_ | refine JE.then_exit ?_ | refine JE.blk_hit ?_ | refine JE.blk_miss rfl ?_ | refine JE.then_ret ?_ | refine JE.blk_ret ?_ | refine JC.label ?_ | refine JL.gon rfl rfl ?_ | refine JL.gskip rfl rfl rfl rfl ?_ | refine JL.gskipU rfl rfl rfl rfl ?_)
        refine JL.store_all (cs := hfc h2) hf6 rfl rfl rfl rfl (.there (.there .here)) rfl ?_
        repeat (first | refine JL.q (by first | (apply OQ.move; exact rfl) | (apply OQ.assign; exact rfl) | (apply OQ.nilc; exact rfl) | (apply OQ.len; exact rfl; exact rfl) | (apply OQ.addN; exact rfl; exact rfl; exact (by (try simp only []); omega)) | (apply OQ.subN; exact rfl; exact rfl; exact (by (try simp only []); omega); exact (by (try simp only []); omega)) | (apply OQ.lssN; exact rfl; exact rfl) | (apply OQ.gtrN; exact rfl; exact rfl) | (apply OQ.fld; exact rfl; exact rfl; exact rfl; exact (by decide); exact rfl)) rfl ?_ | refine JC.seq ?_ | refine JC.region ?_ | refine JC.block ?_ | refine JC.skip ?_ | refine JC.exit ?_ | refine JL.nil ?_ | refine JE.next ?_ | refine JE.blk_normal ?_ | refine JE.then_exit ?_ | refine JE.blk_hit ?_ | refine JE.blk_miss rfl ?_ | refine JE.then_ret ?_ | refine JE.blk_ret ?_ | refine JC.label ?_ | refine JL.gon rfl rfl ?_ | refine JL.gskip rfl rfl rfl rfl ?_ | refine JL.gskipU rfl rfl rfl rfl ?_)
        refine JC.ret ?_
        repeat (first | refine JL.q (by first | (apply OQ.move; exact rfl) | (apply OQ.assign; exact rfl) | (apply OQ.nilc; exact rfl) | (apply OQ.len; exact rfl; exact rfl) | (apply OQ.addN; exact rfl; exact rfl; exact (by (try simp only []); omega)) | (apply OQ.subN; exact rfl; exact rfl; exact (by (try simp only []); omega); exact (by (try simp only []); omega)) | (apply OQ.lssN; exact rfl; exact rfl) | (apply OQ.gtrN; exact rfl; exact rfl) | (apply OQ.fld; exact rfl; exact rfl; exact rfl; exact (by decide); exact rfl)) rfl ?_ | refine JC.seq ?_ | refine JC.region ?_ | refine JC.block ?_ | refine JC.skip ?_ | refine JC.exit ?_ | refine JL.nil ?_ | refine JE.next ?_ | refine JE.blk_normal ?_ | refine JE.then_exit ?_ | refine JE.blk_hit ?_ | refine JE.blk_miss rfl ?_ | refine JE.then_ret ?_ | refine JE.blk_ret ?_ | refine JC.label ?_ | refine JL.gon rfl rfl ?_ | refine JL.gskip rfl rfl rfl rfl ?_ | refine JL.gskipU rfl rfl rfl rfl ?_)
        exact JE.ret2 rfl (RV.cell_agg hfAg hf6 rfl (.there (.there .here)) rfl Row.all) (RV.tmp rfl) fun w' hw => ⟨z2, by rw [← hh2]; rfl, hw.weak (.drop _ _ _ (.drop _ _ _ (.drop _ _ _ (less_app z1.1.E (less_pre z2.1.E _)))))⟩
      case false =>
        have hc3 := of_decide_eq_false c3
        rw [if_neg hc3]
        repeat (first | refine JL.q (by first | (apply OQ.load; exact u32C; exact rfl; exact .here; exact (Row.cell (v := U32 h2.g) rfl)) | (apply OQ.gtrB (b := 0); exact rfl; exact rfl; exact c3) | (apply OQ.move; exact rfl) | (apply OQ.assign; exact rfl) | (apply OQ.nilc; exact rfl) | (apply OQ.len; exact rfl; exact rfl) | (apply OQ.addN; exact rfl; exact rfl; exact (by (try simp only []); omega)) | (apply OQ.subN; exact rfl; exact rfl; exact (by (try simp only []); omega); exact (by (try simp only []); omega)) | (apply OQ.lssN; exact rfl; exact rfl) | (apply OQ.gtrN; exact rfl; exact rfl) | (apply OQ.fld; exact rfl; exact rfl; exact rfl; exact (by decide); exact rfl)) rfl ?_ | refine JC.seq ?_ | refine JC.region ?_ | refine JC.block ?_ | refine JC.skip ?_ | refine JC.exit ?_ | refine JL.nil ?_ | refine JE.next ?_ | refine JE.blk_normal ?_ | refine JE.then_exit ?_ | refine JE.blk_hit ?_ | refine JE.blk_miss rfl ?_ | refine JE.then_ret ?_ | refine JE.blk_ret ?_ | refine JC.label ?_ | refine JL.gon rfl rfl ?_ | refine JL.gskip rfl rfl rfl rfl ?_ | refine JL.gskipU rfl rfl rfl rfl ?_)
        refine JC.cond_false rfl rfl ?_
        repeat (first | refine JL.q (by first | (apply OQ.load_agg (cs := hfc h2); exact hfAg; exact hf6; exact rfl; exact .here; exact rfl; exact Row.all) | (apply OQ.move; exact rfl) | (apply OQ.assign; exact rfl) | (apply OQ.nilc; exact rfl) | (apply OQ.len; exact rfl; exact rfl) | (apply OQ.addN; exact rfl; exact rfl; exact (by (try simp only []); omega)) | (apply OQ.subN; exact rfl; exact rfl; exact (by (try simp only []); omega); exact (by (try simp only []); omega)) | (apply OQ.lssN; exact rfl; exact rfl) | (apply OQ.gtrN; exact rfl; exact rfl) | (apply OQ.fld; exact rfl; exact rfl; exact rfl; exact (by decide); exact rfl)) rfl ?_ | refine JC.seq ?_ | refine JC.region ?_ | refine JC.block ?_ | refine JC.skip ?_ | refine JC.exit ?_ | refine JL.nil ?_ | refine JE.next ?_ | refine JE.blk_normal ?_ | refine JE.then_exit ?_ | refine JE.blk_hit ?_ | refine JE.blk_miss rfl ?_ | refine JE.then_ret ?_ | refine JE.blk_ret ?_ | refine JC.label ?_ | refine JL.gon rfl rfl ?_ | refine JL.gskip rfl rfl rfl rfl ?_ | refine JL.gskipU rfl rfl rfl rfl ?_)
        refine JL.lit1 (v := .slice none 0 0) Try.underlying34 slEj rfl rfl rfl rfl fun bl2 _ => ?_
        refine JL.store_all (cs := hfc h2) hf6 rfl rfl rfl rfl (.there (.there (.there .here))) rfl ?_
        repeat (first | refine JL.q (by first | (apply OQ.move; exact rfl) | (apply OQ.assign; exact rfl) | (apply OQ.nilc; exact rfl) | (apply OQ.len; exact rfl; exact rfl) | (apply OQ.addN; exact rfl; exact rfl; exact (by (try simp only []); omega)) | (apply OQ.subN; exact rfl; exact rfl; exact (by (try simp only []); omega); exact (by (try simp only []); omega)) | (apply OQ.lssN; exact rfl; exact rfl) | (apply OQ.gtrN; exact rfl; exact rfl) | (apply OQ.fld; exact rfl; exact rfl; exact rfl; exact (by decide); exact rfl)) rfl ?_ | refine JC.seq ?_ | refine JC.region ?_ | refine JC.block ?_ | refine JC.skip ?_ | refine JC.exit ?_ | refine JL.nil ?_ | refine JE.next ?_ | refine JE.blk_normal ?_ | refine JE.then_exit ?_ | refine JE.blk_hit ?_ | refine JE.blk_miss rfl ?_ | refine JE.then_ret ?_ | refine JE.blk_ret ?_ | refine JC.label ?_ | refine JL.gon rfl rfl ?_ | refine JL.gskip rfl rfl rfl rfl ?_ | refine JL.gskipU rfl rfl rfl rfl ?_)
        refine JC.ret ?_
        repeat (first | refine JL.q (by first | (apply OQ.move; exact rfl) | (apply OQ.assign; exact rfl) | (apply OQ.nilc; exact rfl) | (apply OQ.len; exact rfl; exact rfl) | (apply OQ.addN; exact rfl; exact rfl; exact (by (try simp only []); omega)) | (apply OQ.subN; exact rfl; exact rfl; exact (by (try simp only []); omega); exact (by (try simp only []); omega)) | (apply OQ.lssN; exact rfl; exact rfl) | (apply OQ.gtrN; exact rfl; exact rfl) | (apply OQ.fld; exact rfl; exact rfl; exact rfl; exact (by decide); exact rfl)) rfl ?_ | refine JC.seq ?_ | refine JC.region ?_ | refine JC.block ?_ | refine JC.skip ?_ | refine JC.exit ?_ | refine JL.nil ?_ | refine JE.next ?_ | refine JE.blk_normal ?_ | refine JE.then_exit ?_ | refine JE.blk_hit ?_ | refine JE.blk_miss rfl ?_ | refine JE.then_ret ?_ | refine JE.blk_ret ?_ | refine JC.label ?_ | refine JL.gon rfl rfl ?_ | refine JL.gskip rfl rfl rfl rfl ?_ | refine JL.gskipU rfl rfl rfl rfl ?_)
        exact JE.ret2 rfl (RV.cell_agg hfAg hf6 rfl (.there (.there (.there .here))) rfl Row.all) (RV.tmp rfl) fun w' hw => ⟨⟨gr0 bl2, rfl, by show 1 ≤ _; omega⟩, by rw [← hh2]; rfl, hw.weak (.keep _ _ _ _ _ _ (row_ownG rfl) (.nil _))⟩
    case true =>
      have c2 : decide ((h2.g.toNat : Int) ≤ (h1.g.toNat : Int)) = false := decide_eq_false fun h => hc0 ⟨of_decide_eq_true c1, h⟩
      repeat (first | refine JL.q (by first | (apply OQ.load; exact u32C; exact rfl; exact (.there .here); exact (Row.cell (v := U32 h1.g) rfl)) | (apply OQ.load; exact u32C; exact rfl; exact .here; exact (Row.cell (v := U32 h2.g) rfl)) | (apply OQ.gtrB (b := 0); exact rfl; exact rfl; exact c1) | (apply OQ.geqB; exact rfl; exact rfl; exact c2) | (apply OQ.pick_t; exact rfl; exact rfl) | (apply OQ.move; exact rfl) | (apply OQ.assign; exact rfl) | (apply OQ.nilc; exact rfl) | (apply OQ.len; exact rfl; exact rfl) | (apply OQ.addN; exact rfl; exact rfl; exact (by (try simp only []); omega)) | (apply OQ.subN; exact rfl; exact rfl; exact (by (try simp only []); omega); exact (by (try simp only []); omega)) | (apply OQ.lssN; exact rfl; exact rfl) | (apply OQ.gtrN; exact rfl; exact rfl) | (apply OQ.fld; exact rfl; exact rfl; exact rfl; exact (by decide); exact rfl)) rfl ?_ | refine JC.seq ?_ | refine JC.region ?_ | refine JC.block ?_ | refine JC.skip ?_ | refine JC.exit ?_ | refine JL.nil ?_ | refine JE.next ?_ | refine JE.blk_normal ?_ | refine JE.then_exit ?_ | refine JE.blk_hit ?_ | refine JE.blk_miss rfl ?_ | refine JE.then_ret ?_ | refine JE.blk_ret ?_ | refine JC.label ?_ | refine JL.gon rfl rfl ?_ | refine JL.gskip rfl rfl rfl rfl ?_ | refine JL.gskipU rfl rfl rfl rfl ?_)
      refine JC.cond_false rfl rfl ?_
      cases c3 : decide ((0 : Int) < (h2.g.toNat : Int))
      case true =>
        have hc3 := of_decide_eq_true c3
        rw [if_pos hc3]
        repeat (first | refine JL.q (by first | (apply OQ.load; exact u32C; exact rfl; exact .here; exact (Row.cell (v := U32 h2.g) rfl)) | (apply OQ.gtrB (b := 0); exact rfl; exact rfl; exact c3) | (apply OQ.move; exact rfl) | (apply OQ.assign; exact rfl) | (apply OQ.nilc; exact rfl) | (apply OQ.len; exact rfl; exact rfl) | (apply OQ.addN; exact rfl; exact rfl; exact (by (try simp only []); omega)) | (apply OQ.subN; exact rfl; exact rfl; exact (by (try simp only []); omega); exact (by (try simp only []); omega)) | (apply OQ.lssN; exact rfl; exact rfl) | (apply OQ.gtrN; exact rfl; exact rfl) | (apply OQ.fld; exact rfl; exact rfl; exact rfl; exact (by decide); exact rfl)) rfl ?_ | refine JC.seq ?_ | refine JC.region ?_ | refine JC.block ?_ | refine JC.skip ?_ | refine JC.exit ?_ | refine JL.nil ?_ | refine JE.next ?_ | refine JE.blk_normal ?_ | refine JE.then_exit ?_ | refine JE.blk_hit ?_ | refine JE.blk_miss rfl ?_ | refine JE.then_ret ?_ | refine JE.blk_ret ?_ | refine JC.label ?_ | refine JL.gon rfl rfl ?_ | refine JL.gskip rfl rfl rfl rfl ?_ | refine JL.gskipU rfl rfl rfl rfl ?_)
        refine JC.cond_true rfl rfl ?_
        repeat (first | refine JL.q (by first | (apply OQ.load_agg (cs := hfc h2); exact hfAg; exact hf6; exact rfl; exact .here; exact rfl; exact Row.all) | (apply OQ.move; exact rfl) | (apply OQ.assign; exact rfl) | (apply OQ.nilc; exact rfl) | (apply OQ.len; exact rfl; exact rfl) | (apply OQ.addN; exact rfl; exact rfl; exact (by (try simp only []); omega)) | (apply OQ.subN; exact rfl; exact rfl; exact (by (try simp only []); omega); exact (by (try simp only []); omega)) | (apply OQ.lssN; exact rfl; exact rfl) | (apply OQ.gtrN; exact rfl; exact rfl) | (apply OQ.fld; exact rfl; exact rfl; exact rfl; exact (by decide); exact rfl)) rfl ?_ | refine JC.seq ?_ | refine JC.region ?_ | refine JC.block ?_ | refine JC.skip ?_ | refine JC.exit ?_ | refine JL.nil ?_ | refine JE.next ?_ | refine JE.blk_normal ?_ | refine JE.then_exit ?_ | refine JE.blk_hit ?_ | refine JE.blk_miss rfl ?_ | refine JE.then_ret ?_ | refine JE.blk_ret ?_ | refine JC.label ?_ | refine JL.gon rfl rfl ?_ | refine JL.gskip rfl rfl rfl rfl ?_ | refine JL.gskipU rfl rfl rfl rfl ?_)
        refine JL.store_all (cs := hfc h2) hf6 rfl rfl rfl rfl (.there (.there .here)) rfl ?_
        repeat (first | refine JL.q (by first | (apply OQ.move; exact rfl) | (apply OQ.assign; exact rfl) | (apply OQ.nilc; exact rfl) | (apply OQ.len; exact rfl; exact rfl) | (apply OQ.addN; exact rfl; exact rfl; exact (by (try simp only []); omega)) | (apply OQ.subN; exact rfl; exact rfl; exact (by (try simp only []); omega); exact (by (try simp only []); omega)) | (apply OQ.lssN; exact rfl; exact rfl) | (apply OQ.gtrN; exact rfl; exact rfl) | (apply OQ.fld; exact rfl; exact rfl; exact rfl; exact (by decide); exact rfl)) rfl ?_ | refine JC.seq ?_ | refine JC.region ?_ | refine JC.block ?_ | refine JC.skip ?_ | refine JC.exit ?_ | refine JL.nil ?_ | refine JE.next ?_ | refine JE.blk_normal ?_ | refine JE.then_exit ?_ | refine JE.blk_hit ?_ | refine JE.blk_miss rfl ?_ | refine JE.then_ret ?_ | refine JE.blk_ret ?_ | refine JC.label ?_ | refine JL.gon rfl rfl ?_ | refine JL.gskip rfl rfl rfl rfl ?_ | refine JL.gskipU rfl rfl rfl rfl ?_)
        refine JC.ret ?_
        repeat (first | refine JL.q (by first | (apply OQ.move; exact rfl) | (apply OQ.assign; exact rfl) | (apply OQ.nilc; exact rfl) | (apply OQ.len; exact rfl; exact rfl) | (apply OQ.addN; exact rfl; exact rfl; exact (by (try simp only []); omega)) | (apply OQ.subN; exact rfl; exact rfl; exact (by (try simp only []); omega); exact (by (try simp only []); omega)) | (apply OQ.lssN; exact rfl; exact rfl) | (apply OQ.gtrN; exact rfl; exact rfl) | (apply OQ.fld; exact rfl; exact rfl; exact rfl; exact (by decide); exact rfl)) rfl ?_ | refine JC.seq ?_ | refine JC.region ?_ | refine JC.block ?_ | refine JC.skip ?_ | refine JC.exit ?_ | refine JL.nil ?_ | refine JE.next ?_ | refine JE.blk_normal ?_ | refine JE.then_exit ?_ | refine JE.blk_hit ?_ | refine JE.blk_miss rfl ?_ | refine JE.then_ret ?_ | refine JE.blk_ret ?_ | refine JC.label ?_ | refine JL.gon rfl rfl ?_ | refine JL.gskip rfl rfl rfl rfl ?_ | refine JL.gskipU rfl rfl rfl rfl ?_)
        exact JE.ret2 rfl (RV.cell_agg hfAg hf6 rfl (.there (.there .here)) rfl Row.all) (RV.tmp rfl) fun w' hw => ⟨z2, by rw [← hh2]; rfl, hw.weak (.drop _ _ _ (.drop _ _ _ (.drop _ _ _ (less_app z1.1.E (less_pre z2.1.E _)))))⟩
      case false =>
        have hc3 := of_decide_eq_false c3
        rw [if_neg hc3]
        repeat (first | refine JL.q (by first | (apply OQ.load; exact u32C; exact rfl; exact .here; exact (Row.cell (v := U32 h2.g) rfl)) | (apply OQ.gtrB (b := 0); exact rfl; exact rfl; exact c3) | (apply OQ.move; exact rfl) | (apply OQ.assign; exact rfl) | (apply OQ.nilc; exact rfl) | (apply OQ.len; exact rfl; exact rfl) | (apply OQ.addN; exact rfl; exact rfl; exact (by (try simp only []); omega)) | (apply OQ.subN; exact rfl; exact rfl; exact (by (try simp only []); omega); exact (by (try simp only []); omega)) | (apply OQ.lssN; exact rfl; exact rfl) | (apply OQ.gtrN; exact rfl; exact rfl) | (apply OQ.fld; exact rfl; exact rfl; exact rfl; exact (by decide); exact rfl)) rfl ?_ | refine JC.seq ?_ | refine JC.region ?_ | refine JC.block ?_ | refine JC.skip ?_ | refine JC.exit ?_ | refine JL.nil ?_ | refine JE.next ?_ | refine JE.blk_normal ?_ | refine JE.then_exit ?_ | refine JE.blk_hit ?_ | refine JE.blk_miss rfl ?_ | refine JE.then_ret ?_ | refine JE.blk_ret ?_ | refine JC.label ?_ | refine JL.gon rfl rfl ?_ | refine JL.gskip rfl rfl rfl rfl ?_ | refine JL.gskipU rfl rfl rfl rfl ?_)
        refine JC.cond_false rfl rfl ?_
        repeat (first | refine JL.q (by first | (apply OQ.load_agg (cs := hfc h2); exact hfAg; exact hf6; exact rfl; exact .here; exact rfl; exact Row.all) | (apply OQ.move; exact rfl) | (apply OQ.assign; exact rfl) | (apply OQ.nilc; exact rfl) | (apply OQ.len; exact rfl; exact rfl) | (apply OQ.addN; exact rfl; exact rfl; exact (by (try simp only []); omega)) | (apply OQ.subN; exact rfl; exact rfl; exact (by (try simp only []); omega); exact (by (try simp only []); omega)) | (apply OQ.lssN; exact rfl; exact rfl) | (apply OQ.gtrN; exact rfl; exact rfl) | (apply OQ.fld; exact rfl; exact rfl; exact rfl; exact (by decide); exact rfl)) rfl ?_ | refine JC.seq ?_ | refine JC.region ?_ | refine JC.block ?_ | refine JC.skip ?_ | refine JC.exit ?_ | refine JL.nil ?_ | refine JE.next ?_ | refine JE.blk_normal ?_ | refine JE.then_exit ?_ | refine JE.blk_hit ?_ | refine JE.blk_miss rfl ?_ | refine JE.then_ret ?_ | refine JE.blk_ret ?_ | refine JC.label ?_ | refine JL.gon rfl rfl ?_ | refine JL.gskip rfl rfl rfl rfl ?_ | refine JL.gskipU rfl rfl rfl rfl ?_)
        refine JL.lit1 (v := .slice none 0 0) Try.underlying34 slEj rfl rfl rfl rfl fun bl2 _ => ?_
        refine JL.store_all (cs := hfc h2) hf6 rfl rfl rfl rfl (.there (.there (.there .here))) rfl ?_
        repeat (first | refine JL.q (by first | (apply OQ.move; exact rfl) | (apply OQ.assign; exact rfl) | (apply OQ.nilc; exact rfl) | (apply OQ.len; exact rfl; exact rfl) | (apply OQ.addN; exact rfl; exact rfl; exact (by (try simp only []); omega)) | (apply OQ.subN; exact rfl; exact rfl; exact (by (try simp only []); omega); exact (by (try simp only []); omega)) | (apply OQ.lssN; exact rfl; exact rfl) | (apply OQ.gtrN; exact rfl; exact rfl) | (apply OQ.fld; exact rfl; exact rfl; exact rfl; exact (by decide); exact rfl)) rfl ?_ | refine JC.seq ?_ | refine JC.region ?_ | refine JC.block ?_ | refine JC.skip ?_ | refine JC.exit ?_ | refine JL.nil ?_ | refine JE.next ?_ | refine JE.blk_normal ?_ | refine JE.then_exit ?_ | refine JE.blk_hit ?_ | refine JE.blk_miss rfl ?_ | refine JE.then_ret ?_ | refine JE.blk_ret ?_ | refine JC.label ?_ | refine JL.gon rfl rfl ?_ | refine JL.gskip rfl rfl rfl rfl ?_ | refine JL.gskipU rfl rfl rfl rfl ?_)
        refine JC.ret ?_
        repeat (first | refine JL.q (by first | (apply OQ.move; exact rfl) | (apply OQ.assign; exact rfl) | (apply OQ.nilc; exact rfl) | (apply OQ.len; exact rfl; exact rfl) | (apply OQ.addN; exact rfl; exact rfl; exact (by (try simp only []); omega)) | (apply OQ.subN; exact rfl; exact rfl; exact (by (try simp only []); omega); exact (by (try simp only []); omega)) | (apply OQ.lssN; exact rfl; exact rfl) | (apply OQ.gtrN; exact rfl; exact rfl) | (apply OQ.fld; exact rfl; exact rfl; exact rfl; exact (by decide); exact rfl)) rfl ?_ | refine JC.seq ?_ | refine JC.region ?_ | refine JC.block ?_ | refine JC.skip ?_ | refine JC.exit ?_ | refine JL.nil ?_ | refine JE.next ?_ | refine JE.blk_normal ?_ | refine JE.then_exit ?_ | refine JE.blk_hit ?_ | refine JE.blk_miss rfl ?_ | refine JE.then_ret ?_ | refine JE.blk_ret ?_ | refine JC.label ?_ | refine JL.gon rfl rfl ?_ | refine JL.gskip rfl rfl rfl rfl ?_ | refine JL.gskipU rfl rfl rfl rfl ?_)
        exact JE.ret2 rfl (RV.cell_agg hfAg hf6 rfl (.there (.there (.there .here))) rfl Row.all) (RV.tmp rfl) fun w' hw => ⟨⟨gr0 bl2, rfl, by show 1 ≤ _; omega⟩, by rw [← hh2]; rfl, hw.weak (.keep _ _ _ _ _ _ (row_ownG rfl) (.nil _))⟩
theorem goes_other : Goes Try.prog 55 := ⟨_, Try.func55, rfl, by kernel_rfl⟩
set_option maxHeartbeats 4000000 in
theorem other_any (h : Hf) (hf : h.first ≤ h.size) (hb : h.size < 4611686018427387904) (w : World) : Calls Try.prog 55 [.agg (hfc h).toArray].toArray w fun e w' => e = .returned (.agg (hfc ⟨h.x, h.size - h.first, h.size, 0, 0, 0⟩).toArray) ∧ Ext w w' := by
  refine enter (n := 13) Try.func55 rfl rfl rfl (Holds.start w []) ?_
  repeat (first | refine JL.q (by first | (apply OQ.move; exact rfl) | (apply OQ.assign; exact rfl) | (apply OQ.nilc; exact rfl) | (apply OQ.len; exact rfl; exact rfl) | (apply OQ.addN; exact rfl; exact rfl; exact (by (try simp only []); omega)) | (apply OQ.subN; exact rfl; exact rfl; exact (by (try simp only []); omega); exact (by (try simp only []); omega)) | (apply OQ.lssN; exact rfl; exact rfl) | (apply OQ.gtrN; exact rfl; exact rfl) | (apply OQ.fld; exact rfl; exact rfl; exact rfl; exact (by decide); exact rfl)) rfl ?_ | refine JC.seq ?_ | refine JC.region ?_ | refine JC.block ?_ | refine JC.skip ?_ | refine JC.exit ?_ | refine JL.nil ?_ | refine JE.next ?_ | refine JE.blk_normal ?_ | refine JE.then_exit ?_ | refine JE.blk_hit ?_ | refine JE.blk_miss rfl ?_ | refine JE.then_ret ?_ | refine JE.blk_ret ?_ | refine JC.label ?_ | refine JL.gon rfl rfl ?_ | refine JL.gskip rfl rfl rfl rfl ?_ | refine JL.gskipU rfl rfl rfl rfl ?_)
  refine JL.box (r := hfc h) rfl rfl rfl fun b1 _ => ?_
  refine JL.alloc (r := hfc0) hfZ rfl fun b2 _ => ?_
  repeat (first | refine JL.q (by first | (apply OQ.load; exact jbC; exact rfl; exact (.there .here); exact (Row.cell (v := ifD h.x) rfl)) | (apply OQ.load; exact intC; exact rfl; exact (.there .here); exact (Row.cell (v := N h.first) rfl)) | (apply OQ.load; exact intC; exact rfl; exact (.there .here); exact (Row.cell (v := N h.size) rfl)) | (apply OQ.subN (a := h.size); exact rfl; exact rfl; exact hf; exact (by omega)) | (apply OQ.buildH3 (h := ⟨h.x, h.size - h.first, h.size, 0, 0, 0⟩); exact rfl; exact rfl; exact rfl) | (apply OQ.move; exact rfl) | (apply OQ.assign; exact rfl) | (apply OQ.nilc; exact rfl) | (apply OQ.len; exact rfl; exact rfl) | (apply OQ.addN; exact rfl; exact rfl; exact (by (try simp only []); omega)) | (apply OQ.subN; exact rfl; exact rfl; exact (by (try simp only []); omega); exact (by (try simp only []); omega)) | (apply OQ.lssN; exact rfl; exact rfl) | (apply OQ.gtrN; exact rfl; exact rfl) | (apply OQ.fld; exact rfl; exact rfl; exact rfl; exact (by decide); exact rfl)) rfl ?_ | refine JC.seq ?_ | refine JC.region ?_ | refine JC.block ?_ | refine JC.skip ?_ | refine JC.exit ?_ | refine JL.nil ?_ | refine JE.next ?_ | refine JE.blk_normal ?_ | refine JE.then_exit ?_ | refine JE.blk_hit ?_ | refine JE.blk_miss rfl ?_ | refine JE.then_ret ?_ | refine JE.blk_ret ?_ | refine JC.label ?_ | refine JL.gon rfl rfl ?_ | refine JL.gskip rfl rfl rfl rfl ?_ | refine JL.gskipU rfl rfl rfl rfl ?_)
  refine JL.store_all (cs := hfc ⟨h.x, h.size - h.first, h.size, 0, 0, 0⟩) hf6 rfl rfl rfl rfl .here rfl ?_
  repeat (first | refine JL.q (by first | (apply OQ.move; exact rfl) | (apply OQ.assign; exact rfl) | (apply OQ.nilc; exact rfl) | (apply OQ.len; exact rfl; exact rfl) | (apply OQ.addN; exact rfl; exact rfl; exact (by (try simp only []); omega)) | (apply OQ.subN; exact rfl; exact rfl; exact (by (try simp only []); omega); exact (by (try simp only []); omega)) | (apply OQ.lssN; exact rfl; exact rfl) | (apply OQ.gtrN; exact rfl; exact rfl) | (apply OQ.fld; exact rfl; exact rfl; exact rfl; exact (by decide); exact rfl)) rfl ?_ | refine JC.seq ?_ | refine JC.region ?_ | refine JC.block ?_ | refine JC.skip ?_ | refine JC.exit ?_ | refine JL.nil ?_ | refine JE.next ?_ | refine JE.blk_normal ?_ | refine JE.then_exit ?_ | refine JE.blk_hit ?_ | refine JE.blk_miss rfl ?_ | refine JE.then_ret ?_ | refine JE.blk_ret ?_ | refine JC.label ?_ | refine JL.gon rfl rfl ?_ | refine JL.gskip rfl rfl rfl rfl ?_ | refine JL.gskipU rfl rfl rfl rfl ?_)
  exact JC.ret (JE.ret1 rfl (RV.cell_agg hfAg hf6 rfl .here rfl Row.all) fun w' hw => ⟨rfl, hw.chg⟩)
theorem goes_recs : Goes Try.prog 16 := ⟨_, Try.func16, rfl, by kernel_rfl⟩
/-- a journal and its disk, that are only read -/
def jnR (j : Nat) (h : Hf) (bl : List Bk) (pd : List (Nat × Bk)) : List Ent := ⟨j, Row 98 (hfc h), false⟩ :: dkR h.x bl pd
set_option maxHeartbeats 4000000 in
theorem recs_any (j : Nat) (h : Hf) (bl : List Bk) (pd : List (Nat × Bk)) (ok : Ok bl pd) (hn : bl.length ≤ 65536) (hs : h.first + h.size ≤ bl.length) (w : World) (h0 : Holds w [] (jnR j h bl pd) w) :
    Calls Try.prog 16 [Pt j 0].toArray w fun e w' => ∃ z : GrOf (toldH bl h.first h.size h.g) h.size, e = .returned z.1.v ∧ Holds w [] z.1.E w' := by
  refine enter (n := 8) Try.func16 rfl rfl rfl h0 ?_
  repeat (first | refine JL.q (by first | (apply OQ.load_agg (cs := hfc h); exact hfAg; exact hf6; exact rfl; exact .here; exact rfl; exact Row.all) | (apply OQ.move; exact rfl) | (apply OQ.assign; exact rfl) | (apply OQ.nilc; exact rfl) | (apply OQ.len; exact rfl; exact rfl) | (apply OQ.addN; exact rfl; exact rfl; exact (by (try simp only []); omega)) | (apply OQ.subN; exact rfl; exact rfl; exact (by (try simp only []); omega); exact (by (try simp only []); omega)) | (apply OQ.lssN; exact rfl; exact rfl) | (apply OQ.gtrN; exact rfl; exact rfl) | (apply OQ.fld; exact rfl; exact rfl; exact rfl; exact (by decide); exact rfl)) rfl ?_ | refine JC.seq ?_ | refine JC.region ?_ | refine JC.block ?_ | refine JC.skip ?_ | refine JC.exit ?_ | refine JL.nil ?_ | refine JE.next ?_ | refine JE.blk_normal ?_ | refine JE.then_exit ?_ | refine JE.blk_hit ?_ | refine JE.blk_miss rfl ?_ | refine JE.then_ret ?_ | refine JE.blk_ret ?_ | refine JC.label ?_ | refine JL.gon rfl rfl ?_ | refine JL.gskip rfl rfl rfl rfl ?_ | refine JL.gskipU rfl rfl rfl rfl ?_)
  refine JL.callg (ι := GrOf (toldH bl h.first h.size h.g) h.size) (vs := [.agg (hfc h).toArray]) (fun z => z.1.v) (fun z => z.1.E) goes_told rfl rfl (fun z => z.1.wr) (fun w' hw' => told_any h bl pd ok hn hs w' (dkR_front (A := [_]) (M := []) (by rw [List.append_nil]; exact hw'))) fun z => ?_
  repeat (first | refine JL.q (by first | (apply OQ.move; exact rfl) | (apply OQ.assign; exact rfl) | (apply OQ.nilc; exact rfl) | (apply OQ.len; exact rfl; exact rfl) | (apply OQ.addN; exact rfl; exact rfl; exact (by (try simp only []); omega)) | (apply OQ.subN; exact rfl; exact rfl; exact (by (try simp only []); omega); exact (by (try simp only []); omega)) | (apply OQ.lssN; exact rfl; exact rfl) | (apply OQ.gtrN; exact rfl; exact rfl) | (apply OQ.fld; exact rfl; exact rfl; exact rfl; exact (by decide); exact rfl)) rfl ?_ | refine JC.seq ?_ | refine JC.region ?_ | refine JC.block ?_ | refine JC.skip ?_ | refine JC.exit ?_ | refine JL.nil ?_ | refine JE.next ?_ | refine JE.blk_normal ?_ | refine JE.then_exit ?_ | refine JE.blk_hit ?_ | refine JE.blk_miss rfl ?_ | refine JE.then_ret ?_ | refine JE.blk_ret ?_ | refine JC.label ?_ | refine JL.gon rfl rfl ?_ | refine JL.gskip rfl rfl rfl rfl ?_ | refine JL.gskipU rfl rfl rfl rfl ?_)
  exact JC.ret (JE.ret1 rfl (RV.tmp rfl) fun w' hw => ⟨z, rfl, hw.weak (less_pre _ _)⟩)
theorem goes_fits : Goes Try.prog 24 := ⟨_, Try.func24, rfl, by kernel_rfl⟩
set_option maxHeartbeats 4000000 in
theorem fits_any (j : Nat) (h : Hf) (n : Int) (hu : h.used ≤ h.size) (hb : h.size < 4611686018427387904) (hn : n < 4611686018427387904) (w : World) (h0 : Holds w [] [⟨j, Row 98 (hfc h), false⟩] w) :
    Calls Try.prog 24 [Pt j 0, .int .i64 n].toArray w fun e w' => e = .returned (.bool (decide (0 ≤ n ∧ nb n.toNat ≤ h.size - h.used))) ∧ Ext w w' := by
  refine enter (n := 23) Try.func24 rfl rfl rfl h0 ?_
  repeat (first | refine JL.q (by first | (apply OQ.move; exact rfl) | (apply OQ.assign; exact rfl) | (apply OQ.nilc; exact rfl) | (apply OQ.len; exact rfl; exact rfl) | (apply OQ.addN; exact rfl; exact rfl; exact (by (try simp only []); omega)) | (apply OQ.subN; exact rfl; exact rfl; exact (by (try simp only []); omega); exact (by (try simp only []); omega)) | (apply OQ.lssN; exact rfl; exact rfl) | (apply OQ.gtrN; exact rfl; exact rfl) | (apply OQ.fld; exact rfl; exact rfl; exact rfl; exact (by decide); exact rfl)) rfl ?_ | refine JC.seq ?_ | refine JC.region ?_ | refine JC.block ?_ | refine JC.skip ?_ | refine JC.exit ?_ | refine JL.nil ?_ | refine JE.next ?_ | refine JE.blk_normal ?_ | refine JE.then_exit ?_ | refine JE.blk_hit ?_ | refine JE.blk_miss rfl ?_ | refine JE.then_ret ?_ | refine JE.blk_ret ?_ | refine JC.label ?_ | refine JL.gon rfl rfl ?_ | refine JL.gskip rfl rfl rfl rfl ?_ | refine JL.gskipU rfl rfl rfl rfl ?_)
  refine JC.tail 18 mixT (by kernel_rfl) ?_
  simp only [List.take_succ_cons, List.take_zero, List.drop_succ_cons, List.drop_zero]
  cases h1 : decide ((0 : Int) ≤ n)
  · repeat (first | refine JL.q (by first | (apply OQ.geqB (b := 0); exact rfl; exact rfl; exact h1) | (apply OQ.pick_f; exact rfl; exact rfl) | (apply OQ.move; exact rfl) | (apply OQ.assign; exact rfl) | (apply OQ.nilc; exact rfl) | (apply OQ.len; exact rfl; exact rfl) | (apply OQ.addN; exact rfl; exact rfl; exact (by (try simp only []); omega)) | (apply OQ.subN; exact rfl; exact rfl; exact (by (try simp only []); omega); exact (by (try simp only []); omega)) | (apply OQ.lssN; exact rfl; exact rfl) | (apply OQ.gtrN; exact rfl; exact rfl) | (apply OQ.fld; exact rfl; exact rfl; exact rfl; exact (by decide); exact rfl)) rfl ?_ | refine JQ.q (by first | (apply OQ.geqB (b := 0); exact rfl; exact rfl; exact h1) | (apply OQ.pick_f; exact rfl; exact rfl) | (apply OQ.move; exact rfl) | (apply OQ.assign; exact rfl) | (apply OQ.nilc; exact rfl) | (apply OQ.len; exact rfl; exact rfl) | (apply OQ.addN; exact rfl; exact rfl; exact (by (try simp only []); omega)) | (apply OQ.subN; exact rfl; exact rfl; exact (by (try simp only []); omega); exact (by (try simp only []); omega)) | (apply OQ.lssN; exact rfl; exact rfl) | (apply OQ.gtrN; exact rfl; exact rfl) | (apply OQ.fld; exact rfl; exact rfl; exact rfl; exact (by decide); exact rfl)) rfl ?_ | refine JC.seq ?_ | refine JC.region ?_ | refine JC.block ?_ | refine JC.skip ?_ | refine JC.exit ?_ | refine JL.nil ?_ | refine JQ.nil ?_ | refine JQ.nil_tail ?_ | refine JE.next ?_ | refine JE.blk_normal ?_ | refine JE.then_exit ?_ | refine JE.blk_hit ?_ | refine JE.blk_miss rfl ?_ | refine JE.then_ret ?_ | refine JE.blk_ret ?_ | refine JC.label ?_ | refine JL.gon rfl rfl ?_ | refine JQ.gon rfl rfl ?_ | refine JL.gskip rfl rfl rfl rfl ?_ | refine JQ.gskip rfl rfl rfl rfl ?_ | refine JL.gskipU rfl rfl rfl rfl ?_ | refine JQ.gskipU rfl rfl rfl rfl ?_)
    refine JC.ret (JE.ret1 rfl (RV.tmp rfl) fun w' hw => ⟨?_, hw.chg⟩)
    rw [decide_eq_false fun hh => of_decide_eq_false h1 hh.1]
  · obtain ⟨m, rfl⟩ := Int.eq_ofNat_of_zero_le (of_decide_eq_true h1)
    have hm : m < 4611686018427387904 := by omega
    have e2 : decide ((0 : Int) ≤ (m : Int) ∧ nb (m : Int).toNat ≤ h.size - h.used) = decide (nb m ≤ h.size - h.used) := decide_eq_decide.2 (by simp)
    rw [e2]
    repeat (first | refine JL.q (by first | (apply OQ.geqB (b := 0); exact rfl; exact rfl; exact h1) | (apply OQ.callx (vs := [N m]); exact goes_bfor; exact rfl; exact (fun w' _ => bfor_any m hm w')) | (apply OQ.load; exact intC; exact rfl; exact .here; exact (Row.cell (v := N h.size) rfl)) | (apply OQ.load; exact intC; exact rfl; exact .here; exact (Row.cell (v := N h.used) rfl)) | (apply OQ.subN (a := h.size); exact rfl; exact rfl; exact hu; exact (by omega)) | (apply OQ.leqN; exact rfl; exact rfl) | (apply OQ.pick_t; exact rfl; exact rfl) | (apply OQ.move; exact rfl) | (apply OQ.assign; exact rfl) | (apply OQ.nilc; exact rfl) | (apply OQ.len; exact rfl; exact rfl) | (apply OQ.addN; exact rfl; exact rfl; exact (by (try simp only []); omega)) | (apply OQ.subN; exact rfl; exact rfl; exact (by (try simp only []); omega); exact (by (try simp only []); omega)) | (apply OQ.lssN; exact rfl; exact rfl) | (apply OQ.gtrN; exact rfl; exact rfl) | (apply OQ.fld; exact rfl; exact rfl; exact rfl; exact (by decide); exact rfl)) rfl ?_ | refine JQ.q (by first | (apply OQ.geqB (b := 0); exact rfl; exact rfl; exact h1) | (apply OQ.callx (vs := [N m]); exact goes_bfor; exact rfl; exact (fun w' _ => bfor_any m hm w')) | (apply OQ.load; exact intC; exact rfl; exact .here; exact (Row.cell (v := N h.size) rfl)) | (apply OQ.load; exact intC; exact rfl; exact .here; exact (Row.cell (v := N h.used) rfl)) | (apply OQ.subN (a := h.size); exact rfl; exact rfl; exact hu; exact (by omega)) | (apply OQ.leqN; exact rfl; exact rfl) | (apply OQ.pick_t; exact rfl; exact rfl) | (apply OQ.move; exact rfl) | (apply OQ.assign; exact rfl) | (apply OQ.nilc; exact rfl) | (apply OQ.len; exact rfl; exact rfl) | (apply OQ.addN; exact rfl; exact rfl; exact (by (try simp only []); omega)) | (apply OQ.subN; exact rfl; exact rfl; exact (by (try simp only []); omega); exact (by (try simp only []); omega)) | (apply OQ.lssN; exact rfl; exact rfl) | (apply OQ.gtrN; exact rfl; exact rfl) | (apply OQ.fld; exact rfl; exact rfl; exact rfl; exact (by decide); exact rfl)) rfl ?_ | refine JC.seq ?_ | refine JC.region ?_ | refine JC.block ?_ | refine JC.skip ?_ | refine JC.exit ?_ | refine JL.nil ?_ | refine JQ.nil ?_ | refine JQ.nil_tail ?_ | refine JE.next ?_ | refine JE.blk_normal ?_ | refine JE.then_exit ?_ | refine JE.blk_hit ?_ | refine JE.blk_miss rfl ?_ | refine JE.then_ret ?_ | refine JE.blk_ret ?_ | refine JC.label ?_ | refine JL.gon rfl rfl ?_ | refine JQ.gon rfl rfl ?_ | refine JL.gskip rfl rfl rfl rfl ?_ | refine JQ.gskip rfl rfl rfl rfl ?_ | refine JL.gskipU rfl rfl rfl rfl ?_ | refine JQ.gskipU rfl rfl rfl rfl ?_)
    exact JC.ret (JE.ret1 rfl (RV.tmp rfl) fun w' hw => ⟨rfl, hw.chg⟩)
end Go.Proofs.Ytkadoibacliepaa

/-
  Of no statement by itself: the landed journal's write: a record's blocks are written.
  Conditions: each theorem's own.
-/
namespace Go.Proofs.Ytkadoibacliepaa
set_option maxRecDepth 10000
open Sl Dsk Jrn
theorem Sl8.ok.away {w0 w : World} {S : List Nat} {M : List Ent} {s : Sl8} (h : s.ok w0) (hw : Holds w0 S M w) (ha : Away s S) : s.ok w :=
  ⟨h.len, hw.reads h.reads fun h0 a e => ha (fun h1 => h0 (by rw [h1]; rfl)) a e⟩
/-- blocks put over others -/
def putAt (bl : List Bk) (k : Nat) (l : List Bk) : List Bk := bl.take k ++ l ++ bl.drop (k + l.length)
theorem putAt_nil (bl : List Bk) (k : Nat) : putAt bl k [] = bl := by simp [putAt]
theorem putAt_len {bl : List Bk} {k : Nat} {l : List Bk} (h : k + l.length ≤ bl.length) : (putAt bl k l).length = bl.length := by
  simp only [putAt, List.length_append, List.length_take, List.length_drop]
  omega
theorem putAt_snoc {bl : List Bk} {k : Nat} {l : List Bk} {b : Bk} (h : k + l.length < bl.length) : (putAt bl k l).set (k + l.length) b = putAt bl k (l ++ [b]) := by
  have h1 : (bl.take k ++ l).length = k + l.length := by rw [List.length_append, List.length_take]; omega
  unfold putAt
  rw [List.set_append_right _ _ (by rw [h1]; exact Nat.le_refl _), h1, Nat.sub_self, List.drop_eq_getElem_cons h, List.set_cons_zero, List.length_append, List.length_singleton]
  simp [List.append_assoc]
  congr 1
theorem isWrite (x : Dp) : IsMeth Try.prog 25 (Pt x.p 0) "Write" 45 := by unfold IsMeth; kernel_rfl
theorem isSync (x : Dp) : IsMeth Try.prog 25 (Pt x.p 0) "Sync" 47 := by unfold IsMeth; kernel_rfl
section
variable {n : Nat} {w0 : World} {S : List Nat} {ops : Array Oper} {Q : Exit → Act → World → Prop} {l : List Oper} {E : Env} {M : List Ent}
variable {d : Nat} {ty : TypeId} {pos : String} {aft : Array Edge} {x1 x2 x3 : Operand} {ats : Array TypeId} {x : Dp} {bl : List Bk} {pd : List (Nat × Bk)}
theorem JL.iwrite {k : Nat} {b : Bk} (h : DkOk x bl pd) (hn : k < bl.length) (hb : b.length = 64) (e1 : ev E x1 = some (ifD x)) (e2 : ev E x2 = some (N k)) (e3 : ev E x3 = some (.agg (bc b).toArray)) (hd : Nat.blt d n = true)
    (kk : ∀ y, JL Try.prog n w0 S ops Q l ((d, N 0) :: E) (dkE ⟨x.p, x.q, x.cap, some y⟩ (bl.set k b) (wrote bl pd k) ++ M)) : JL Try.prog n w0 S ops Q (⟨some d, .call ⟨.invoke x1 "Write", #[x2, x3], ats⟩, ty, pos, aft, none⟩ :: l) E (dkE x bl pd ++ M) :=
  JL.callE (ι := Nat × Nat) (vs := [Pt x.p 0, N k, .agg (bc b).toArray]) (fun _ => N 0) (fun y => dkE ⟨x.p, x.q, x.cap, some y⟩ (bl.set k b) (wrote bl pd k)) (fun a ha w => exec_callI (xs := [x2, x3]) (isWrite x) goes_dwrite ha e1 (by simp [evs, e2, e3]) w) hd (dkE_wr _ _ _) (fun _ => dkE_wr _ _ _)
    (fun w _ hw => dwrite_ok x bl pd k b hn hb h w hw) kk
theorem JL.isync (e1 : ev E x1 = some (ifD x)) (hd : Nat.blt d n = true)
    (kk : JL Try.prog n w0 S ops Q l ((d, .tuple #[]) :: E) (dkE ⟨x.p, x.q, x.cap, none⟩ bl [] ++ M)) : JL Try.prog n w0 S ops Q (⟨some d, .call ⟨.invoke x1 "Sync", #[], ats⟩, ty, pos, aft, none⟩ :: l) E (dkE x bl pd ++ M) :=
  JL.callE (ι := Unit) (vs := [Pt x.p 0]) (fun _ => .tuple #[]) (fun _ => dkE ⟨x.p, x.q, x.cap, none⟩ bl []) (fun a ha w => exec_callI (xs := []) (isSync x) goes_dsync ha e1 rfl w) hd (dkE_wr _ _ _) (fun _ => dkE_wr _ _ _)
    (fun w _ hw => (dsync_any x bl pd w hw).mono fun e w' ⟨g1, g2⟩ => ⟨(), g1, g2⟩) fun _ => kk
theorem OQ.nilcI {C : World → Prop} {dst : Option Tmp} {g : Option (Nat × Bool)} {t : TypeId} {v : Value} (hx : ev E x1 = some (.iface t v)) : OQ Try.prog n E C ⟨dst, .nilCheck x1, ty, pos, aft, g⟩ (.iface t v) :=
  OQ.run fun a ha w _ => by
    have h1 := ha.eval hx
    simp [execOp, h1]
end
/-- a disk behind writes: the same, where it stands too; not synced -/
structure Dw (x : Dp) (bl : List Bk) (m : Nat) where
  a : Acc
  pd : List (Nat × Bk)
  ok : DkOk ⟨x.p, x.q, x.cap, a⟩ bl pd
  n : pd.length ≤ m
def Dw.E {x : Dp} {bl : List Bk} {m : Nat} (z : Dw x bl m) : List Ent := dkE ⟨x.p, x.q, x.cap, z.a⟩ bl z.pd
theorem Dw.wr {x : Dp} {bl : List Bk} {m : Nat} (z : Dw x bl m) : ∀ e ∈ z.E, e.wr = true := dkE_wr _ _ _
theorem sub_chunk {l : Bk} {i : Nat} (h : i * 42 ≤ l.length) : (l.take (min ((i + 1) * 42) l.length)).drop (i * 42) = chunk l i := by
  unfold chunk
  rw [List.drop_take]
  by_cases hh : (i + 1) * 42 ≤ l.length
  · rw [Nat.min_eq_left hh]
    congr 1
    omega
  · rw [Nat.min_eq_right (by omega), List.take_of_length_le (by rw [List.length_drop]; exact Nat.le_refl _), List.take_of_length_le (by rw [List.length_drop]; omega)]
theorem nb_at {n i : Nat} (h : i < nb n) : i * 42 ≤ n := by unfold nb at h; omega
theorem blks_take {g : BitVec 32} {r : Nat} {rec : Bk} {i : Nat} (h : i < nb rec.length) : (blks g r rec).take (i + 1) = (blks g r rec).take i ++ [blk g r rec i] := by
  rw [List.take_add_one]
  congr 1
  simp [blks, h]
theorem goes_jwrite : Goes Try.prog 74 := ⟨_, Try.func74, rfl, by kernel_rfl⟩
set_option maxHeartbeats 32000000 in
theorem write_any (h : Hf) (bl : List Bk) (pd : List (Nat × Bk)) (at' num : Nat) (s : Sl8) (hd : DkOk h.x bl pd) (hs : h.first + h.size ≤ bl.length) (ha : at' + nb s.l.length ≤ h.size) (hm : pd.length + h.size ≤ 1000000) (w : World) (hok : s.ok w) (hap : Away s (keys (dkE h.x bl pd))) (h0 : Holds w (keys (dkE h.x bl pd)) (dkE h.x bl pd) w) :
    Calls Try.prog 74 [.agg (hfc h).toArray, N at', N num, s.v].toArray w fun e w' => ∃ z : Dw h.x (putAt bl (h.first + at') (blks h.g num s.l)) (pd.length + nb s.l.length), e = .returned (.tuple #[]) ∧ Holds w (keys (dkE h.x bl pd)) z.E w' := by
  have hcl := hok.len
  have hn1 := hd.n1
  have hnl : s.l.length ≤ nb s.l.length * 42 := nb_le _
  have hnp := nb_pos s.l.length
  generalize hS : keys (dkE h.x bl pd) = S at hap h0 ⊢
  refine enter (n := 55) Try.func74 rfl rfl rfl h0 ?_
  repeat (first | refine JL.q (by first | (apply OQ.move; exact rfl) | (apply OQ.assign; exact rfl) | (apply OQ.nilc; exact rfl) | (apply OQ.len; exact rfl; exact rfl) | (apply OQ.addN; exact rfl; exact rfl; exact (by (try simp only []); omega)) | (apply OQ.subN; exact rfl; exact rfl; exact (by (try simp only []); omega); exact (by (try simp only []); omega)) | (apply OQ.lssN; exact rfl; exact rfl) | (apply OQ.gtrN; exact rfl; exact rfl) | (apply OQ.fld; exact rfl; exact rfl; exact rfl; exact (by decide); exact rfl)) rfl ?_ | refine JC.seq ?_ | refine JC.region ?_ | refine JC.block ?_ | refine JC.skip ?_ | refine JC.exit ?_ | refine JL.nil ?_ | refine JE.next ?_ | refine JE.blk_normal ?_ | refine JE.then_exit ?_ | refine JE.blk_hit ?_ | refine JE.blk_miss rfl ?_ | refine JE.then_ret ?_ | refine JE.blk_ret ?_ | refine JC.label ?_ | refine JL.gon rfl rfl ?_ | refine JL.gskip rfl rfl rfl rfl ?_ | refine JL.gskipU rfl rfl rfl rfl ?_)
  refine JL.box (r := hfc h) rfl rfl rfl fun b4 _ => ?_
  repeat (first | refine JL.q (by first | (apply OQ.len (k := s.l.length) (ad := s.ad) (cap := s.cap); exact Try.underlying31; exact rfl) | (apply OQ.callx (vs := [N s.l.length]); exact goes_bfor; exact rfl; exact (fun w' _ => bfor_any s.l.length (by omega) w')) | (apply OQ.move; exact rfl) | (apply OQ.assign; exact rfl) | (apply OQ.nilc; exact rfl) | (apply OQ.len; exact rfl; exact rfl) | (apply OQ.addN; exact rfl; exact rfl; exact (by (try simp only []); omega)) | (apply OQ.subN; exact rfl; exact rfl; exact (by (try simp only []); omega); exact (by (try simp only []); omega)) | (apply OQ.lssN; exact rfl; exact rfl) | (apply OQ.gtrN; exact rfl; exact rfl) | (apply OQ.fld; exact rfl; exact rfl; exact rfl; exact (by decide); exact rfl)) rfl ?_ | refine JC.seq ?_ | refine JC.region ?_ | refine JC.block ?_ | refine JC.skip ?_ | refine JC.exit ?_ | refine JL.nil ?_ | refine JE.next ?_ | refine JE.blk_normal ?_ | refine JE.then_exit ?_ | refine JE.blk_hit ?_ | refine JE.blk_miss rfl ?_ | refine JE.then_ret ?_ | refine JE.blk_ret ?_ | refine JC.label ?_ | refine JL.gon rfl rfl ?_ | refine JL.gskip rfl rfl rfl rfl ?_ | refine JL.gskipU rfl rfl rfl rfl ?_)
  refine JC.loop (fun z : Nat × Acc × List (Nat × Bk) => [(1, N at'), (2, N num), (3, s.v), (4, Pt b4 0), (8, N (nb s.l.length)), (15, N (nb s.l.length)), (16, N z.1)]) (fun z => ⟨b4, Row 96 (hfc h), true⟩ :: dkE ⟨h.x.p, h.x.q, h.x.cap, z.2.1⟩ (putAt bl (h.first + at') ((blks h.g num s.l).take z.1)) z.2.2) (fun z => nb s.l.length - z.1) (fun z => z.1 ≤ nb s.l.length ∧ DkOk ⟨h.x.p, h.x.q, h.x.cap, z.2.1⟩ (putAt bl (h.first + at') ((blks h.g num s.l).take z.1)) z.2.2 ∧ z.2.2.length ≤ pd.length + z.1) (0, h.x.a, pd) ⟨Nat.zero_le _, by rw [List.take_zero, putAt_nil]; exact hd, Nat.le_refl _⟩ (by repeat (first | exact SubE.nil | refine SubE.cons _ _ _ rfl ?_)) (by rw [List.take_zero, putAt_nil]; exact Less.refl _) ?_
  rintro ⟨i, qa, ps⟩ ⟨hi, hdi, hpi⟩
  dsimp only at hi hdi hpi ⊢
  repeat (first | refine JL.q (by first | (apply OQ.move; exact rfl) | (apply OQ.assign; exact rfl) | (apply OQ.nilc; exact rfl) | (apply OQ.len; exact rfl; exact rfl) | (apply OQ.addN; exact rfl; exact rfl; exact (by (try simp only []); omega)) | (apply OQ.subN; exact rfl; exact rfl; exact (by (try simp only []); omega); exact (by (try simp only []); omega)) | (apply OQ.lssN; exact rfl; exact rfl) | (apply OQ.gtrN; exact rfl; exact rfl) | (apply OQ.fld; exact rfl; exact rfl; exact rfl; exact (by decide); exact rfl)) rfl ?_ | refine JC.seq ?_ | refine JC.region ?_ | refine JC.block ?_ | refine JC.skip ?_ | refine JC.exit ?_ | refine JL.nil ?_ | refine JE.next ?_ | refine JE.blk_normal ?_ | refine JE.then_exit ?_ | refine JE.blk_hit ?_ | refine JE.blk_miss rfl ?_ | refine JE.then_ret ?_ | refine JE.blk_ret ?_ | refine JC.label ?_ | refine JL.gon rfl rfl ?_ | refine JL.gskip rfl rfl rfl rfl ?_ | refine JL.gskipU rfl rfl rfl rfl ?_)
  refine JC.cond rfl (fun hc => ?_) (fun hc => ?_)
  · have hi' : i < nb s.l.length := by have := of_decide_eq_true hc; omega
    clear hc
    have hlo := nb_at hi'
    have hch := sub_chunk hlo
    have htk := blks_take (g := h.g) (r := num) hi'
    have hkl : (blks h.g num s.l).length = nb s.l.length := blks_len _ _ _
    have hps := putAt_snoc (bl := bl) (k := h.first + at') (l := (blks h.g num s.l).take i) (b := blk h.g num s.l i) (by rw [List.length_take, hkl]; omega)
    rw [← htk, List.length_take, hkl, Nat.min_eq_left hi] at hps
    have hln : (putAt bl (h.first + at') ((blks h.g num s.l).take i)).length = bl.length := putAt_len (by rw [List.length_take, hkl]; omega)
    have hmk : mk1 h.g num (nb s.l.length) i = (h.g, BitVec.ofNat 32 num, BitVec.ofNat 16 i, decide (i = nb s.l.length - 1)) := by
      unfold mk1
      congr 3
      exact decide_eq_decide.2 (by omega)
    have hbk : blk h.g num s.l i = blockOf (mk1 h.g num (nb s.l.length) i) (chunk s.l i) := rfl
    have hcl2 : (chunk s.l i).length ≤ 42 := by rw [Jrn.chunk_len]; omega
    have hb64 : (blk h.g num s.l i).length = 64 := by rw [hbk]; exact block_len hcl2
    rw [hmk] at hbk
    generalize putAt bl (h.first + at') ((blks h.g num s.l).take i) = bi at hdi hps hln ⊢
    have cB := fun {M : List Ent} w' (hw' : Holds w S M w') => blockOf_any (h.g, BitVec.ofNat 32 num, BitVec.ofNat 16 i, decide (i = nb s.l.length - 1)) (s.sub (i * 42) (min ((i + 1) * 42) s.l.length)) w' ((hok.away hw' hap).sub (by omega) (by omega)) (by show ((s.l.take _).drop _).length ≤ 42; rw [hch]; exact hcl2)
    rw [show (s.sub (i * 42) (min ((i + 1) * 42) s.l.length)).l = chunk s.l i from hch, ← hbk] at cB
    repeat (first | refine JL.q (by first | (apply OQ.mulN (a := i) (b := 42); exact rfl; exact rfl; exact (by omega)) | (apply OQ.mulN (a := i + 1) (b := 42); exact rfl; exact rfl; exact (by omega)) | (apply OQ.len (k := s.l.length) (ad := s.ad) (cap := s.cap); exact Try.underlying31; exact rfl) | (apply OQ.minN; exact rfl; exact rfl) | (apply OQ.sub8 (s := s) (lo := i * 42) (hi := min ((i + 1) * 42) s.l.length); exact Try.underlying31; exact u8s; exact rfl; exact rfl; exact rfl; exact (by omega); exact (by omega); exact hcl) | (apply OQ.load; exact u32C; exact rfl; exact .here; exact (Row.cell (v := U32 h.g) rfl)) | (apply OQ.convN_32; exact Try.underlying3; exact Try.underlying94; exact rfl) | (apply OQ.convN_16; exact Try.underlying3; exact Try.underlying134; exact rfl) | (apply OQ.eqN; exact rfl; exact rfl) | (apply OQ.buildM (m := (h.g, BitVec.ofNat 32 num, BitVec.ofNat 16 i, decide (i = nb s.l.length - 1))); exact rfl; exact rfl; exact rfl; exact rfl) | (apply OQ.move; exact rfl) | (apply OQ.assign; exact rfl) | (apply OQ.nilc; exact rfl) | (apply OQ.len; exact rfl; exact rfl) | (apply OQ.addN; exact rfl; exact rfl; exact (by (try simp only []); omega)) | (apply OQ.subN; exact rfl; exact rfl; exact (by (try simp only []); omega); exact (by (try simp only []); omega)) | (apply OQ.lssN; exact rfl; exact rfl) | (apply OQ.gtrN; exact rfl; exact rfl) | (apply OQ.fld; exact rfl; exact rfl; exact rfl; exact (by decide); exact rfl)) rfl ?_ | refine JC.seq ?_ | refine JC.region ?_ | refine JC.block ?_ | refine JC.skip ?_ | refine JC.exit ?_ | refine JL.nil ?_ | refine JE.next ?_ | refine JE.blk_normal ?_ | refine JE.then_exit ?_ | refine JE.blk_hit ?_ | refine JE.blk_miss rfl ?_ | refine JE.then_ret ?_ | refine JE.blk_ret ?_ | refine JC.label ?_ | refine JL.gon rfl rfl ?_ | refine JL.gskip rfl rfl rfl rfl ?_ | refine JL.gskipU rfl rfl rfl rfl ?_)
    refine JL.alloc mkZ rfl fun b11 _ => ?_
    refine JL.store_all (cs := mkc (h.g, BitVec.ofNat 32 num, BitVec.ofNat 16 i, decide (i = nb s.l.length - 1))) mk4 rfl rfl rfl rfl .here rfl ?_
    repeat (first | refine JL.q (by first | (apply OQ.move; exact rfl) | (apply OQ.assign; exact rfl) | (apply OQ.nilc; exact rfl) | (apply OQ.len; exact rfl; exact rfl) | (apply OQ.addN; exact rfl; exact rfl; exact (by (try simp only []); omega)) | (apply OQ.subN; exact rfl; exact rfl; exact (by (try simp only []); omega); exact (by (try simp only []); omega)) | (apply OQ.lssN; exact rfl; exact rfl) | (apply OQ.gtrN; exact rfl; exact rfl) | (apply OQ.fld; exact rfl; exact rfl; exact rfl; exact (by decide); exact rfl)) rfl ?_ | refine JC.seq ?_ | refine JC.region ?_ | refine JC.block ?_ | refine JC.skip ?_ | refine JC.exit ?_ | refine JL.nil ?_ | refine JE.next ?_ | refine JE.blk_normal ?_ | refine JE.then_exit ?_ | refine JE.blk_hit ?_ | refine JE.blk_miss rfl ?_ | refine JE.then_ret ?_ | refine JE.blk_ret ?_ | refine JC.label ?_ | refine JL.gon rfl rfl ?_ | refine JL.gskip rfl rfl rfl rfl ?_ | refine JL.gskipU rfl rfl rfl rfl ?_)
    refine JC.tail 13 mixT (by kernel_rfl) ?_
    simp only [List.take_succ_cons, List.take_zero, List.drop_succ_cons, List.drop_zero]
    repeat (first | refine JL.q (by first | (apply OQ.load; exact jbC; exact rfl; exact (.there .here); exact (Row.cell (v := ifD h.x) rfl)) | (apply OQ.load; exact intC; exact rfl; exact (.there .here); exact (Row.cell (v := N h.first) rfl)) | (apply OQ.load_agg (cs := mkc (h.g, BitVec.ofNat 32 num, BitVec.ofNat 16 i, decide (i = nb s.l.length - 1))); exact mkAg; exact mk4; exact rfl; exact .here; exact rfl; exact Row.all) | (apply OQ.callx (vs := [.agg (mkc (h.g, BitVec.ofNat 32 num, BitVec.ofNat 16 i, decide (i = nb s.l.length - 1))).toArray, (s.sub (i * 42) (min ((i + 1) * 42) s.l.length)).v]); exact goes_blockOf; exact rfl; exact (fun w' hw' => cB w' hw')) | (apply OQ.nilcI; exact rfl) | (apply OQ.move; exact rfl) | (apply OQ.assign; exact rfl) | (apply OQ.nilc; exact rfl) | (apply OQ.len; exact rfl; exact rfl) | (apply OQ.addN; exact rfl; exact rfl; exact (by (try simp only []); omega)) | (apply OQ.subN; exact rfl; exact rfl; exact (by (try simp only []); omega); exact (by (try simp only []); omega)) | (apply OQ.lssN; exact rfl; exact rfl) | (apply OQ.gtrN; exact rfl; exact rfl) | (apply OQ.fld; exact rfl; exact rfl; exact rfl; exact (by decide); exact rfl)) rfl ?_ | refine JQ.q (by first | (apply OQ.load; exact jbC; exact rfl; exact (.there .here); exact (Row.cell (v := ifD h.x) rfl)) | (apply OQ.load; exact intC; exact rfl; exact (.there .here); exact (Row.cell (v := N h.first) rfl)) | (apply OQ.load_agg (cs := mkc (h.g, BitVec.ofNat 32 num, BitVec.ofNat 16 i, decide (i = nb s.l.length - 1))); exact mkAg; exact mk4; exact rfl; exact .here; exact rfl; exact Row.all) | (apply OQ.callx (vs := [.agg (mkc (h.g, BitVec.ofNat 32 num, BitVec.ofNat 16 i, decide (i = nb s.l.length - 1))).toArray, (s.sub (i * 42) (min ((i + 1) * 42) s.l.length)).v]); exact goes_blockOf; exact rfl; exact (fun w' hw' => cB w' hw')) | (apply OQ.nilcI; exact rfl) | (apply OQ.move; exact rfl) | (apply OQ.assign; exact rfl) | (apply OQ.nilc; exact rfl) | (apply OQ.len; exact rfl; exact rfl) | (apply OQ.addN; exact rfl; exact rfl; exact (by (try simp only []); omega)) | (apply OQ.subN; exact rfl; exact rfl; exact (by (try simp only []); omega); exact (by (try simp only []); omega)) | (apply OQ.lssN; exact rfl; exact rfl) | (apply OQ.gtrN; exact rfl; exact rfl) | (apply OQ.fld; exact rfl; exact rfl; exact rfl; exact (by decide); exact rfl)) rfl ?_ | refine JC.seq ?_ | refine JC.region ?_ | refine JC.block ?_ | refine JC.skip ?_ | refine JC.exit ?_ | refine JL.nil ?_ | refine JQ.nil ?_ | refine JQ.nil_tail ?_ | refine JE.next ?_ | refine JE.blk_normal ?_ | refine JE.then_exit ?_ | refine JE.blk_hit ?_ | refine JE.blk_miss rfl ?_ | refine JE.then_ret ?_ | refine JE.blk_ret ?_ | refine JC.label ?_ | refine JL.gon rfl rfl ?_ | refine JQ.gon rfl rfl ?_ | refine JL.gskip rfl rfl rfl rfl ?_ | refine JQ.gskip rfl rfl rfl rfl ?_ | refine JL.gskipU rfl rfl rfl rfl ?_ | refine JQ.gskipU rfl rfl rfl rfl ?_)
    refine JL.perm (M' := dkE ⟨h.x.p, h.x.q, h.x.cap, qa⟩ bi ps ++ [⟨b11, Row 136 (mkc (h.g, BitVec.ofNat 32 num, BitVec.ofNat 16 i, decide (i = nb s.l.length - 1))), true⟩, ⟨b4, Row 96 (hfc h), true⟩]) ?_ (by exact List.perm_append_comm (l₁ := [_, _]))
    refine JL.iwrite (k := h.first + at' + i) (b := blk h.g num s.l i) hdi (by omega) hb64 rfl rfl rfl rfl fun y => ?_
    rw [hps]
    repeat (first | refine JL.q (by first | (apply OQ.move; exact rfl) | (apply OQ.assign; exact rfl) | (apply OQ.nilc; exact rfl) | (apply OQ.len; exact rfl; exact rfl) | (apply OQ.addN; exact rfl; exact rfl; exact (by (try simp only []); omega)) | (apply OQ.subN; exact rfl; exact rfl; exact (by (try simp only []); omega); exact (by (try simp only []); omega)) | (apply OQ.lssN; exact rfl; exact rfl) | (apply OQ.gtrN; exact rfl; exact rfl) | (apply OQ.fld; exact rfl; exact rfl; exact rfl; exact (by decide); exact rfl)) rfl ?_ | refine JQ.q (by first | (apply OQ.move; exact rfl) | (apply OQ.assign; exact rfl) | (apply OQ.nilc; exact rfl) | (apply OQ.len; exact rfl; exact rfl) | (apply OQ.addN; exact rfl; exact rfl; exact (by (try simp only []); omega)) | (apply OQ.subN; exact rfl; exact rfl; exact (by (try simp only []); omega); exact (by (try simp only []); omega)) | (apply OQ.lssN; exact rfl; exact rfl) | (apply OQ.gtrN; exact rfl; exact rfl) | (apply OQ.fld; exact rfl; exact rfl; exact rfl; exact (by decide); exact rfl)) rfl ?_ | refine JC.seq ?_ | refine JC.region ?_ | refine JC.block ?_ | refine JC.skip ?_ | refine JC.exit ?_ | refine JL.nil ?_ | refine JQ.nil ?_ | refine JQ.nil_tail ?_ | refine JE.next ?_ | refine JE.blk_normal ?_ | refine JE.then_exit ?_ | refine JE.blk_hit ?_ | refine JE.blk_miss rfl ?_ | refine JE.then_ret ?_ | refine JE.blk_ret ?_ | refine JC.label ?_ | refine JL.gon rfl rfl ?_ | refine JQ.gon rfl rfl ?_ | refine JL.gskip rfl rfl rfl rfl ?_ | refine JQ.gskip rfl rfl rfl rfl ?_ | refine JL.gskipU rfl rfl rfl rfl ?_ | refine JQ.gskipU rfl rfl rfl rfl ?_)
    refine JE.perm (M' := ⟨b4, Row 96 (hfc h), true⟩ :: ⟨b11, Row 136 (mkc (h.g, BitVec.ofNat 32 num, BitVec.ofNat 16 i, decide (i = nb s.l.length - 1))), true⟩ :: dkE ⟨h.x.p, h.x.q, h.x.cap, some y⟩ (putAt bl (h.first + at') ((blks h.g num s.l).take (i + 1))) (wrote bi ps (h.first + at' + i))) (by exact (List.perm_append_comm (l₂ := [_, _])).trans (List.Perm.swap _ _ _)) ?_
    have hw := hdi.write (n := h.first + at' + i) (b := blk h.g num s.l i) (by omega) hb64 (by omega) y
    rw [hps] at hw
    refine JE.again (i := (i, qa, ps)) (i + 1, some y, wrote bi ps (h.first + at' + i)) ⟨hi', hw, by dsimp only; rw [wrote, List.length_append, List.length_singleton]; omega⟩ (by dsimp only; omega) (by repeat (first | exact SubE.nil | refine SubE.cons _ _ _ rfl ?_)) ?_
    exact .keep _ _ _ _ _ _ (fun _ h => h) (.drop _ _ _ (Less.refl _))
  · have hi' : i = nb s.l.length := by have := of_decide_eq_false hc; omega
    subst hi'
    have ht : (blks h.g num s.l).take (nb s.l.length) = blks h.g num s.l := List.take_of_length_le (by rw [blks_len]; exact Nat.le_refl _)
    rw [ht] at hdi ⊢
    repeat (first | refine JL.q (by first | (apply OQ.move; exact rfl) | (apply OQ.assign; exact rfl) | (apply OQ.nilc; exact rfl) | (apply OQ.len; exact rfl; exact rfl) | (apply OQ.addN; exact rfl; exact rfl; exact (by (try simp only []); omega)) | (apply OQ.subN; exact rfl; exact rfl; exact (by (try simp only []); omega); exact (by (try simp only []); omega)) | (apply OQ.lssN; exact rfl; exact rfl) | (apply OQ.gtrN; exact rfl; exact rfl) | (apply OQ.fld; exact rfl; exact rfl; exact rfl; exact (by decide); exact rfl)) rfl ?_ | refine JQ.q (by first | (apply OQ.move; exact rfl) | (apply OQ.assign; exact rfl) | (apply OQ.nilc; exact rfl) | (apply OQ.len; exact rfl; exact rfl) | (apply OQ.addN; exact rfl; exact rfl; exact (by (try simp only []); omega)) | (apply OQ.subN; exact rfl; exact rfl; exact (by (try simp only []); omega); exact (by (try simp only []); omega)) | (apply OQ.lssN; exact rfl; exact rfl) | (apply OQ.gtrN; exact rfl; exact rfl) | (apply OQ.fld; exact rfl; exact rfl; exact rfl; exact (by decide); exact rfl)) rfl ?_ | refine JC.seq ?_ | refine JC.region ?_ | refine JC.block ?_ | refine JC.skip ?_ | refine JC.exit ?_ | refine JL.nil ?_ | refine JQ.nil ?_ | refine JQ.nil_tail ?_ | refine JE.next ?_ | refine JE.blk_normal ?_ | refine JE.then_exit ?_ | refine JE.blk_hit ?_ | refine JE.blk_miss rfl ?_ | refine JE.then_ret ?_ | refine JE.blk_ret ?_ | refine JC.label ?_ | refine JL.gon rfl rfl ?_ | refine JQ.gon rfl rfl ?_ | refine JL.gskip rfl rfl rfl rfl ?_ | refine JQ.gskip rfl rfl rfl rfl ?_ | refine JL.gskipU rfl rfl rfl rfl ?_ | refine JQ.gskipU rfl rfl rfl rfl ?_)
    exact JE.end0 rfl fun w' hw => ⟨⟨qa, ps, hdi, hpi⟩, rfl, hw.weak (.drop _ _ _ (Less.refl _))⟩
end Go.Proofs.Ytkadoibacliepaa

/-
  Of no statement by itself: the landed journal's put.
  Conditions: each theorem's own.
-/
namespace Go.Proofs.Ytkadoibacliepaa
set_option maxRecDepth 10000
open Sl Dsk Jrn
theorem away_mid {w0 w : World} {S : List Nat} {X M : List Ent} {s : Sl8} (hw : Holds w0 S (X ++ M) w) (hX : ∀ e ∈ X, e.wr = true) (hs : s.ok w0) (ha : Away s S) : Away s (keys X) := by
  intro h0 a e hm
  obtain ⟨y, he, hb⟩ := List.mem_map.1 hm
  have h1 := hs.lt h0 a e
  rcases (hw.all y (List.mem_append_left _ he)).2 (hX y he) with h | h
  · exact ha h0 a e (hb ▸ h)
  · omega
/-- a journal: its own block, and its disk -/
def jnE (j : Nat) (h : Hf) (bl : List Bk) (pd : List (Nat × Bk)) : List Ent := ⟨j, Row 98 (hfc h), true⟩ :: dkE h.x bl pd
theorem jnE_wr (j : Nat) (h : Hf) (bl : List Bk) (pd : List (Nat × Bk)) : ∀ e ∈ jnE j h bl pd, e.wr = true := by
  intro e he
  rcases List.mem_cons.1 he with rfl | he
  · rfl
  · exact dkE_wr _ _ _ e he
/-- a half with a record more -/
def putH (h : Hf) (n : Nat) : Hf := ⟨h.x, h.first, h.size, h.g, h.count + 1, h.used + nb n⟩
def Dw.J {x : Dp} {bl : List Bk} {m : Nat} (z : Dw x bl m) (j : Nat) (h : Hf) : List Ent := ⟨j, Row 98 (hfc h), true⟩ :: z.E
theorem Dw.Jwr {x : Dp} {bl : List Bk} {m : Nat} (z : Dw x bl m) (j : Nat) (h : Hf) : ∀ e ∈ z.J j h, e.wr = true := by
  intro e he
  rcases List.mem_cons.1 he with rfl | he
  · rfl
  · exact z.wr e he
theorem is1j : szT Try.prog 3 = some 1 := by kernel_rfl
theorem goes_put : Goes Try.prog 52 := ⟨_, Try.func52, rfl, by kernel_rfl⟩
set_option maxHeartbeats 32000000 in
theorem put_any (j : Nat) (h : Hf) (bl : List Bk) (pd : List (Nat × Bk)) (s : Sl8) (hd : DkOk h.x bl pd) (hs : h.first + h.size ≤ bl.length) (ha : h.used + nb s.l.length ≤ h.size) (hc : h.count ≤ h.size) (hm : pd.length + h.size ≤ 1000000) (w : World) (hok : s.ok w) (hap : Away s (keys (jnE j h bl pd))) (h0 : Holds w (keys (jnE j h bl pd)) (jnE j h bl pd) w) :
    Calls Try.prog 52 [Pt j 0, s.v].toArray w fun e w' => ∃ z : Dw h.x (putAt bl (h.first + h.used) (blks h.g h.count s.l)) (pd.length + nb s.l.length), e = .returned (.tuple #[]) ∧ Holds w (keys (jnE j h bl pd)) (z.J j (putH h s.l.length)) w' := by
  have hcl := hok.len
  have hn1 := hd.n1
  have hnl : s.l.length ≤ nb s.l.length * 42 := nb_le _
  generalize hS : keys (jnE j h bl pd) = S at hap h0 ⊢
  refine enter (n := 34) Try.func52 rfl rfl rfl h0 ?_
  repeat (first | refine JL.q (by first | (apply OQ.move; exact rfl) | (apply OQ.assign; exact rfl) | (apply OQ.nilc; exact rfl) | (apply OQ.len; exact rfl; exact rfl) | (apply OQ.addN; exact rfl; exact rfl; exact (by (try simp only []); omega)) | (apply OQ.subN; exact rfl; exact rfl; exact (by (try simp only []); omega); exact (by (try simp only []); omega)) | (apply OQ.lssN; exact rfl; exact rfl) | (apply OQ.gtrN; exact rfl; exact rfl) | (apply OQ.fld; exact rfl; exact rfl; exact rfl; exact (by decide); exact rfl)) rfl ?_ | refine JC.seq ?_ | refine JC.region ?_ | refine JC.block ?_ | refine JC.skip ?_ | refine JC.exit ?_ | refine JL.nil ?_ | refine JE.next ?_ | refine JE.blk_normal ?_ | refine JE.then_exit ?_ | refine JE.blk_hit ?_ | refine JE.blk_miss rfl ?_ | refine JE.then_ret ?_ | refine JE.blk_ret ?_ | refine JC.label ?_ | refine JL.gon rfl rfl ?_ | refine JL.gskip rfl rfl rfl rfl ?_ | refine JL.gskipU rfl rfl rfl rfl ?_)
  refine JC.tail 12 mixT (by kernel_rfl) ?_
  simp only [List.take_succ_cons, List.take_zero, List.drop_succ_cons, List.drop_zero]
  repeat (first | refine JL.q (by first | (apply OQ.load_agg (cs := hfc h); exact hfAg; exact hf6; exact rfl; exact .here; exact rfl; exact Row.all) | (apply OQ.load; exact intC; exact rfl; exact .here; exact (Row.cell (v := N h.used) rfl)) | (apply OQ.load; exact intC; exact rfl; exact .here; exact (Row.cell (v := N h.count) rfl)) | (apply OQ.move; exact rfl) | (apply OQ.assign; exact rfl) | (apply OQ.nilc; exact rfl) | (apply OQ.len; exact rfl; exact rfl) | (apply OQ.addN; exact rfl; exact rfl; exact (by (try simp only []); omega)) | (apply OQ.subN; exact rfl; exact rfl; exact (by (try simp only []); omega); exact (by (try simp only []); omega)) | (apply OQ.lssN; exact rfl; exact rfl) | (apply OQ.gtrN; exact rfl; exact rfl) | (apply OQ.fld; exact rfl; exact rfl; exact rfl; exact (by decide); exact rfl)) rfl ?_ | refine JQ.q (by first | (apply OQ.load_agg (cs := hfc h); exact hfAg; exact hf6; exact rfl; exact .here; exact rfl; exact Row.all) | (apply OQ.load; exact intC; exact rfl; exact .here; exact (Row.cell (v := N h.used) rfl)) | (apply OQ.load; exact intC; exact rfl; exact .here; exact (Row.cell (v := N h.count) rfl)) | (apply OQ.move; exact rfl) | (apply OQ.assign; exact rfl) | (apply OQ.nilc; exact rfl) | (apply OQ.len; exact rfl; exact rfl) | (apply OQ.addN; exact rfl; exact rfl; exact (by (try simp only []); omega)) | (apply OQ.subN; exact rfl; exact rfl; exact (by (try simp only []); omega); exact (by (try simp only []); omega)) | (apply OQ.lssN; exact rfl; exact rfl) | (apply OQ.gtrN; exact rfl; exact rfl) | (apply OQ.fld; exact rfl; exact rfl; exact rfl; exact (by decide); exact rfl)) rfl ?_ | refine JC.seq ?_ | refine JC.region ?_ | refine JC.block ?_ | refine JC.skip ?_ | refine JC.exit ?_ | refine JL.nil ?_ | refine JQ.nil ?_ | refine JQ.nil_tail ?_ | refine JE.next ?_ | refine JE.blk_normal ?_ | refine JE.then_exit ?_ | refine JE.blk_hit ?_ | refine JE.blk_miss rfl ?_ | refine JE.then_ret ?_ | refine JE.blk_ret ?_ | refine JC.label ?_ | refine JL.gon rfl rfl ?_ | refine JQ.gon rfl rfl ?_ | refine JL.gskip rfl rfl rfl rfl ?_ | refine JQ.gskip rfl rfl rfl rfl ?_ | refine JL.gskipU rfl rfl rfl rfl ?_ | refine JQ.gskipU rfl rfl rfl rfl ?_)
  refine JL.perm (M' := dkE h.x bl pd ++ [⟨j, Row 98 (hfc h), true⟩]) ?_ (by exact List.perm_append_comm (l₁ := [_]))
  refine JL.callV (ι := Dw h.x (putAt bl (h.first + h.used) (blks h.g h.count s.l)) (pd.length + nb s.l.length)) (vs := [.agg (hfc h).toArray, N h.used, N h.count, s.v]) (fun _ => .tuple #[]) (fun z => z.E) goes_jwrite rfl rfl (dkE_wr _ _ _) (fun z => z.wr) (fun w' hw' hx' => write_any h bl pd h.used h.count s hd hs ha hm w' (hok.away hw' hap) (away_mid hw' (dkE_wr _ _ _) hok hap) hx') fun z => ?_
  refine JL.perm (M' := ⟨j, Row 98 (hfc h), true⟩ :: z.E) ?_ (by exact List.perm_append_comm (l₂ := [_]))
  repeat (first | refine JL.q (by first | (apply OQ.move; exact rfl) | (apply OQ.assign; exact rfl) | (apply OQ.nilc; exact rfl) | (apply OQ.len; exact rfl; exact rfl) | (apply OQ.addN; exact rfl; exact rfl; exact (by (try simp only []); omega)) | (apply OQ.subN; exact rfl; exact rfl; exact (by (try simp only []); omega); exact (by (try simp only []); omega)) | (apply OQ.lssN; exact rfl; exact rfl) | (apply OQ.gtrN; exact rfl; exact rfl) | (apply OQ.fld; exact rfl; exact rfl; exact rfl; exact (by decide); exact rfl)) rfl ?_ | refine JQ.q (by first | (apply OQ.move; exact rfl) | (apply OQ.assign; exact rfl) | (apply OQ.nilc; exact rfl) | (apply OQ.len; exact rfl; exact rfl) | (apply OQ.addN; exact rfl; exact rfl; exact (by (try simp only []); omega)) | (apply OQ.subN; exact rfl; exact rfl; exact (by (try simp only []); omega); exact (by (try simp only []); omega)) | (apply OQ.lssN; exact rfl; exact rfl) | (apply OQ.gtrN; exact rfl; exact rfl) | (apply OQ.fld; exact rfl; exact rfl; exact rfl; exact (by decide); exact rfl)) rfl ?_ | refine JC.seq ?_ | refine JC.region ?_ | refine JC.block ?_ | refine JC.skip ?_ | refine JC.exit ?_ | refine JL.nil ?_ | refine JQ.nil ?_ | refine JQ.nil_tail ?_ | refine JE.next ?_ | refine JE.blk_normal ?_ | refine JE.then_exit ?_ | refine JE.blk_hit ?_ | refine JE.blk_miss rfl ?_ | refine JE.then_ret ?_ | refine JE.blk_ret ?_ | refine JC.label ?_ | refine JL.gon rfl rfl ?_ | refine JQ.gon rfl rfl ?_ | refine JL.gskip rfl rfl rfl rfl ?_ | refine JQ.gskip rfl rfl rfl rfl ?_ | refine JL.gskipU rfl rfl rfl rfl ?_ | refine JQ.gskipU rfl rfl rfl rfl ?_)
  refine JC.tail 10 mixT (by kernel_rfl) ?_
  simp only [List.take_succ_cons, List.take_zero, List.drop_succ_cons, List.drop_zero]
  repeat (first | refine JL.q (by first | (apply OQ.load; exact intC; exact rfl; exact .here; exact (Row.cell (v := N h.used) rfl)) | (apply OQ.len (k := s.l.length) (ad := s.ad) (cap := s.cap); exact Try.underlying31; exact rfl) | (apply OQ.callx (vs := [N s.l.length]); exact goes_bfor; exact rfl; exact (fun w' _ => bfor_any s.l.length (by omega) w')) | (apply OQ.move; exact rfl) | (apply OQ.assign; exact rfl) | (apply OQ.nilc; exact rfl) | (apply OQ.len; exact rfl; exact rfl) | (apply OQ.addN; exact rfl; exact rfl; exact (by (try simp only []); omega)) | (apply OQ.subN; exact rfl; exact rfl; exact (by (try simp only []); omega); exact (by (try simp only []); omega)) | (apply OQ.lssN; exact rfl; exact rfl) | (apply OQ.gtrN; exact rfl; exact rfl) | (apply OQ.fld; exact rfl; exact rfl; exact rfl; exact (by decide); exact rfl)) rfl ?_ | refine JQ.q (by first | (apply OQ.load; exact intC; exact rfl; exact .here; exact (Row.cell (v := N h.used) rfl)) | (apply OQ.len (k := s.l.length) (ad := s.ad) (cap := s.cap); exact Try.underlying31; exact rfl) | (apply OQ.callx (vs := [N s.l.length]); exact goes_bfor; exact rfl; exact (fun w' _ => bfor_any s.l.length (by omega) w')) | (apply OQ.move; exact rfl) | (apply OQ.assign; exact rfl) | (apply OQ.nilc; exact rfl) | (apply OQ.len; exact rfl; exact rfl) | (apply OQ.addN; exact rfl; exact rfl; exact (by (try simp only []); omega)) | (apply OQ.subN; exact rfl; exact rfl; exact (by (try simp only []); omega); exact (by (try simp only []); omega)) | (apply OQ.lssN; exact rfl; exact rfl) | (apply OQ.gtrN; exact rfl; exact rfl) | (apply OQ.fld; exact rfl; exact rfl; exact rfl; exact (by decide); exact rfl)) rfl ?_ | refine JC.seq ?_ | refine JC.region ?_ | refine JC.block ?_ | refine JC.skip ?_ | refine JC.exit ?_ | refine JL.nil ?_ | refine JQ.nil ?_ | refine JQ.nil_tail ?_ | refine JE.next ?_ | refine JE.blk_normal ?_ | refine JE.then_exit ?_ | refine JE.blk_hit ?_ | refine JE.blk_miss rfl ?_ | refine JE.then_ret ?_ | refine JE.blk_ret ?_ | refine JC.label ?_ | refine JL.gon rfl rfl ?_ | refine JQ.gon rfl rfl ?_ | refine JL.gskip rfl rfl rfl rfl ?_ | refine JQ.gskip rfl rfl rfl rfl ?_ | refine JL.gskipU rfl rfl rfl rfl ?_ | refine JQ.gskipU rfl rfl rfl rfl ?_)
  refine JL.store_eq (b := j) (r := hfc h) (r' := hfc ⟨h.x, h.first, h.size, h.g, h.count, h.used + nb s.l.length⟩) is1j rfl rfl rfl rfl .here (show 5 < 6 by decide) rfl ?_
  repeat (first | refine JL.q (by first | (apply OQ.load; exact intC; exact rfl; exact .here; exact (Row.cell (v := N h.count) rfl)) | (apply OQ.move; exact rfl) | (apply OQ.assign; exact rfl) | (apply OQ.nilc; exact rfl) | (apply OQ.len; exact rfl; exact rfl) | (apply OQ.addN; exact rfl; exact rfl; exact (by (try simp only []); omega)) | (apply OQ.subN; exact rfl; exact rfl; exact (by (try simp only []); omega); exact (by (try simp only []); omega)) | (apply OQ.lssN; exact rfl; exact rfl) | (apply OQ.gtrN; exact rfl; exact rfl) | (apply OQ.fld; exact rfl; exact rfl; exact rfl; exact (by decide); exact rfl)) rfl ?_ | refine JQ.q (by first | (apply OQ.load; exact intC; exact rfl; exact .here; exact (Row.cell (v := N h.count) rfl)) | (apply OQ.move; exact rfl) | (apply OQ.assign; exact rfl) | (apply OQ.nilc; exact rfl) | (apply OQ.len; exact rfl; exact rfl) | (apply OQ.addN; exact rfl; exact rfl; exact (by (try simp only []); omega)) | (apply OQ.subN; exact rfl; exact rfl; exact (by (try simp only []); omega); exact (by (try simp only []); omega)) | (apply OQ.lssN; exact rfl; exact rfl) | (apply OQ.gtrN; exact rfl; exact rfl) | (apply OQ.fld; exact rfl; exact rfl; exact rfl; exact (by decide); exact rfl)) rfl ?_ | refine JC.seq ?_ | refine JC.region ?_ | refine JC.block ?_ | refine JC.skip ?_ | refine JC.exit ?_ | refine JL.nil ?_ | refine JQ.nil ?_ | refine JQ.nil_tail ?_ | refine JE.next ?_ | refine JE.blk_normal ?_ | refine JE.then_exit ?_ | refine JE.blk_hit ?_ | refine JE.blk_miss rfl ?_ | refine JE.then_ret ?_ | refine JE.blk_ret ?_ | refine JC.label ?_ | refine JL.gon rfl rfl ?_ | refine JQ.gon rfl rfl ?_ | refine JL.gskip rfl rfl rfl rfl ?_ | refine JQ.gskip rfl rfl rfl rfl ?_ | refine JL.gskipU rfl rfl rfl rfl ?_ | refine JQ.gskipU rfl rfl rfl rfl ?_)
  refine JL.store_eq (b := j) (r := hfc ⟨h.x, h.first, h.size, h.g, h.count, h.used + nb s.l.length⟩) (r' := hfc (putH h s.l.length)) is1j rfl rfl rfl rfl .here (show 4 < 6 by decide) rfl ?_
  repeat (first | refine JL.q (by first | (apply OQ.move; exact rfl) | (apply OQ.assign; exact rfl) | (apply OQ.nilc; exact rfl) | (apply OQ.len; exact rfl; exact rfl) | (apply OQ.addN; exact rfl; exact rfl; exact (by (try simp only []); omega)) | (apply OQ.subN; exact rfl; exact rfl; exact (by (try simp only []); omega); exact (by (try simp only []); omega)) | (apply OQ.lssN; exact rfl; exact rfl) | (apply OQ.gtrN; exact rfl; exact rfl) | (apply OQ.fld; exact rfl; exact rfl; exact rfl; exact (by decide); exact rfl)) rfl ?_ | refine JQ.q (by first | (apply OQ.move; exact rfl) | (apply OQ.assign; exact rfl) | (apply OQ.nilc; exact rfl) | (apply OQ.len; exact rfl; exact rfl) | (apply OQ.addN; exact rfl; exact rfl; exact (by (try simp only []); omega)) | (apply OQ.subN; exact rfl; exact rfl; exact (by (try simp only []); omega); exact (by (try simp only []); omega)) | (apply OQ.lssN; exact rfl; exact rfl) | (apply OQ.gtrN; exact rfl; exact rfl) | (apply OQ.fld; exact rfl; exact rfl; exact rfl; exact (by decide); exact rfl)) rfl ?_ | refine JC.seq ?_ | refine JC.region ?_ | refine JC.block ?_ | refine JC.skip ?_ | refine JC.exit ?_ | refine JL.nil ?_ | refine JQ.nil ?_ | refine JQ.nil_tail ?_ | refine JE.next ?_ | refine JE.blk_normal ?_ | refine JE.then_exit ?_ | refine JE.blk_hit ?_ | refine JE.blk_miss rfl ?_ | refine JE.then_ret ?_ | refine JE.blk_ret ?_ | refine JC.label ?_ | refine JL.gon rfl rfl ?_ | refine JQ.gon rfl rfl ?_ | refine JL.gskip rfl rfl rfl rfl ?_ | refine JQ.gskip rfl rfl rfl rfl ?_ | refine JL.gskipU rfl rfl rfl rfl ?_ | refine JQ.gskipU rfl rfl rfl rfl ?_)
  exact JE.end0 rfl fun w' hw => ⟨z, rfl, hw⟩
end Go.Proofs.Ytkadoibacliepaa

/-
  Of no statement by itself: the landed journal's begin.
  Conditions: each theorem's own.
-/
namespace Go.Proofs.Ytkadoibacliepaa
set_option maxRecDepth 10000
open Sl Dsk Jrn
def SlL.ls' (s : SlL) : List Bk := s.rs.map Sl8.l
theorem slLj_at {w : World} {s : SlL} (h : s.ok w) (h0 : 0 < s.rs.length) : ∃ b j, s.ad = some ⟨b, j, none⟩ ∧ b < w.heap.size ∧ ∀ i, i < s.rs.length → w.cell? ⟨b, j + i, none⟩ = some (s.rs.getD i nilS).v := by
  obtain ⟨b, j, e1, c1⟩ := h.reads.at (by rw [List.length_map]; exact h0)
  exact ⟨b, j, e1, block_lt_of_cell (c1 0 _ (map_at Sl8.v nilS h0)), fun i hi => c1 i _ (map_at Sl8.v nilS hi)⟩
structure AwayL (s : SlL) (S : List Nat) : Prop where
  a : s.rs ≠ [] → ∀ a, s.ad = some a → a.block ∉ S
  all : ∀ y ∈ s.rs, Away y S
theorem getD_mem' {rs : List Sl8} {i : Nat} (h : i < rs.length) : rs.getD i nilS ∈ rs := by
  rw [List.getD_eq_getElem?_getD, List.getElem?_eq_getElem h]
  exact List.getElem_mem h
theorem putAt_app {bl : List Bk} {k : Nat} {a b : List Bk} (h : k + a.length + b.length ≤ bl.length) : putAt (putAt bl k a) (k + a.length) b = putAt bl k (a ++ b) := by
  have h1 : (bl.take k ++ a).length = k + a.length := by rw [List.length_append, List.length_take]; omega
  have e1 : (bl.take k ++ a ++ bl.drop (k + a.length)).take (k + a.length) = bl.take k ++ a := List.take_left' h1
  have e2 : (bl.take k ++ a ++ bl.drop (k + a.length)).drop (k + a.length + b.length) = bl.drop (k + (a ++ b).length) := by
    rw [← List.drop_drop, List.drop_left' h1, List.drop_drop, List.length_append, Nat.add_assoc]
  unfold putAt
  rw [e1, e2]
  simp [List.append_assoc]
theorem putAt_two {bl : List Bk} {k : Nat} {a b : List Bk} (h : k + a.length + b.length ≤ bl.length) : putAt (putAt bl (k + a.length) b) k a = putAt bl k (a ++ b) := by
  have h1 : (bl.take (k + a.length)).length = k + a.length := by rw [List.length_take]; omega
  have e1 : (bl.take (k + a.length) ++ b ++ bl.drop (k + a.length + b.length)).take k = bl.take k := by
    rw [List.append_assoc, List.take_append_of_le_length (by rw [h1]; omega), List.take_take, Nat.min_eq_left (by omega)]
  have e2 : (bl.take (k + a.length) ++ b ++ bl.drop (k + a.length + b.length)).drop (k + a.length) = b ++ bl.drop (k + a.length + b.length) := by
    rw [List.append_assoc, List.drop_left' h1]
  unfold putAt
  rw [e1, e2]
  simp [List.append_assoc, Nat.add_assoc]
theorem slCj : scal Try.prog 31 = true := by kernel_rfl
theorem sleJ : szT Try.prog 31 = some 1 := by kernel_rfl
theorem goes_begin : Goes Try.prog 56 := ⟨_, Try.func56, rfl, by kernel_rfl⟩
/-- a half that begins with a generation and records -/
def begH (h : Hf) (g : BitVec 32) (recs : List Bk) : Hf := ⟨h.x, h.first, h.size, g, recs.length, room recs⟩
def sync0 (x : Dp) : Dp := ⟨x.p, x.q, x.cap, none⟩
theorem room_cons (r : Bk) (rs : List Bk) : room (r :: rs) = nb r.length + room rs := rfl
theorem room_take_le (rs : List Bk) (i : Nat) : room (rs.take i) ≤ room rs := by
  have := room_append (rs.take i) (rs.drop i)
  rw [List.take_append_drop] at this
  omega
/-- the half while its records are put, behind so many of those behind the base -/
def midH (h : Hf) (g : BitVec 32) (n0 : Nat) (rt : List Bk) (i : Nat) (qa : Acc) : Hf := ⟨⟨h.x.p, h.x.q, h.x.cap, qa⟩, h.first, h.size, g, 1 + i, n0 + room (rt.take i)⟩
def midB (h : Hf) (g : BitVec 32) (bl : List Bk) (n0 : Nat) (rt : List Bk) (i : Nat) : List Bk := putAt bl (h.first + n0) (allB g 1 (rt.take i))
theorem take_snoc {rt : List Bk} {i : Nat} (h : i < rt.length) : rt.take (i + 1) = rt.take i ++ [rt.getD i []] := by
  rw [List.take_add_one]
  simp [List.getD_eq_getElem?_getD, h]
theorem mid_snoc {h : Hf} {g : BitVec 32} {bl : List Bk} {n0 : Nat} {rt : List Bk} {i : Nat} (hi : i < rt.length) (hb : h.first + n0 + room rt ≤ bl.length) :
    putAt (midB h g bl n0 rt i) (h.first + (n0 + room (rt.take i))) (blks g (1 + i) (rt.getD i [])) = midB h g bl n0 rt (i + 1) := by
  have e := take_snoc hi
  have hr := room_take_le rt (i + 1)
  rw [e, room_append] at hr
  have hr1 : room [rt.getD i []] = nb (rt.getD i []).length := by simp [room]
  have ea : allB g 1 (rt.take (i + 1)) = allB g 1 (rt.take i) ++ blks g (1 + i) (rt.getD i []) := by
    rw [e, allB_append, List.length_take, Nat.min_eq_left (by omega)]
    congr 1
    rw [allB, allB, List.append_nil]
  unfold midB
  rw [ea, ← putAt_app (by rw [allB_len, blks_len]; omega), allB_len]
  congr 1
  omega
set_option maxHeartbeats 64000000 in
theorem begin_any (j : Nat) (h : Hf) (bl : List Bk) (pd : List (Nat × Bk)) (g : BitVec 32) (s : SlL) (hd : DkOk h.x bl pd) (hs : h.first + h.size ≤ bl.length) (hne : 0 < s.rs.length) (ha : room (s.rs.map Sl8.l) ≤ h.size) (hm : pd.length + (h.size + h.size) ≤ 1000000) (w : World) (hok : s.ok w) (hap : AwayL s (keys (jnE j h bl pd))) (h0 : Holds w (keys (jnE j h bl pd)) (jnE j h bl pd) w) :
    Calls Try.prog 56 [Pt j 0, U32 g, s.v].toArray w fun e w' => e = .returned (.tuple #[]) ∧ Holds w (keys (jnE j h bl pd)) (⟨j, Row 98 (hfc (begH h g (s.rs.map Sl8.l))), true⟩ :: dkE (sync0 h.x) (putAt bl h.first (allB g 0 (s.rs.map Sl8.l))) []) w' := by
  obtain ⟨b, jj, ead, lb, cb⟩ := slLj_at hok hne
  have hcap := hok.len
  have hall := hok.all
  have hbS := hap.a (fun e => by rw [e] at hne; cases hne) _ ead
  have haw := hap.all
  have hn1 := hd.n1
  obtain ⟨ad, cap, rs⟩ := s
  dsimp only at ead hcap hall hbS haw hne ha cb ⊢
  subst ead
  obtain ⟨ls, hls⟩ : ∃ ls, rs.map Sl8.l = ls := ⟨_, rfl⟩
  have hll : ls.length = rs.length := by rw [← hls, List.length_map]
  have hat : ∀ i, i < rs.length → ls.getD i [] = (rs.getD i nilS).l := fun i hi => by rw [← hls]; simp [List.getD_eq_getElem?_getD, hi]
  rw [hls] at ha ⊢
  obtain ⟨r0, rt, hrt⟩ : ∃ r0 rt, ls = r0 :: rt := by
    cases ls with
    | nil => rw [List.length_nil] at hll; omega
    | cons a l => exact ⟨a, l, rfl⟩
  have hr0 : (rs.getD 0 nilS).l = r0 := by rw [← hat 0 hne, hrt]; rfl
  have hrl : rt.length + 1 = rs.length := by rw [← hll, hrt]; rfl
  have hrt' : ∀ i, i < rt.length → rt.getD i [] = (rs.getD (i + 1) nilS).l := fun i hi => by rw [← hat (i + 1) (by omega), hrt]; rfl
  have hroom : nb r0.length + room rt ≤ h.size := by rw [hrt, room_cons] at ha; exact ha
  have hge := room_ge rt
  have hnl : r0.length ≤ nb r0.length * 42 := nb_le _
  obtain ⟨j1, hj1, hj2⟩ : ∃ j1, (if cap = 1 then some (⟨b, jj, none⟩ : Addr) else (some (⟨b, jj, none⟩ : Addr)).map (·.add (1 * 1))) = some ⟨b, j1, none⟩ ∧ (2 ≤ rs.length → j1 = jj + 1) := by
    by_cases hc : cap = 1
    · exact ⟨jj, by rw [if_pos hc], fun h2 => by omega⟩
    · exact ⟨jj + 1, by rw [if_neg hc]; rfl, fun _ => rfl⟩
  have hv1 : (Value.slice (if cap = 1 then some (⟨b, jj, none⟩ : Addr) else (some (⟨b, jj, none⟩ : Addr)).map (·.add (1 * 1))) (rs.length - 1) (cap - 1)) = .slice (some ⟨b, j1, none⟩) rt.length (cap - 1) := by rw [hj1, show rs.length - 1 = rt.length by omega]
  have c0 := cb 0 hne
  have ok0 := hall _ (getD_mem' hne)
  have aw0 := haw _ (getD_mem' hne)
  generalize rs.getD 0 nilS = s0 at c0 ok0 aw0 hr0
  subst hr0
  generalize hS : keys (jnE j h bl pd) = S at hbS haw h0 aw0 ⊢
  refine enter (n := 54) Try.func56 rfl rfl rfl h0 ?_
  repeat (first | refine JL.q (by first | (apply OQ.idxS1 (i := 0); exact Try.underlying34; exact sleJ; exact rfl; exact rfl; exact hne) | (apply OQ.load_old; exact slCj; exact rfl; exact lb; exact hbS; exact c0) | (apply OQ.len (k := s0.l.length) (ad := s0.ad) (cap := s0.cap); exact Try.underlying31; exact rfl) | (apply OQ.callx (vs := [N s0.l.length]); exact goes_bfor; exact rfl; exact (fun w' _ => bfor_any s0.l.length (by omega) w')) | (apply OQ.move; exact rfl) | (apply OQ.assign; exact rfl) | (apply OQ.nilc; exact rfl) | (apply OQ.len; exact rfl; exact rfl) | (apply OQ.addN; exact rfl; exact rfl; exact (by (try simp only []); omega)) | (apply OQ.subN; exact rfl; exact rfl; exact (by (try simp only []); omega); exact (by (try simp only []); omega)) | (apply OQ.lssN; exact rfl; exact rfl) | (apply OQ.gtrN; exact rfl; exact rfl) | (apply OQ.fld; exact rfl; exact rfl; exact rfl; exact (by decide); exact rfl)) rfl ?_ | refine JC.seq ?_ | refine JC.region ?_ | refine JC.block ?_ | refine JC.skip ?_ | refine JC.exit ?_ | refine JL.nil ?_ | refine JE.next ?_ | refine JE.blk_normal ?_ | refine JE.then_exit ?_ | refine JE.blk_hit ?_ | refine JE.blk_miss rfl ?_ | refine JE.then_ret ?_ | refine JE.blk_ret ?_ | refine JC.label ?_ | refine JL.gon rfl rfl ?_ | refine JL.gskip rfl rfl rfl rfl ?_ | refine JL.gskipU rfl rfl rfl rfl ?_)
  refine JL.store_eq (b := j) (r := hfc h) (r' := hfc ⟨h.x, h.first, h.size, g, h.count, h.used⟩) u321 rfl rfl rfl rfl .here (show 3 < 6 by decide) rfl ?_
  repeat (first | refine JL.q (by first | (apply OQ.move; exact rfl) | (apply OQ.assign; exact rfl) | (apply OQ.nilc; exact rfl) | (apply OQ.len; exact rfl; exact rfl) | (apply OQ.addN; exact rfl; exact rfl; exact (by (try simp only []); omega)) | (apply OQ.subN; exact rfl; exact rfl; exact (by (try simp only []); omega); exact (by (try simp only []); omega)) | (apply OQ.lssN; exact rfl; exact rfl) | (apply OQ.gtrN; exact rfl; exact rfl) | (apply OQ.fld; exact rfl; exact rfl; exact rfl; exact (by decide); exact rfl)) rfl ?_ | refine JC.seq ?_ | refine JC.region ?_ | refine JC.block ?_ | refine JC.skip ?_ | refine JC.exit ?_ | refine JL.nil ?_ | refine JE.next ?_ | refine JE.blk_normal ?_ | refine JE.then_exit ?_ | refine JE.blk_hit ?_ | refine JE.blk_miss rfl ?_ | refine JE.then_ret ?_ | refine JE.blk_ret ?_ | refine JC.label ?_ | refine JL.gon rfl rfl ?_ | refine JL.gskip rfl rfl rfl rfl ?_ | refine JL.gskipU rfl rfl rfl rfl ?_)
  refine JL.store_eq (b := j) (r := hfc ⟨h.x, h.first, h.size, g, h.count, h.used⟩) (r' := hfc ⟨h.x, h.first, h.size, g, 1, h.used⟩) is1j rfl rfl rfl rfl .here (show 4 < 6 by decide) rfl ?_
  repeat (first | refine JL.q (by first | (apply OQ.move; exact rfl) | (apply OQ.assign; exact rfl) | (apply OQ.nilc; exact rfl) | (apply OQ.len; exact rfl; exact rfl) | (apply OQ.addN; exact rfl; exact rfl; exact (by (try simp only []); omega)) | (apply OQ.subN; exact rfl; exact rfl; exact (by (try simp only []); omega); exact (by (try simp only []); omega)) | (apply OQ.lssN; exact rfl; exact rfl) | (apply OQ.gtrN; exact rfl; exact rfl) | (apply OQ.fld; exact rfl; exact rfl; exact rfl; exact (by decide); exact rfl)) rfl ?_ | refine JC.seq ?_ | refine JC.region ?_ | refine JC.block ?_ | refine JC.skip ?_ | refine JC.exit ?_ | refine JL.nil ?_ | refine JE.next ?_ | refine JE.blk_normal ?_ | refine JE.then_exit ?_ | refine JE.blk_hit ?_ | refine JE.blk_miss rfl ?_ | refine JE.then_ret ?_ | refine JE.blk_ret ?_ | refine JC.label ?_ | refine JL.gon rfl rfl ?_ | refine JL.gskip rfl rfl rfl rfl ?_ | refine JL.gskipU rfl rfl rfl rfl ?_)
  refine JL.store_eq (b := j) (r := hfc ⟨h.x, h.first, h.size, g, 1, h.used⟩) (r' := hfc ⟨h.x, h.first, h.size, g, 1, nb s0.l.length⟩) is1j rfl rfl rfl rfl .here (show 5 < 6 by decide) rfl ?_
  repeat (first | refine JL.q (by first | (apply OQ.to; exact (OQ.slS_lo (lo := 1) (len := rs.length) (cap := cap) (ad := some ⟨b, jj, none⟩) Try.underlying34 sleJ rfl rfl (by omega)); exact hv1) | (apply OQ.len (k := rt.length) (ad := some ⟨b, j1, none⟩) (cap := cap - 1); exact Try.underlying34; exact rfl) | (apply OQ.move; exact rfl) | (apply OQ.assign; exact rfl) | (apply OQ.nilc; exact rfl) | (apply OQ.len; exact rfl; exact rfl) | (apply OQ.addN; exact rfl; exact rfl; exact (by (try simp only []); omega)) | (apply OQ.subN; exact rfl; exact rfl; exact (by (try simp only []); omega); exact (by (try simp only []); omega)) | (apply OQ.lssN; exact rfl; exact rfl) | (apply OQ.gtrN; exact rfl; exact rfl) | (apply OQ.fld; exact rfl; exact rfl; exact rfl; exact (by decide); exact rfl)) rfl ?_ | refine JC.seq ?_ | refine JC.region ?_ | refine JC.block ?_ | refine JC.skip ?_ | refine JC.exit ?_ | refine JL.nil ?_ | refine JE.next ?_ | refine JE.blk_normal ?_ | refine JE.then_exit ?_ | refine JE.blk_hit ?_ | refine JE.blk_miss rfl ?_ | refine JE.then_ret ?_ | refine JE.blk_ret ?_ | refine JC.label ?_ | refine JL.gon rfl rfl ?_ | refine JL.gskip rfl rfl rfl rfl ?_ | refine JL.gskipU rfl rfl rfl rfl ?_)
  refine JC.loop (fun z : Nat × Acc × List (Nat × Bk) => [(0, Pt j 0), (1, U32 g), (2, .slice (some ⟨b, jj, none⟩) rs.length cap), (24, .slice (some ⟨b, j1, none⟩) rt.length (cap - 1)), (25, N rt.length), (26, N z.1)]) (fun z => jnE j (midH h g (nb s0.l.length) rt z.1 z.2.1) (midB h g bl (nb s0.l.length) rt z.1) z.2.2) (fun z => rt.length - z.1) (fun z => z.1 ≤ rt.length ∧ DkOk ⟨h.x.p, h.x.q, h.x.cap, z.2.1⟩ (midB h g bl (nb s0.l.length) rt z.1) z.2.2 ∧ z.2.2.length ≤ pd.length + room (rt.take z.1)) (0, h.x.a, pd) ⟨Nat.zero_le _, by unfold midB; rw [List.take_zero, allB, putAt_nil]; exact hd, Nat.le_refl _⟩ (by repeat (first | exact SubE.nil | refine SubE.cons _ _ _ rfl ?_)) (by unfold midB; rw [List.take_zero, allB, putAt_nil]; exact Less.refl _) ?_
  rintro ⟨i, qa, ps⟩ ⟨hi, hdi, hpi⟩
  dsimp only at hi hdi hpi ⊢
  have hmbl : (midB h g bl (nb s0.l.length) rt i).length = bl.length := putAt_len (by rw [allB_len]; have := room_take_le rt i; omega)
  repeat (first | refine JL.q (by first | (apply OQ.move; exact rfl) | (apply OQ.assign; exact rfl) | (apply OQ.nilc; exact rfl) | (apply OQ.len; exact rfl; exact rfl) | (apply OQ.addN; exact rfl; exact rfl; exact (by (try simp only []); omega)) | (apply OQ.subN; exact rfl; exact rfl; exact (by (try simp only []); omega); exact (by (try simp only []); omega)) | (apply OQ.lssN; exact rfl; exact rfl) | (apply OQ.gtrN; exact rfl; exact rfl) | (apply OQ.fld; exact rfl; exact rfl; exact rfl; exact (by decide); exact rfl)) rfl ?_ | refine JC.seq ?_ | refine JC.region ?_ | refine JC.block ?_ | refine JC.skip ?_ | refine JC.exit ?_ | refine JL.nil ?_ | refine JE.next ?_ | refine JE.blk_normal ?_ | refine JE.then_exit ?_ | refine JE.blk_hit ?_ | refine JE.blk_miss rfl ?_ | refine JE.then_ret ?_ | refine JE.blk_ret ?_ | refine JC.label ?_ | refine JL.gon rfl rfl ?_ | refine JL.gskip rfl rfl rfl rfl ?_ | refine JL.gskipU rfl rfl rfl rfl ?_)
  refine JC.cond rfl (fun hc => ?_) (fun hc => ?_)
  · have hi' : i < rt.length := by have := of_decide_eq_true hc; omega
    clear hc
    have hi2 : i + 1 < rs.length := by omega
    have ci : w.cell? ⟨b, j1 + i, none⟩ = some (rs.getD (i + 1) nilS).v := by
      rw [hj2 (by omega), show jj + 1 + i = jj + (i + 1) by omega]
      exact cb (i + 1) hi2
    have hri := hrt' i hi'
    have oki := hall _ (getD_mem' hi2)
    have awi := haw _ (getD_mem' hi2)
    have hsn := mid_snoc (h := h) (g := g) (bl := bl) (n0 := nb s0.l.length) hi' (by omega)
    have hrr := room_take_le rt (i + 1)
    rw [take_snoc hi', room_append] at hrr
    have hr1 : room [rt.getD i []] = nb (rt.getD i []).length := by simp [room]
    have hts := take_snoc hi'
    rw [hr1] at hrr
    generalize rs.getD (i + 1) nilS = si at ci oki awi hri
    rw [hri] at hsn hrr hts
    have hrge := room_ge (rt.take i)
    rw [List.length_take, Nat.min_eq_left hi] at hrge
    have cP := fun w' (hw' : Holds w S (jnE j (midH h g (nb s0.l.length) rt i qa) (midB h g bl (nb s0.l.length) rt i) ps ++ []) w') hx' => put_any j (midH h g (nb s0.l.length) rt i qa) (midB h g bl (nb s0.l.length) rt i) ps si hdi (by rw [hmbl]; exact hs) (by show nb s0.l.length + room (rt.take i) + nb si.l.length ≤ h.size; omega) (by show 1 + i ≤ h.size; have := nb_pos s0.l.length; omega) (by show ps.length + h.size ≤ _; omega) w' (oki.away hw' awi) (away_mid hw' (jnE_wr _ _ _ _) oki awi) hx'
    have hsn2 : putAt (midB h g bl (nb s0.l.length) rt i) ((midH h g (nb s0.l.length) rt i qa).first + (midH h g (nb s0.l.length) rt i qa).used) (blks (midH h g (nb s0.l.length) rt i qa).g (midH h g (nb s0.l.length) rt i qa).count si.l) = midB h g bl (nb s0.l.length) rt (i + 1) := hsn
    rw [hsn2] at cP
    repeat (first | refine JL.q (by first | (apply OQ.idxS1 (i := i); exact Try.underlying34; exact sleJ; exact rfl; exact rfl; exact hi') | (apply OQ.load_old; exact slCj; exact rfl; exact lb; exact hbS; exact ci) | (apply OQ.move; exact rfl) | (apply OQ.assign; exact rfl) | (apply OQ.nilc; exact rfl) | (apply OQ.len; exact rfl; exact rfl) | (apply OQ.addN; exact rfl; exact rfl; exact (by (try simp only []); omega)) | (apply OQ.subN; exact rfl; exact rfl; exact (by (try simp only []); omega); exact (by (try simp only []); omega)) | (apply OQ.lssN; exact rfl; exact rfl) | (apply OQ.gtrN; exact rfl; exact rfl) | (apply OQ.fld; exact rfl; exact rfl; exact rfl; exact (by decide); exact rfl)) rfl ?_ | refine JC.seq ?_ | refine JC.region ?_ | refine JC.block ?_ | refine JC.skip ?_ | refine JC.exit ?_ | refine JL.nil ?_ | refine JE.next ?_ | refine JE.blk_normal ?_ | refine JE.then_exit ?_ | refine JE.blk_hit ?_ | refine JE.blk_miss rfl ?_ | refine JE.then_ret ?_ | refine JE.blk_ret ?_ | refine JC.label ?_ | refine JL.gon rfl rfl ?_ | refine JL.gskip rfl rfl rfl rfl ?_ | refine JL.gskipU rfl rfl rfl rfl ?_)
    refine JL.perm ?_ (List.Perm.of_eq (List.append_nil _).symm)
    refine JL.callV (ι := Dw (midH h g (nb s0.l.length) rt i qa).x (midB h g bl (nb s0.l.length) rt (i + 1)) (ps.length + nb si.l.length)) (vs := [Pt j 0, si.v]) (fun _ => .tuple #[]) (fun z => z.J j (putH (midH h g (nb s0.l.length) rt i qa) si.l.length)) goes_put rfl rfl (jnE_wr _ _ _ _) (fun z => z.Jwr _ _) cP fun z => ?_
    repeat (first | refine JL.q (by first | (apply OQ.move; exact rfl) | (apply OQ.assign; exact rfl) | (apply OQ.nilc; exact rfl) | (apply OQ.len; exact rfl; exact rfl) | (apply OQ.addN; exact rfl; exact rfl; exact (by (try simp only []); omega)) | (apply OQ.subN; exact rfl; exact rfl; exact (by (try simp only []); omega); exact (by (try simp only []); omega)) | (apply OQ.lssN; exact rfl; exact rfl) | (apply OQ.gtrN; exact rfl; exact rfl) | (apply OQ.fld; exact rfl; exact rfl; exact rfl; exact (by decide); exact rfl)) rfl ?_ | refine JC.seq ?_ | refine JC.region ?_ | refine JC.block ?_ | refine JC.skip ?_ | refine JC.exit ?_ | refine JL.nil ?_ | refine JE.next ?_ | refine JE.blk_normal ?_ | refine JE.then_exit ?_ | refine JE.blk_hit ?_ | refine JE.blk_miss rfl ?_ | refine JE.then_ret ?_ | refine JE.blk_ret ?_ | refine JC.label ?_ | refine JL.gon rfl rfl ?_ | refine JL.gskip rfl rfl rfl rfl ?_ | refine JL.gskipU rfl rfl rfl rfl ?_)
    have hrs : room (rt.take (i + 1)) = room (rt.take i) + nb si.l.length := by rw [hts, room_append]; simp [room]
    have eH : hfc (putH (midH h g (nb s0.l.length) rt i qa) si.l.length) = hfc (midH h g (nb s0.l.length) rt (i + 1) z.a) := by
      unfold putH midH
      rw [hrs]
      simp only [hfc, Nat.add_assoc]
      rfl
    obtain ⟨za, zp, zo, zn⟩ := z
    dsimp only at eH
    refine JE.again (i := (i, qa, ps)) (i + 1, za, zp) ⟨hi', zo, by dsimp only; omega⟩ (by dsimp only; omega) (by repeat (first | exact SubE.nil | refine SubE.cons _ _ _ rfl ?_)) ?_
    rw [List.append_nil]
    show Less (⟨j, Row 98 (hfc (midH h g (nb s0.l.length) rt (i + 1) za)), true⟩ :: dkE ⟨h.x.p, h.x.q, h.x.cap, za⟩ (midB h g bl (nb s0.l.length) rt (i + 1)) zp) (⟨j, Row 98 (hfc (putH (midH h g (nb s0.l.length) rt i qa) si.l.length)), true⟩ :: _)
    rw [eH]
    exact Less.refl _
  · have hi' : i = rt.length := by have := of_decide_eq_false hc; omega
    subst hi'
    have eT : midB h g bl (nb s0.l.length) rt rt.length = putAt bl (h.first + nb s0.l.length) (allB g 1 rt) := by unfold midB; rw [List.take_length]
    have eH : hfc (midH h g (nb s0.l.length) rt rt.length qa) = hfc (begH h g ls) := by
      unfold midH begH
      rw [List.take_length, hll, hrt, room_cons, ← hrl, Nat.add_comm 1]
      rfl
    rw [List.take_length] at hpi
    rw [eT] at hdi hmbl ⊢
    unfold jnE
    rw [eH]
    have hgl : ((rs.length : Nat) : Int) = rt.length + 1 := by omega
    repeat (first | refine JL.q (by first | (apply OQ.len (k := rs.length) (ad := some ⟨b, jj, none⟩) (cap := cap); exact Try.underlying34; exact rfl) | (apply OQ.move; exact rfl) | (apply OQ.assign; exact rfl) | (apply OQ.nilc; exact rfl) | (apply OQ.len; exact rfl; exact rfl) | (apply OQ.addN; exact rfl; exact rfl; exact (by (try simp only []); omega)) | (apply OQ.subN; exact rfl; exact rfl; exact (by (try simp only []); omega); exact (by (try simp only []); omega)) | (apply OQ.lssN; exact rfl; exact rfl) | (apply OQ.gtrN; exact rfl; exact rfl) | (apply OQ.fld; exact rfl; exact rfl; exact rfl; exact (by decide); exact rfl)) rfl ?_ | refine JC.seq ?_ | refine JC.region ?_ | refine JC.block ?_ | refine JC.skip ?_ | refine JC.exit ?_ | refine JL.nil ?_ | refine JE.next ?_ | refine JE.blk_normal ?_ | refine JE.then_exit ?_ | refine JE.blk_hit ?_ | refine JE.blk_miss rfl ?_ | refine JE.then_ret ?_ | refine JE.blk_ret ?_ | refine JC.label ?_ | refine JL.gon rfl rfl ?_ | refine JL.gskip rfl rfl rfl rfl ?_ | refine JL.gskipU rfl rfl rfl rfl ?_)
    refine JC.join (ι := Acc × List (Nat × Bk)) (fun _ => [(0, Pt j 0), (2, .slice (some ⟨b, jj, none⟩) rs.length cap)]) (fun z => ⟨j, Row 98 (hfc (begH h g ls)), true⟩ :: dkE ⟨h.x.p, h.x.q, h.x.cap, z.1⟩ (putAt bl (h.first + nb s0.l.length) (allB g 1 rt)) z.2) (fun z => DkOk ⟨h.x.p, h.x.q, h.x.cap, z.1⟩ (putAt bl (h.first + nb s0.l.length) (allB g 1 rt)) z.2 ∧ z.2.length ≤ pd.length + room rt) ?_ ?_
    · refine JC.cond rfl (fun hg => ?_) (fun hg => ?_)
      · repeat (first | refine JL.q (by first | (apply OQ.load; exact jbC; exact rfl; exact .here; exact (Row.cell (v := ifD h.x) rfl)) | (apply OQ.move; exact rfl) | (apply OQ.assign; exact rfl) | (apply OQ.nilc; exact rfl) | (apply OQ.len; exact rfl; exact rfl) | (apply OQ.addN; exact rfl; exact rfl; exact (by (try simp only []); omega)) | (apply OQ.subN; exact rfl; exact rfl; exact (by (try simp only []); omega); exact (by (try simp only []); omega)) | (apply OQ.lssN; exact rfl; exact rfl) | (apply OQ.gtrN; exact rfl; exact rfl) | (apply OQ.fld; exact rfl; exact rfl; exact rfl; exact (by decide); exact rfl)) rfl ?_ | refine JC.seq ?_ | refine JC.region ?_ | refine JC.block ?_ | refine JC.skip ?_ | refine JC.exit ?_ | refine JL.nil ?_ | refine JE.next ?_ | refine JE.blk_normal ?_ | refine JE.then_exit ?_ | refine JE.blk_hit ?_ | refine JE.blk_miss rfl ?_ | refine JE.then_ret ?_ | refine JE.blk_ret ?_ | refine JC.label ?_ | refine JL.gon rfl rfl ?_ | refine JL.gskip rfl rfl rfl rfl ?_ | refine JL.gskipU rfl rfl rfl rfl ?_)
        refine JL.perm (M' := dkE ⟨h.x.p, h.x.q, h.x.cap, qa⟩ (putAt bl (h.first + nb s0.l.length) (allB g 1 rt)) ps ++ [⟨j, Row 98 (hfc (begH h g ls)), true⟩]) ?_ (by exact List.perm_append_comm (l₁ := [_]))
        refine JL.isync rfl rfl ?_
        repeat (first | refine JL.q (by first | (apply OQ.move; exact rfl) | (apply OQ.assign; exact rfl) | (apply OQ.nilc; exact rfl) | (apply OQ.len; exact rfl; exact rfl) | (apply OQ.addN; exact rfl; exact rfl; exact (by (try simp only []); omega)) | (apply OQ.subN; exact rfl; exact rfl; exact (by (try simp only []); omega); exact (by (try simp only []); omega)) | (apply OQ.lssN; exact rfl; exact rfl) | (apply OQ.gtrN; exact rfl; exact rfl) | (apply OQ.fld; exact rfl; exact rfl; exact rfl; exact (by decide); exact rfl)) rfl ?_ | refine JC.seq ?_ | refine JC.region ?_ | refine JC.block ?_ | refine JC.skip ?_ | refine JC.exit ?_ | refine JL.nil ?_ | refine JE.next ?_ | refine JE.blk_normal ?_ | refine JE.then_exit ?_ | refine JE.blk_hit ?_ | refine JE.blk_miss rfl ?_ | refine JE.then_ret ?_ | refine JE.blk_ret ?_ | refine JC.label ?_ | refine JL.gon rfl rfl ?_ | refine JL.gskip rfl rfl rfl rfl ?_ | refine JL.gskipU rfl rfl rfl rfl ?_)
        refine JE.perm (M' := ⟨j, Row 98 (hfc (begH h g ls)), true⟩ :: dkE ⟨h.x.p, h.x.q, h.x.cap, none⟩ (putAt bl (h.first + nb s0.l.length) (allB g 1 rt)) []) (by exact List.perm_append_comm (l₂ := [_])) ?_
        exact JE.mid (none, []) ⟨hdi.sync, Nat.zero_le _⟩ (by repeat (first | exact SubE.nil | refine SubE.cons _ _ _ rfl ?_)) (Less.refl _)
      · repeat (first | refine JL.q (by first | (apply OQ.move; exact rfl) | (apply OQ.assign; exact rfl) | (apply OQ.nilc; exact rfl) | (apply OQ.len; exact rfl; exact rfl) | (apply OQ.addN; exact rfl; exact rfl; exact (by (try simp only []); omega)) | (apply OQ.subN; exact rfl; exact rfl; exact (by (try simp only []); omega); exact (by (try simp only []); omega)) | (apply OQ.lssN; exact rfl; exact rfl) | (apply OQ.gtrN; exact rfl; exact rfl) | (apply OQ.fld; exact rfl; exact rfl; exact rfl; exact (by decide); exact rfl)) rfl ?_ | refine JC.seq ?_ | refine JC.region ?_ | refine JC.block ?_ | refine JC.skip ?_ | refine JC.exit ?_ | refine JL.nil ?_ | refine JE.next ?_ | refine JE.blk_normal ?_ | refine JE.then_exit ?_ | refine JE.blk_hit ?_ | refine JE.blk_miss rfl ?_ | refine JE.then_ret ?_ | refine JE.blk_ret ?_ | refine JC.label ?_ | refine JL.gon rfl rfl ?_ | refine JL.gskip rfl rfl rfl rfl ?_ | refine JL.gskipU rfl rfl rfl rfl ?_)
        exact JE.mid (qa, ps) ⟨hdi, hpi⟩ (by repeat (first | exact SubE.nil | refine SubE.cons _ _ _ rfl ?_)) (Less.refl _)
    clear hdi hpi
    rintro ⟨qa, ps⟩ ⟨hdi, hpi⟩
    dsimp only at hdi hpi ⊢
    have hfin : putAt (putAt bl (h.first + nb s0.l.length) (allB g 1 rt)) (h.first + 0) (blks g 0 s0.l) = putAt bl h.first (allB g 0 ls) := by
      have := putAt_two (bl := bl) (k := h.first) (a := blks g 0 s0.l) (b := allB g 1 rt) (by rw [blks_len, allB_len]; omega)
      rw [blks_len] at this
      rw [Nat.add_zero, this, hrt]
      rfl
    have cW := fun w' (hw' : Holds w S (dkE ⟨h.x.p, h.x.q, h.x.cap, qa⟩ (putAt bl (h.first + nb s0.l.length) (allB g 1 rt)) ps ++ [⟨j, Row 98 (hfc (begH h g ls)), true⟩]) w') hx' => write_any ⟨⟨h.x.p, h.x.q, h.x.cap, qa⟩, h.first, h.size, g, ls.length, room ls⟩ (putAt bl (h.first + nb s0.l.length) (allB g 1 rt)) ps 0 0 s0 hdi (by rw [hmbl]; exact hs) (by show 0 + nb s0.l.length ≤ h.size; omega) (by show ps.length + h.size ≤ _; omega) w' (ok0.away hw' aw0) (away_mid hw' (dkE_wr _ _ _) ok0 aw0) hx'
    dsimp only at cW
    rw [hfin] at cW
    repeat (first | refine JL.q (by first | (apply OQ.move; exact rfl) | (apply OQ.assign; exact rfl) | (apply OQ.nilc; exact rfl) | (apply OQ.len; exact rfl; exact rfl) | (apply OQ.addN; exact rfl; exact rfl; exact (by (try simp only []); omega)) | (apply OQ.subN; exact rfl; exact rfl; exact (by (try simp only []); omega); exact (by (try simp only []); omega)) | (apply OQ.lssN; exact rfl; exact rfl) | (apply OQ.gtrN; exact rfl; exact rfl) | (apply OQ.fld; exact rfl; exact rfl; exact rfl; exact (by decide); exact rfl)) rfl ?_ | refine JC.seq ?_ | refine JC.region ?_ | refine JC.block ?_ | refine JC.skip ?_ | refine JC.exit ?_ | refine JL.nil ?_ | refine JE.next ?_ | refine JE.blk_normal ?_ | refine JE.then_exit ?_ | refine JE.blk_hit ?_ | refine JE.blk_miss rfl ?_ | refine JE.then_ret ?_ | refine JE.blk_ret ?_ | refine JC.label ?_ | refine JL.gon rfl rfl ?_ | refine JL.gskip rfl rfl rfl rfl ?_ | refine JL.gskipU rfl rfl rfl rfl ?_)
    refine JC.tail 6 mixT (by kernel_rfl) ?_
    simp only [List.take_succ_cons, List.take_zero, List.drop_succ_cons, List.drop_zero]
    repeat (first | refine JL.q (by first | (apply OQ.load_agg (cs := hfc (begH h g ls)); exact hfAg; exact hf6; exact rfl; exact .here; exact rfl; exact Row.all) | (apply OQ.idxS1 (i := 0); exact Try.underlying34; exact sleJ; exact rfl; exact rfl; exact hne) | (apply OQ.load_old; exact slCj; exact rfl; exact lb; exact hbS; exact c0) | (apply OQ.move; exact rfl) | (apply OQ.assign; exact rfl) | (apply OQ.nilc; exact rfl) | (apply OQ.len; exact rfl; exact rfl) | (apply OQ.addN; exact rfl; exact rfl; exact (by (try simp only []); omega)) | (apply OQ.subN; exact rfl; exact rfl; exact (by (try simp only []); omega); exact (by (try simp only []); omega)) | (apply OQ.lssN; exact rfl; exact rfl) | (apply OQ.gtrN; exact rfl; exact rfl) | (apply OQ.fld; exact rfl; exact rfl; exact rfl; exact (by decide); exact rfl)) rfl ?_ | refine JQ.q (by first | (apply OQ.load_agg (cs := hfc (begH h g ls)); exact hfAg; exact hf6; exact rfl; exact .here; exact rfl; exact Row.all) | (apply OQ.idxS1 (i := 0); exact Try.underlying34; exact sleJ; exact rfl; exact rfl; exact hne) | (apply OQ.load_old; exact slCj; exact rfl; exact lb; exact hbS; exact c0) | (apply OQ.move; exact rfl) | (apply OQ.assign; exact rfl) | (apply OQ.nilc; exact rfl) | (apply OQ.len; exact rfl; exact rfl) | (apply OQ.addN; exact rfl; exact rfl; exact (by (try simp only []); omega)) | (apply OQ.subN; exact rfl; exact rfl; exact (by (try simp only []); omega); exact (by (try simp only []); omega)) | (apply OQ.lssN; exact rfl; exact rfl) | (apply OQ.gtrN; exact rfl; exact rfl) | (apply OQ.fld; exact rfl; exact rfl; exact rfl; exact (by decide); exact rfl)) rfl ?_ | refine JC.seq ?_ | refine JC.region ?_ | refine JC.block ?_ | refine JC.skip ?_ | refine JC.exit ?_ | refine JL.nil ?_ | refine JQ.nil ?_ | refine JQ.nil_tail ?_ | refine JE.next ?_ | refine JE.blk_normal ?_ | refine JE.then_exit ?_ | refine JE.blk_hit ?_ | refine JE.blk_miss rfl ?_ | refine JE.then_ret ?_ | refine JE.blk_ret ?_ | refine JC.label ?_ | refine JL.gon rfl rfl ?_ | refine JQ.gon rfl rfl ?_ | refine JL.gskip rfl rfl rfl rfl ?_ | refine JQ.gskip rfl rfl rfl rfl ?_ | refine JL.gskipU rfl rfl rfl rfl ?_ | refine JQ.gskipU rfl rfl rfl rfl ?_)
    refine JL.perm (M' := dkE ⟨h.x.p, h.x.q, h.x.cap, qa⟩ (putAt bl (h.first + nb s0.l.length) (allB g 1 rt)) ps ++ [⟨j, Row 98 (hfc (begH h g ls)), true⟩]) ?_ (by exact List.perm_append_comm (l₁ := [_]))
    refine JL.callV (ι := Dw ⟨h.x.p, h.x.q, h.x.cap, qa⟩ (putAt bl h.first (allB g 0 ls)) (ps.length + nb s0.l.length)) (vs := [.agg (hfc (begH h g ls)).toArray, N 0, N 0, s0.v]) (fun _ => .tuple #[]) (fun z => z.E) goes_jwrite rfl rfl (dkE_wr _ _ _) (fun z => z.wr) cW fun z => ?_
    refine JL.perm (M' := ⟨j, Row 98 (hfc (begH h g ls)), true⟩ :: z.E) ?_ (by exact List.perm_append_comm (l₂ := [_]))
    repeat (first | refine JL.q (by first | (apply OQ.load; exact jbC; exact rfl; exact .here; exact (Row.cell (v := ifD h.x) rfl)) | (apply OQ.move; exact rfl) | (apply OQ.assign; exact rfl) | (apply OQ.nilc; exact rfl) | (apply OQ.len; exact rfl; exact rfl) | (apply OQ.addN; exact rfl; exact rfl; exact (by (try simp only []); omega)) | (apply OQ.subN; exact rfl; exact rfl; exact (by (try simp only []); omega); exact (by (try simp only []); omega)) | (apply OQ.lssN; exact rfl; exact rfl) | (apply OQ.gtrN; exact rfl; exact rfl) | (apply OQ.fld; exact rfl; exact rfl; exact rfl; exact (by decide); exact rfl)) rfl ?_ | refine JQ.q (by first | (apply OQ.load; exact jbC; exact rfl; exact .here; exact (Row.cell (v := ifD h.x) rfl)) | (apply OQ.move; exact rfl) | (apply OQ.assign; exact rfl) | (apply OQ.nilc; exact rfl) | (apply OQ.len; exact rfl; exact rfl) | (apply OQ.addN; exact rfl; exact rfl; exact (by (try simp only []); omega)) | (apply OQ.subN; exact rfl; exact rfl; exact (by (try simp only []); omega); exact (by (try simp only []); omega)) | (apply OQ.lssN; exact rfl; exact rfl) | (apply OQ.gtrN; exact rfl; exact rfl) | (apply OQ.fld; exact rfl; exact rfl; exact rfl; exact (by decide); exact rfl)) rfl ?_ | refine JC.seq ?_ | refine JC.region ?_ | refine JC.block ?_ | refine JC.skip ?_ | refine JC.exit ?_ | refine JL.nil ?_ | refine JQ.nil ?_ | refine JQ.nil_tail ?_ | refine JE.next ?_ | refine JE.blk_normal ?_ | refine JE.then_exit ?_ | refine JE.blk_hit ?_ | refine JE.blk_miss rfl ?_ | refine JE.then_ret ?_ | refine JE.blk_ret ?_ | refine JC.label ?_ | refine JL.gon rfl rfl ?_ | refine JQ.gon rfl rfl ?_ | refine JL.gskip rfl rfl rfl rfl ?_ | refine JQ.gskip rfl rfl rfl rfl ?_ | refine JL.gskipU rfl rfl rfl rfl ?_ | refine JQ.gskipU rfl rfl rfl rfl ?_)
    refine JL.perm (M' := dkE ⟨h.x.p, h.x.q, h.x.cap, z.a⟩ (putAt bl h.first (allB g 0 ls)) z.pd ++ [⟨j, Row 98 (hfc (begH h g ls)), true⟩]) ?_ (by exact List.perm_append_comm (l₁ := [_]))
    refine JL.isync rfl rfl ?_
    repeat (first | refine JL.q (by first | (apply OQ.move; exact rfl) | (apply OQ.assign; exact rfl) | (apply OQ.nilc; exact rfl) | (apply OQ.len; exact rfl; exact rfl) | (apply OQ.addN; exact rfl; exact rfl; exact (by (try simp only []); omega)) | (apply OQ.subN; exact rfl; exact rfl; exact (by (try simp only []); omega); exact (by (try simp only []); omega)) | (apply OQ.lssN; exact rfl; exact rfl) | (apply OQ.gtrN; exact rfl; exact rfl) | (apply OQ.fld; exact rfl; exact rfl; exact rfl; exact (by decide); exact rfl)) rfl ?_ | refine JQ.q (by first | (apply OQ.move; exact rfl) | (apply OQ.assign; exact rfl) | (apply OQ.nilc; exact rfl) | (apply OQ.len; exact rfl; exact rfl) | (apply OQ.addN; exact rfl; exact rfl; exact (by (try simp only []); omega)) | (apply OQ.subN; exact rfl; exact rfl; exact (by (try simp only []); omega); exact (by (try simp only []); omega)) | (apply OQ.lssN; exact rfl; exact rfl) | (apply OQ.gtrN; exact rfl; exact rfl) | (apply OQ.fld; exact rfl; exact rfl; exact rfl; exact (by decide); exact rfl)) rfl ?_ | refine JC.seq ?_ | refine JC.region ?_ | refine JC.block ?_ | refine JC.skip ?_ | refine JC.exit ?_ | refine JL.nil ?_ | refine JQ.nil ?_ | refine JQ.nil_tail ?_ | refine JE.next ?_ | refine JE.blk_normal ?_ | refine JE.then_exit ?_ | refine JE.blk_hit ?_ | refine JE.blk_miss rfl ?_ | refine JE.then_ret ?_ | refine JE.blk_ret ?_ | refine JC.label ?_ | refine JL.gon rfl rfl ?_ | refine JQ.gon rfl rfl ?_ | refine JL.gskip rfl rfl rfl rfl ?_ | refine JQ.gskip rfl rfl rfl rfl ?_ | refine JL.gskipU rfl rfl rfl rfl ?_ | refine JQ.gskipU rfl rfl rfl rfl ?_)
    refine JE.perm (M' := ⟨j, Row 98 (hfc (begH h g ls)), true⟩ :: dkE (sync0 h.x) (putAt bl h.first (allB g 0 ls)) []) (by exact List.perm_append_comm (l₂ := [_])) ?_
    exact JE.end0 rfl fun w' hw => ⟨rfl, hw⟩
end Go.Proofs.Ytkadoibacliepaa

/-
  Of no statement by itself: the landed journal's open, Open.
  Conditions: each theorem's own.
-/
namespace Go.Proofs.Ytkadoibacliepaa
set_option maxRecDepth 10000
open Sl Dsk Jrn
theorem rd_room {g : BitVec 32} {r : Nat} : ∀ {bs : List Bk} {p : Nat} {acc rec : Bk} {k : Nat}, rd g r bs p acc = some (rec, k) → (∀ b ∈ bs, b.length = 64) → acc.length ≤ p * 42 → rec.length ≤ k * 42
  | [], _, _, _, _, h, _, _ => by simp [rd] at h
  | b :: bs, p, acc, rec, k, h, hb, ha => by
    unfold rd at h
    split at h
    case isTrue hw =>
      have ⟨h1, h2⟩ := part_len (hb b (by simp)) hw.1
      split at h
      · simp only [Option.some.injEq, Prod.mk.injEq] at h
        rw [← h.1, ← h.2, List.length_append, h1]
        omega
      · exact rd_room h (fun x hx => hb x (by simp [hx])) (by rw [List.length_append, h1]; omega)
    · cases h
theorem toldN_room {g : BitVec 32} : ∀ (f : Nat) (bs : List Bk) (n : Nat), (∀ b ∈ bs, b.length = 64) → room (toldN g f bs n) ≤ bs.length
  | 0, bs, n, _ => Nat.zero_le _
  | f + 1, bs, n, hb => by
    rw [toldN]
    cases h : rd g n bs 0 [] with
    | none => exact Nat.zero_le _
    | some rk =>
      obtain ⟨rec, k⟩ := rk
      have h1 := rd_room h hb (Nat.zero_le _)
      have h2 := rd_le h
      have ih := toldN_room (g := g) f (bs.drop k) (n + 1) (fun b hx => hb b (List.mem_of_mem_drop hx))
      rw [List.length_drop] at ih
      rw [room_cons]
      have : nb rec.length ≤ k := by unfold nb; omega
      omega
theorem recH_room {bl : List Bk} {first : Nat} (hb : ∀ b ∈ bl, b.length = 64) (h : first + bl.length / 2 ≤ bl.length) : room (recH bl first) ≤ bl.length / 2 := by
  unfold recH toldH told
  refine Nat.le_trans (toldN_room _ _ _ ?_) (by rw [bsOf_len h]; omega)
  intro b hx
  unfold bsOf at hx
  exact hb b (List.mem_of_mem_drop (List.mem_of_mem_take (List.mem_of_mem_drop hx)))
theorem curF_room {bl : List Bk} (hb : ∀ b ∈ bl, b.length = 64) (h4 : 4 ≤ bl.length) : room (curF bl).2.2 ≤ bl.length / 2 ∧ 0 < (curF bl).2.2.length ∧ (curF bl).1 ≤ bl.length / 2 := by
  have h0 : ∀ f, (0 : Int) < ((genH bl f).toNat : Int) → 0 < (recH bl f).length := fun f h => by
    unfold genH at h
    split at h
    · simp at h
    · omega
  unfold curF
  split
  case isTrue h => exact ⟨recH_room hb (by omega), h0 _ h.1, Nat.zero_le _⟩
  · split
    case isTrue h => exact ⟨recH_room hb (by omega), h0 _ h, Nat.le_refl _⟩
    · exact ⟨by show 1 + 0 ≤ _; omega, Nat.zero_lt_one, Nat.le_refl _⟩
theorem away_gr {w0 w : World} {S : List Nat} {X M : List Ent} {z : Gr} (hw : Holds w0 S (X ++ (z.E ++ M)) w) : AwayL z.s (keys X) := by
  have key : ∀ b, b ∈ z.E.map Ent.b → b ∉ keys X := fun b hb hm => by
    have hn := hw.nodup
    rw [List.map_append, List.nodup_append] at hn
    exact hn.2.2 b hm b (by rw [List.map_append]; exact List.mem_append_left _ hb) rfl
  obtain ⟨q, rs, hq, hr⟩ := z
  refine ⟨fun _ a ha => ?_, fun y hy h0 a ha => ?_⟩
  · cases q with
    | none => cases ha
    | some p =>
      have : a = ⟨p.1, 0, none⟩ := by cases ha; rfl
      rw [this]
      exact key p.1 (by unfold Gr.E; rw [List.map_append]; exact List.mem_append_left _ (by simp [accE]))
  · have hy' : y ∈ rs := by
      have := accL_rs hq
      unfold Gr.s at hy
      rwa [this] at hy
    refine key a.block ?_
    unfold Gr.E
    rw [List.map_append]
    refine List.mem_append_right _ ?_
    unfold flatE
    rw [List.map_flatMap, List.mem_flatMap]
    exact ⟨y, hy', by unfold Sl8.ents; rw [ha]; simp⟩
theorem goes_jopen : Goes Try.prog 59 := ⟨_, Try.func59, rfl, by kernel_rfl⟩
theorem goes_jOpen : Goes Try.prog 28 := ⟨_, Try.func28, rfl, by kernel_rfl⟩
/-- why a journal isn't opened -/
def noOpen (bl : List Bk) : Nat := if bl.length < 4 then 2 else if gm bl = 4294967295#32 then 6 else 0
set_option maxHeartbeats 16000000 in
theorem open_no (x : Dp) (bl : List Bk) (pd : List (Nat × Bk)) (ok : Ok bl pd) (hn : bl.length ≤ 65536) (hno : noOpen bl ≠ 0) (w : World) (h0 : Holds w [] (dkR x bl pd) w) :
    Calls Try.prog 59 [ifD x].toArray w fun e w' => e = .returned (.tuple #[.pointer none, N (noOpen bl)]) ∧ Ext w w' := by
  refine enter (n := 36) Try.func59 rfl rfl rfl h0 ?_
  repeat (first | refine JL.q (by first | (apply OQ.inv (xs := []); exact (isSize x); exact rfl; exact (OQ.callx (vs := [Pt x.p 0]) goes_dsizej rfl (fun w' hw' => dsizeR x bl pd w' (dkR_front (A := []) (M := []) hw')))) | (apply OQ.move; exact rfl) | (apply OQ.assign; exact rfl) | (apply OQ.nilc; exact rfl) | (apply OQ.len; exact rfl; exact rfl) | (apply OQ.addN; exact rfl; exact rfl; exact (by (try simp only []); omega)) | (apply OQ.subN; exact rfl; exact rfl; exact (by (try simp only []); omega); exact (by (try simp only []); omega)) | (apply OQ.lssN; exact rfl; exact rfl) | (apply OQ.gtrN; exact rfl; exact rfl) | (apply OQ.fld; exact rfl; exact rfl; exact rfl; exact (by decide); exact rfl)) rfl ?_ | refine JC.seq ?_ | refine JC.region ?_ | refine JC.block ?_ | refine JC.skip ?_ | refine JC.exit ?_ | refine JL.nil ?_ | refine JE.next ?_ | refine JE.blk_normal ?_ | refine JE.then_exit ?_ | refine JE.blk_hit ?_ | refine JE.blk_miss rfl ?_ | refine JE.then_ret ?_ | refine JE.blk_ret ?_ | refine JC.label ?_ | refine JL.gon rfl rfl ?_ | refine JL.gskip rfl rfl rfl rfl ?_ | refine JL.gskipU rfl rfl rfl rfl ?_)
  refine JC.cond rfl (fun hc => ?_) (fun hc => ?_)
  · have h4 : bl.length < 4 := by have := of_decide_eq_true hc; omega
    unfold noOpen
    rw [if_pos h4]
    repeat (first | refine JL.q (by first | (apply OQ.move; exact rfl) | (apply OQ.assign; exact rfl) | (apply OQ.nilc; exact rfl) | (apply OQ.len; exact rfl; exact rfl) | (apply OQ.addN; exact rfl; exact rfl; exact (by (try simp only []); omega)) | (apply OQ.subN; exact rfl; exact rfl; exact (by (try simp only []); omega); exact (by (try simp only []); omega)) | (apply OQ.lssN; exact rfl; exact rfl) | (apply OQ.gtrN; exact rfl; exact rfl) | (apply OQ.fld; exact rfl; exact rfl; exact rfl; exact (by decide); exact rfl)) rfl ?_ | refine JC.seq ?_ | refine JC.region ?_ | refine JC.block ?_ | refine JC.skip ?_ | refine JC.exit ?_ | refine JL.nil ?_ | refine JE.next ?_ | refine JE.blk_normal ?_ | refine JE.then_exit ?_ | refine JE.blk_hit ?_ | refine JE.blk_miss rfl ?_ | refine JE.then_ret ?_ | refine JE.blk_ret ?_ | refine JC.label ?_ | refine JL.gon rfl rfl ?_ | refine JL.gskip rfl rfl rfl rfl ?_ | refine JL.gskipU rfl rfl rfl rfl ?_)
    refine JC.ret ?_
    repeat (first | refine JL.q (by first | (apply OQ.move; exact rfl) | (apply OQ.assign; exact rfl) | (apply OQ.nilc; exact rfl) | (apply OQ.len; exact rfl; exact rfl) | (apply OQ.addN; exact rfl; exact rfl; exact (by (try simp only []); omega)) | (apply OQ.subN; exact rfl; exact rfl; exact (by (try simp only []); omega); exact (by (try simp only []); omega)) | (apply OQ.lssN; exact rfl; exact rfl) | (apply OQ.gtrN; exact rfl; exact rfl) | (apply OQ.fld; exact rfl; exact rfl; exact rfl; exact (by decide); exact rfl)) rfl ?_ | refine JC.seq ?_ | refine JC.region ?_ | refine JC.block ?_ | refine JC.skip ?_ | refine JC.exit ?_ | refine JL.nil ?_ | refine JE.next ?_ | refine JE.blk_normal ?_ | refine JE.then_exit ?_ | refine JE.blk_hit ?_ | refine JE.blk_miss rfl ?_ | refine JE.then_ret ?_ | refine JE.blk_ret ?_ | refine JC.label ?_ | refine JL.gon rfl rfl ?_ | refine JL.gskip rfl rfl rfl rfl ?_ | refine JL.gskipU rfl rfl rfl rfl ?_)
    exact JE.ret2 rfl (RV.tmp rfl) (RV.tmp rfl) fun w' hw => ⟨rfl, hw.chg⟩
  · have h4 : ¬ bl.length < 4 := by have := of_decide_eq_false hc; omega
    unfold noOpen at hno ⊢
    rw [if_neg h4] at hno ⊢
    have hg : gm bl = 4294967295#32 := by
      by_cases hg : gm bl = 4294967295#32
      · exact hg
      · rw [if_neg hg] at hno; exact absurd rfl hno
    rw [if_pos hg]
    have cN := fun {u w' : World} {S : List Nat} (hw' : Holds u S (dkR x bl pd) w') => newGen_any x bl pd ok hn w' (dkR_front (A := []) (M := []) hw')
    have eG : newG bl = .tuple #[U32 0, N 6] := by unfold newG; rw [if_pos hg]
    rw [eG] at cN
    repeat (first | refine JL.q (by first | (apply OQ.callx (vs := [ifD x]); exact goes_newGen; exact rfl; exact (fun w' hw' => cN hw')) | (apply OQ.extract; exact rfl; exact rfl) | (apply OQ.neB (a := 6) (b := 0) (c := false); exact rfl; exact rfl; exact rfl) | (apply OQ.move; exact rfl) | (apply OQ.assign; exact rfl) | (apply OQ.nilc; exact rfl) | (apply OQ.len; exact rfl; exact rfl) | (apply OQ.addN; exact rfl; exact rfl; exact (by (try simp only []); omega)) | (apply OQ.subN; exact rfl; exact rfl; exact (by (try simp only []); omega); exact (by (try simp only []); omega)) | (apply OQ.lssN; exact rfl; exact rfl) | (apply OQ.gtrN; exact rfl; exact rfl) | (apply OQ.fld; exact rfl; exact rfl; exact rfl; exact (by decide); exact rfl)) rfl ?_ | refine JC.seq ?_ | refine JC.region ?_ | refine JC.block ?_ | refine JC.skip ?_ | refine JC.exit ?_ | refine JL.nil ?_ | refine JE.next ?_ | refine JE.blk_normal ?_ | refine JE.then_exit ?_ | refine JE.blk_hit ?_ | refine JE.blk_miss rfl ?_ | refine JE.then_ret ?_ | refine JE.blk_ret ?_ | refine JC.label ?_ | refine JL.gon rfl rfl ?_ | refine JL.gskip rfl rfl rfl rfl ?_ | refine JL.gskipU rfl rfl rfl rfl ?_)
    refine JC.cond_true rfl rfl ?_
    repeat (first | refine JL.q (by first | (apply OQ.move; exact rfl) | (apply OQ.assign; exact rfl) | (apply OQ.nilc; exact rfl) | (apply OQ.len; exact rfl; exact rfl) | (apply OQ.addN; exact rfl; exact rfl; exact (by (try simp only []); omega)) | (apply OQ.subN; exact rfl; exact rfl; exact (by (try simp only []); omega); exact (by (try simp only []); omega)) | (apply OQ.lssN; exact rfl; exact rfl) | (apply OQ.gtrN; exact rfl; exact rfl) | (apply OQ.fld; exact rfl; exact rfl; exact rfl; exact (by decide); exact rfl)) rfl ?_ | refine JC.seq ?_ | refine JC.region ?_ | refine JC.block ?_ | refine JC.skip ?_ | refine JC.exit ?_ | refine JL.nil ?_ | refine JE.next ?_ | refine JE.blk_normal ?_ | refine JE.then_exit ?_ | refine JE.blk_hit ?_ | refine JE.blk_miss rfl ?_ | refine JE.then_ret ?_ | refine JE.blk_ret ?_ | refine JC.label ?_ | refine JL.gon rfl rfl ?_ | refine JL.gskip rfl rfl rfl rfl ?_ | refine JL.gskipU rfl rfl rfl rfl ?_)
    refine JC.ret ?_
    repeat (first | refine JL.q (by first | (apply OQ.move; exact rfl) | (apply OQ.assign; exact rfl) | (apply OQ.nilc; exact rfl) | (apply OQ.len; exact rfl; exact rfl) | (apply OQ.addN; exact rfl; exact rfl; exact (by (try simp only []); omega)) | (apply OQ.subN; exact rfl; exact rfl; exact (by (try simp only []); omega); exact (by (try simp only []); omega)) | (apply OQ.lssN; exact rfl; exact rfl) | (apply OQ.gtrN; exact rfl; exact rfl) | (apply OQ.fld; exact rfl; exact rfl; exact rfl; exact (by decide); exact rfl)) rfl ?_ | refine JC.seq ?_ | refine JC.region ?_ | refine JC.block ?_ | refine JC.skip ?_ | refine JC.exit ?_ | refine JL.nil ?_ | refine JE.next ?_ | refine JE.blk_normal ?_ | refine JE.then_exit ?_ | refine JE.blk_hit ?_ | refine JE.blk_miss rfl ?_ | refine JE.then_ret ?_ | refine JE.blk_ret ?_ | refine JC.label ?_ | refine JL.gon rfl rfl ?_ | refine JL.gskip rfl rfl rfl rfl ?_ | refine JL.gskipU rfl rfl rfl rfl ?_)
    exact JE.ret2 rfl (RV.tmp rfl) (RV.tmp rfl) fun w' hw => ⟨rfl, hw.chg⟩
/-- the half that a journal that is opened begins in -/
def opnH (x : Dp) (bl : List Bk) : Hf := ⟨x, bl.length / 2 - (curF bl).1, bl.length / 2, 0, 0, 0⟩
def opnD (bl : List Bk) : List Bk := putAt bl (bl.length / 2 - (curF bl).1) (allB (gm bl + 1#32) 0 (curF bl).2.2)
def syH (h : Hf) : Hf := ⟨sync0 h.x, h.first, h.size, h.g, h.count, h.used⟩
def opnJ (x : Dp) (bl : List Bk) : Hf := syH (begH (opnH x bl) (gm bl + 1#32) (curF bl).2.2)
set_option maxHeartbeats 32000000 in
theorem open_yes (x : Dp) (bl : List Bk) (pd : List (Nat × Bk)) (hd : DkOk x bl pd) (hp : pd.length ≤ 900000) (hno : noOpen bl = 0) (w : World) (h0 : Holds w (keys (dkE x bl pd)) (dkE x bl pd) w) :
    Calls Try.prog 59 [ifD x].toArray w fun e w' => ∃ j : Nat, e = .returned (.tuple #[Pt j 0, N 0]) ∧ Holds w (keys (dkE x bl pd)) (jnE j (opnJ x bl) (opnD bl) []) w' := by
  have hn := hd.n1
  have h4 : ¬ bl.length < 4 := fun h => by unfold noOpen at hno; rw [if_pos h] at hno; cases hno
  have hg : ¬ gm bl = 4294967295#32 := fun h => by unfold noOpen at hno; rw [if_neg h4, if_pos h] at hno; cases hno
  have cN := fun {u w' : World} {S : List Nat} {M : List Ent} (hw' : Holds u S (dkE x bl pd ++ M) w') => newGen_any x bl pd hd.ok hn w' (dkR_of hw')
  have eG : newG bl = .tuple #[U32 (gm bl + 1#32), N 0] := by unfold newG; rw [if_neg hg]
  rw [eG] at cN
  have ⟨hr1, hr2, hr3⟩ := curF_room (bl := bl) hd.ok.b (by omega)
  generalize hS : keys (dkE x bl pd) = S at h0 ⊢
  refine enter (n := 36) Try.func59 rfl rfl rfl h0 ?_
  repeat (first | refine JL.q (by first | (apply OQ.inv (xs := []); exact (isSize x); exact rfl; exact (OQ.callx (vs := [Pt x.p 0]) goes_dsizej rfl (fun w' hw' => dsizeR x bl pd w' (dkR_of (M := []) (by rw [List.append_nil]; exact hw'))))) | (apply OQ.move; exact rfl) | (apply OQ.assign; exact rfl) | (apply OQ.nilc; exact rfl) | (apply OQ.len; exact rfl; exact rfl) | (apply OQ.addN; exact rfl; exact rfl; exact (by (try simp only []); omega)) | (apply OQ.subN; exact rfl; exact rfl; exact (by (try simp only []); omega); exact (by (try simp only []); omega)) | (apply OQ.lssN; exact rfl; exact rfl) | (apply OQ.gtrN; exact rfl; exact rfl) | (apply OQ.fld; exact rfl; exact rfl; exact rfl; exact (by decide); exact rfl)) rfl ?_ | refine JC.seq ?_ | refine JC.region ?_ | refine JC.block ?_ | refine JC.skip ?_ | refine JC.exit ?_ | refine JL.nil ?_ | refine JE.next ?_ | refine JE.blk_normal ?_ | refine JE.then_exit ?_ | refine JE.blk_hit ?_ | refine JE.blk_miss rfl ?_ | refine JE.then_ret ?_ | refine JE.blk_ret ?_ | refine JC.label ?_ | refine JL.gon rfl rfl ?_ | refine JL.gskip rfl rfl rfl rfl ?_ | refine JL.gskipU rfl rfl rfl rfl ?_)
  refine JC.cond rfl (fun hc => absurd (of_decide_eq_true hc) (by omega)) (fun _ => ?_)
  repeat (first | refine JL.q (by first | (apply OQ.callx (vs := [ifD x]); exact goes_newGen; exact rfl; exact (fun w' hw' => cN (M := []) (by rw [List.append_nil]; exact hw'))) | (apply OQ.extract; exact rfl; exact rfl) | (apply OQ.neB (a := 0) (b := 0) (c := true); exact rfl; exact rfl; exact rfl) | (apply OQ.move; exact rfl) | (apply OQ.assign; exact rfl) | (apply OQ.nilc; exact rfl) | (apply OQ.len; exact rfl; exact rfl) | (apply OQ.addN; exact rfl; exact rfl; exact (by (try simp only []); omega)) | (apply OQ.subN; exact rfl; exact rfl; exact (by (try simp only []); omega); exact (by (try simp only []); omega)) | (apply OQ.lssN; exact rfl; exact rfl) | (apply OQ.gtrN; exact rfl; exact rfl) | (apply OQ.fld; exact rfl; exact rfl; exact rfl; exact (by decide); exact rfl)) rfl ?_ | refine JC.seq ?_ | refine JC.region ?_ | refine JC.block ?_ | refine JC.skip ?_ | refine JC.exit ?_ | refine JL.nil ?_ | refine JE.next ?_ | refine JE.blk_normal ?_ | refine JE.then_exit ?_ | refine JE.blk_hit ?_ | refine JE.blk_miss rfl ?_ | refine JE.then_ret ?_ | refine JE.blk_ret ?_ | refine JC.label ?_ | refine JL.gon rfl rfl ?_ | refine JL.gskip rfl rfl rfl rfl ?_ | refine JL.gskipU rfl rfl rfl rfl ?_)
  refine JC.cond_false rfl rfl ?_
  repeat (first | refine JL.q (by first | (apply OQ.move; exact rfl) | (apply OQ.assign; exact rfl) | (apply OQ.nilc; exact rfl) | (apply OQ.len; exact rfl; exact rfl) | (apply OQ.addN; exact rfl; exact rfl; exact (by (try simp only []); omega)) | (apply OQ.subN; exact rfl; exact rfl; exact (by (try simp only []); omega); exact (by (try simp only []); omega)) | (apply OQ.lssN; exact rfl; exact rfl) | (apply OQ.gtrN; exact rfl; exact rfl) | (apply OQ.fld; exact rfl; exact rfl; exact rfl; exact (by decide); exact rfl)) rfl ?_ | refine JC.seq ?_ | refine JC.region ?_ | refine JC.block ?_ | refine JC.skip ?_ | refine JC.exit ?_ | refine JL.nil ?_ | refine JE.next ?_ | refine JE.blk_normal ?_ | refine JE.then_exit ?_ | refine JE.blk_hit ?_ | refine JE.blk_miss rfl ?_ | refine JE.then_ret ?_ | refine JE.blk_ret ?_ | refine JC.label ?_ | refine JL.gon rfl rfl ?_ | refine JL.gskip rfl rfl rfl rfl ?_ | refine JL.gskipU rfl rfl rfl rfl ?_)
  refine JL.callg (ι := GrOf (curF bl).2.2 (bl.length / 2)) (vs := [ifD x]) (fun z => .tuple #[.agg (hfc ⟨x, (curF bl).1, bl.length / 2, (curF bl).2.1, 0, 0⟩).toArray, z.1.v]) (fun z => z.1.E) goes_cur rfl rfl (fun z => z.1.wr) (fun w' hw' => cur_any x bl pd hd.ok hn (by omega) w' (dkR_of (M := []) (by rw [List.append_nil]; exact hw'))) fun z => ?_
  repeat (first | refine JL.q (by first | (apply OQ.extract; exact rfl; exact rfl) | (apply OQ.move; exact rfl) | (apply OQ.assign; exact rfl) | (apply OQ.nilc; exact rfl) | (apply OQ.len; exact rfl; exact rfl) | (apply OQ.addN; exact rfl; exact rfl; exact (by (try simp only []); omega)) | (apply OQ.subN; exact rfl; exact rfl; exact (by (try simp only []); omega); exact (by (try simp only []); omega)) | (apply OQ.lssN; exact rfl; exact rfl) | (apply OQ.gtrN; exact rfl; exact rfl) | (apply OQ.fld; exact rfl; exact rfl; exact rfl; exact (by decide); exact rfl)) rfl ?_ | refine JC.seq ?_ | refine JC.region ?_ | refine JC.block ?_ | refine JC.skip ?_ | refine JC.exit ?_ | refine JL.nil ?_ | refine JE.next ?_ | refine JE.blk_normal ?_ | refine JE.then_exit ?_ | refine JE.blk_hit ?_ | refine JE.blk_miss rfl ?_ | refine JE.then_ret ?_ | refine JE.blk_ret ?_ | refine JC.label ?_ | refine JL.gon rfl rfl ?_ | refine JL.gskip rfl rfl rfl rfl ?_ | refine JL.gskipU rfl rfl rfl rfl ?_)
  refine JL.alloc (r := hfc0) hfZ rfl fun b6 _ => ?_
  refine JL.store_all (cs := hfc ⟨x, (curF bl).1, bl.length / 2, (curF bl).2.1, 0, 0⟩) hf6 rfl rfl rfl rfl .here rfl ?_
  have cO := fun w' => other_any ⟨x, (curF bl).1, bl.length / 2, (curF bl).2.1, 0, 0⟩ hr3 (by show bl.length / 2 < _; omega) w'
  repeat (first | refine JL.q (by first | (apply OQ.load_agg (cs := hfc ⟨x, (curF bl).1, bl.length / 2, (curF bl).2.1, 0, 0⟩); exact hfAg; exact hf6; exact rfl; exact .here; exact rfl; exact Row.all) | (apply OQ.callx (vs := [.agg (hfc ⟨x, (curF bl).1, bl.length / 2, (curF bl).2.1, 0, 0⟩).toArray]); exact goes_other; exact rfl; exact (fun w' _ => cO w')) | (apply OQ.buildJ (h := opnH x bl); exact rfl) | (apply OQ.move; exact rfl) | (apply OQ.assign; exact rfl) | (apply OQ.nilc; exact rfl) | (apply OQ.len; exact rfl; exact rfl) | (apply OQ.addN; exact rfl; exact rfl; exact (by (try simp only []); omega)) | (apply OQ.subN; exact rfl; exact rfl; exact (by (try simp only []); omega); exact (by (try simp only []); omega)) | (apply OQ.lssN; exact rfl; exact rfl) | (apply OQ.gtrN; exact rfl; exact rfl) | (apply OQ.fld; exact rfl; exact rfl; exact rfl; exact (by decide); exact rfl)) rfl ?_ | refine JC.seq ?_ | refine JC.region ?_ | refine JC.block ?_ | refine JC.skip ?_ | refine JC.exit ?_ | refine JL.nil ?_ | refine JE.next ?_ | refine JE.blk_normal ?_ | refine JE.then_exit ?_ | refine JE.blk_hit ?_ | refine JE.blk_miss rfl ?_ | refine JE.then_ret ?_ | refine JE.blk_ret ?_ | refine JC.label ?_ | refine JL.gon rfl rfl ?_ | refine JL.gskip rfl rfl rfl rfl ?_ | refine JL.gskipU rfl rfl rfl rfl ?_)
  refine JL.box (r := hfc (opnH x bl)) rfl rfl rfl fun j _ => ?_
  obtain ⟨z, hz1, hz2⟩ := z
  have hzl : z.s.rs.map Sl8.l = (curF bl).2.2 := by rw [z.rs_eq]; exact hz1
  have hzn : 0 < z.s.rs.length := by rw [← hzl, List.length_map] at hr2; exact hr2
  refine JL.perm (M' := jnE j (opnH x bl) bl pd ++ (z.E ++ [⟨b6, Row 96 (hfc ⟨x, (curF bl).1, bl.length / 2, (curF bl).2.1, 0, 0⟩), true⟩])) ?_ (by
    refine List.Perm.cons _ ?_
    refine (List.perm_append_singleton _ _).symm.trans ?_
    rw [List.append_assoc]
    exact List.perm_append_comm_assoc _ _ _)
  have cB := fun w' (hw' : Holds w S (jnE j (opnH x bl) bl pd ++ (z.E ++ [⟨b6, Row 96 (hfc ⟨x, (curF bl).1, bl.length / 2, (curF bl).2.1, 0, 0⟩), true⟩])) w') hx' => begin_any j (opnH x bl) bl pd (gm bl + 1#32) z.s hd (by show bl.length / 2 - (curF bl).1 + bl.length / 2 ≤ bl.length; omega) hzn (by rw [hzl]; exact hr1) (by show pd.length + (bl.length / 2 + bl.length / 2) ≤ _; omega) w' (z.ok (hw'.weak (less_app (jnE j (opnH x bl) bl pd) (less_pre _ _)))) (away_gr hw') hx'
  rw [hzl, z.v_eq] at cB
  repeat (first | refine JL.q (by first | (apply OQ.move; exact rfl) | (apply OQ.assign; exact rfl) | (apply OQ.nilc; exact rfl) | (apply OQ.len; exact rfl; exact rfl) | (apply OQ.addN; exact rfl; exact rfl; exact (by (try simp only []); omega)) | (apply OQ.subN; exact rfl; exact rfl; exact (by (try simp only []); omega); exact (by (try simp only []); omega)) | (apply OQ.lssN; exact rfl; exact rfl) | (apply OQ.gtrN; exact rfl; exact rfl) | (apply OQ.fld; exact rfl; exact rfl; exact rfl; exact (by decide); exact rfl)) rfl ?_ | refine JC.seq ?_ | refine JC.region ?_ | refine JC.block ?_ | refine JC.skip ?_ | refine JC.exit ?_ | refine JL.nil ?_ | refine JE.next ?_ | refine JE.blk_normal ?_ | refine JE.then_exit ?_ | refine JE.blk_hit ?_ | refine JE.blk_miss rfl ?_ | refine JE.then_ret ?_ | refine JE.blk_ret ?_ | refine JC.label ?_ | refine JL.gon rfl rfl ?_ | refine JL.gskip rfl rfl rfl rfl ?_ | refine JL.gskipU rfl rfl rfl rfl ?_)
  refine JL.callV (ι := Unit) (vs := [Pt j 0, U32 (gm bl + 1#32), z.v]) (fun _ => .tuple #[]) (fun _ => jnE j (opnJ x bl) (opnD bl) []) goes_begin rfl rfl (jnE_wr _ _ _ _) (fun _ => jnE_wr _ _ _ _) (fun w' hw' hx' => (cB w' hw' hx').mono fun e w2 ⟨h1, h2⟩ => ⟨(), h1, h2⟩) fun _ => ?_
  repeat (first | refine JL.q (by first | (apply OQ.move; exact rfl) | (apply OQ.assign; exact rfl) | (apply OQ.nilc; exact rfl) | (apply OQ.len; exact rfl; exact rfl) | (apply OQ.addN; exact rfl; exact rfl; exact (by (try simp only []); omega)) | (apply OQ.subN; exact rfl; exact rfl; exact (by (try simp only []); omega); exact (by (try simp only []); omega)) | (apply OQ.lssN; exact rfl; exact rfl) | (apply OQ.gtrN; exact rfl; exact rfl) | (apply OQ.fld; exact rfl; exact rfl; exact rfl; exact (by decide); exact rfl)) rfl ?_ | refine JC.seq ?_ | refine JC.region ?_ | refine JC.block ?_ | refine JC.skip ?_ | refine JC.exit ?_ | refine JL.nil ?_ | refine JE.next ?_ | refine JE.blk_normal ?_ | refine JE.then_exit ?_ | refine JE.blk_hit ?_ | refine JE.blk_miss rfl ?_ | refine JE.then_ret ?_ | refine JE.blk_ret ?_ | refine JC.label ?_ | refine JL.gon rfl rfl ?_ | refine JL.gskip rfl rfl rfl rfl ?_ | refine JL.gskipU rfl rfl rfl rfl ?_)
  refine JC.ret ?_
  repeat (first | refine JL.q (by first | (apply OQ.move; exact rfl) | (apply OQ.assign; exact rfl) | (apply OQ.nilc; exact rfl) | (apply OQ.len; exact rfl; exact rfl) | (apply OQ.addN; exact rfl; exact rfl; exact (by (try simp only []); omega)) | (apply OQ.subN; exact rfl; exact rfl; exact (by (try simp only []); omega); exact (by (try simp only []); omega)) | (apply OQ.lssN; exact rfl; exact rfl) | (apply OQ.gtrN; exact rfl; exact rfl) | (apply OQ.fld; exact rfl; exact rfl; exact rfl; exact (by decide); exact rfl)) rfl ?_ | refine JC.seq ?_ | refine JC.region ?_ | refine JC.block ?_ | refine JC.skip ?_ | refine JC.exit ?_ | refine JL.nil ?_ | refine JE.next ?_ | refine JE.blk_normal ?_ | refine JE.then_exit ?_ | refine JE.blk_hit ?_ | refine JE.blk_miss rfl ?_ | refine JE.then_ret ?_ | refine JE.blk_ret ?_ | refine JC.label ?_ | refine JL.gon rfl rfl ?_ | refine JL.gskip rfl rfl rfl rfl ?_ | refine JL.gskipU rfl rfl rfl rfl ?_)
  exact JE.ret2 rfl (RV.tmp rfl) (RV.tmp rfl) fun w' hw => ⟨j, rfl, hw.weak (less_pre _ _)⟩
theorem Open_no (x : Dp) (bl : List Bk) (pd : List (Nat × Bk)) (ok : Ok bl pd) (hn : bl.length ≤ 65536) (hno : noOpen bl ≠ 0) (w : World) (h0 : Holds w [] (dkR x bl pd) w) :
    Calls Try.prog 28 [Pt x.p 0].toArray w fun e w' => e = .returned (.tuple #[.pointer none, N (noOpen bl)]) ∧ Ext w w' := by
  refine enter (n := 9) Try.func28 rfl rfl rfl h0 ?_
  repeat (first | refine JL.q (by first | (apply OQ.ifaceD (x := x); exact rfl) | (apply OQ.callx (vs := [ifD x]); exact goes_jopen; exact rfl; exact (fun w' hw' => open_no x bl pd ok hn hno w' (dkR_front (A := []) (M := []) hw'))) | (apply OQ.extract; exact rfl; exact rfl) | (apply OQ.move; exact rfl) | (apply OQ.assign; exact rfl) | (apply OQ.nilc; exact rfl) | (apply OQ.len; exact rfl; exact rfl) | (apply OQ.addN; exact rfl; exact rfl; exact (by (try simp only []); omega)) | (apply OQ.subN; exact rfl; exact rfl; exact (by (try simp only []); omega); exact (by (try simp only []); omega)) | (apply OQ.lssN; exact rfl; exact rfl) | (apply OQ.gtrN; exact rfl; exact rfl) | (apply OQ.fld; exact rfl; exact rfl; exact rfl; exact (by decide); exact rfl)) rfl ?_ | refine JC.seq ?_ | refine JC.region ?_ | refine JC.block ?_ | refine JC.skip ?_ | refine JC.exit ?_ | refine JL.nil ?_ | refine JE.next ?_ | refine JE.blk_normal ?_ | refine JE.then_exit ?_ | refine JE.blk_hit ?_ | refine JE.blk_miss rfl ?_ | refine JE.then_ret ?_ | refine JE.blk_ret ?_ | refine JC.label ?_ | refine JL.gon rfl rfl ?_ | refine JL.gskip rfl rfl rfl rfl ?_ | refine JL.gskipU rfl rfl rfl rfl ?_)
  exact JC.ret (JE.ret2 rfl (RV.tmp rfl) (RV.tmp rfl) fun w' hw => ⟨rfl, hw.chg⟩)
theorem Open_yes (x : Dp) (bl : List Bk) (pd : List (Nat × Bk)) (hd : DkOk x bl pd) (hp : pd.length ≤ 900000) (hno : noOpen bl = 0) (w : World) (h0 : Holds w (keys (dkE x bl pd)) (dkE x bl pd) w) :
    Calls Try.prog 28 [Pt x.p 0].toArray w fun e w' => ∃ j : Nat, e = .returned (.tuple #[Pt j 0, N 0]) ∧ Holds w (keys (dkE x bl pd)) (jnE j (opnJ x bl) (opnD bl) []) w' := by
  refine enter (n := 9) Try.func28 rfl rfl rfl h0 ?_
  repeat (first | refine JL.q (by first | (apply OQ.ifaceD (x := x); exact rfl) | (apply OQ.move; exact rfl) | (apply OQ.assign; exact rfl) | (apply OQ.nilc; exact rfl) | (apply OQ.len; exact rfl; exact rfl) | (apply OQ.addN; exact rfl; exact rfl; exact (by (try simp only []); omega)) | (apply OQ.subN; exact rfl; exact rfl; exact (by (try simp only []); omega); exact (by (try simp only []); omega)) | (apply OQ.lssN; exact rfl; exact rfl) | (apply OQ.gtrN; exact rfl; exact rfl) | (apply OQ.fld; exact rfl; exact rfl; exact rfl; exact (by decide); exact rfl)) rfl ?_ | refine JC.seq ?_ | refine JC.region ?_ | refine JC.block ?_ | refine JC.skip ?_ | refine JC.exit ?_ | refine JL.nil ?_ | refine JE.next ?_ | refine JE.blk_normal ?_ | refine JE.then_exit ?_ | refine JE.blk_hit ?_ | refine JE.blk_miss rfl ?_ | refine JE.then_ret ?_ | refine JE.blk_ret ?_ | refine JC.label ?_ | refine JL.gon rfl rfl ?_ | refine JL.gskip rfl rfl rfl rfl ?_ | refine JL.gskipU rfl rfl rfl rfl ?_)
  refine JL.perm ?_ (List.Perm.of_eq (List.append_nil _).symm)
  refine JL.callV (ι := Nat) (vs := [ifD x]) (fun j => .tuple #[Pt j 0, N 0]) (fun j => jnE j (opnJ x bl) (opnD bl) []) goes_jopen rfl rfl (dkE_wr _ _ _) (fun j => jnE_wr _ _ _ _) (fun w' hw' hx' => open_yes x bl pd hd hp hno w' hx') fun j => ?_
  rw [List.append_nil]
  repeat (first | refine JL.q (by first | (apply OQ.extract; exact rfl; exact rfl) | (apply OQ.move; exact rfl) | (apply OQ.assign; exact rfl) | (apply OQ.nilc; exact rfl) | (apply OQ.len; exact rfl; exact rfl) | (apply OQ.addN; exact rfl; exact rfl; exact (by (try simp only []); omega)) | (apply OQ.subN; exact rfl; exact rfl; exact (by (try simp only []); omega); exact (by (try simp only []); omega)) | (apply OQ.lssN; exact rfl; exact rfl) | (apply OQ.gtrN; exact rfl; exact rfl) | (apply OQ.fld; exact rfl; exact rfl; exact rfl; exact (by decide); exact rfl)) rfl ?_ | refine JC.seq ?_ | refine JC.region ?_ | refine JC.block ?_ | refine JC.skip ?_ | refine JC.exit ?_ | refine JL.nil ?_ | refine JE.next ?_ | refine JE.blk_normal ?_ | refine JE.then_exit ?_ | refine JE.blk_hit ?_ | refine JE.blk_miss rfl ?_ | refine JE.then_ret ?_ | refine JE.blk_ret ?_ | refine JC.label ?_ | refine JL.gon rfl rfl ?_ | refine JL.gskip rfl rfl rfl rfl ?_ | refine JL.gskipU rfl rfl rfl rfl ?_)
  exact JC.ret (JE.ret2 rfl (RV.tmp rfl) (RV.tmp rfl) fun w' hw => ⟨j, rfl, hw⟩)
end Go.Proofs.Ytkadoibacliepaa

/-
  Of no statement by itself: the landed journal's Append, Restart.
  Conditions: each theorem's own.
-/
namespace Go.Proofs.Ytkadoibacliepaa
set_option maxRecDepth 10000
open Sl Dsk Jrn
theorem jnR_of {j : Nat} {h : Hf} {bl : List Bk} {pd : List (Nat × Bk)} {u w : World} {S : List Nat} {M : List Ent} (hw : Holds u S (jnE j h bl pd ++ M) w) : Holds w [] (jnR j h bl pd) w :=
  (ro_holds hw).weak (.keep _ _ _ _ _ _ (fun _ h => h) (.keep _ _ _ _ _ _ (fun _ h => h) (.keep _ _ _ _ _ _ (fun _ h => h) (.nil _))))
theorem dkR_jn {j : Nat} {h : Hf} {bl : List Bk} {pd : List (Nat × Bk)} {u w : World} {S : List Nat} {M : List Ent} (hw : Holds u S (jnE j h bl pd ++ M) w) : Holds w [] (dkR h.x bl pd) w :=
  (jnR_of hw).weak (.drop _ _ _ (Less.refl _))
theorem dkR_jr {j : Nat} {h : Hf} {bl : List Bk} {pd : List (Nat × Bk)} {u w : World} {S : List Nat} {M : List Ent} (hw : Holds u S (jnR j h bl pd ++ M) w) : Holds w [] (dkR h.x bl pd) w :=
  dkR_front (A := [⟨j, Row 98 (hfc h), false⟩]) (M := M) hw
theorem fits_nat (j : Nat) (h : Hf) (n : Nat) (hu : h.used ≤ h.size) (hb : h.size < 4611686018427387904) (hn : n < 4611686018427387904) (w : World) (h0 : Holds w [] [⟨j, Row 98 (hfc h), false⟩] w) :
    Calls Try.prog 24 [Pt j 0, N n].toArray w fun e w' => e = .returned (.bool (decide (nb n ≤ h.size - h.used))) ∧ Ext w w' := by
  have := fits_any j h (n : Int) hu hb (by omega) w h0
  rwa [show decide ((0 : Int) ≤ (n : Int) ∧ nb (n : Int).toNat ≤ h.size - h.used) = decide (nb n ≤ h.size - h.used) from decide_eq_decide.2 (by simp)] at this
theorem ro_one {j : Nat} {h : Hf} {u w : World} {S : List Nat} {M : List Ent} {wr : Bool} (hw : Holds u S (⟨j, Row 98 (hfc h), wr⟩ :: M) w) : Holds w [] [⟨j, Row 98 (hfc h), false⟩] w :=
  (ro_holds hw).weak (.keep _ _ _ _ _ _ (fun _ h => h) (.nil _))
theorem goes_app : Goes Try.prog 19 := ⟨_, Try.func19, rfl, by kernel_rfl⟩
theorem goes_rst : Goes Try.prog 22 := ⟨_, Try.func22, rfl, by kernel_rfl⟩
set_option maxHeartbeats 16000000 in
theorem app_no (j : Nat) (h : Hf) (s : Sl8) (hu : h.used ≤ h.size) (hb : h.size ≤ 65536) (hl : s.l.length < 4611686018427387904) (hno : ¬ nb s.l.length ≤ h.size - h.used) (w : World) (h0 : Holds w [] [⟨j, Row 98 (hfc h), false⟩] w) :
    Calls Try.prog 19 [Pt j 0, s.v].toArray w fun e w' => e = .returned (N 6) ∧ Ext w w' := by
  have cF := fun {u w' : World} {S : List Nat} {M : List Ent} (hw' : Holds u S (⟨j, Row 98 (hfc h), false⟩ :: M) w') => fits_nat j h s.l.length hu (by omega) hl w' (ro_one hw')
  rw [decide_eq_false hno] at cF
  refine enter (n := 21) Try.func19 rfl rfl rfl h0 ?_
  repeat (first | refine JL.q (by first | (apply OQ.len (k := s.l.length) (ad := s.ad) (cap := s.cap); exact Try.underlying31; exact rfl) | (apply OQ.callx (vs := [Pt j 0, N s.l.length]); exact goes_fits; exact rfl; exact (fun w' hw' => cF hw')) | (apply OQ.not; exact rfl) | (apply OQ.move; exact rfl) | (apply OQ.assign; exact rfl) | (apply OQ.nilc; exact rfl) | (apply OQ.len; exact rfl; exact rfl) | (apply OQ.addN; exact rfl; exact rfl; exact (by (try simp only []); omega)) | (apply OQ.subN; exact rfl; exact rfl; exact (by (try simp only []); omega); exact (by (try simp only []); omega)) | (apply OQ.lssN; exact rfl; exact rfl) | (apply OQ.gtrN; exact rfl; exact rfl) | (apply OQ.fld; exact rfl; exact rfl; exact rfl; exact (by decide); exact rfl)) rfl ?_ | refine JC.seq ?_ | refine JC.region ?_ | refine JC.block ?_ | refine JC.skip ?_ | refine JC.exit ?_ | refine JL.nil ?_ | refine JE.next ?_ | refine JE.blk_normal ?_ | refine JE.then_exit ?_ | refine JE.blk_hit ?_ | refine JE.blk_miss rfl ?_ | refine JE.then_ret ?_ | refine JE.blk_ret ?_ | refine JC.label ?_ | refine JL.gon rfl rfl ?_ | refine JL.gskip rfl rfl rfl rfl ?_ | refine JL.gskipU rfl rfl rfl rfl ?_)
  refine JC.cond_true rfl rfl ?_
  repeat (first | refine JL.q (by first | (apply OQ.move; exact rfl) | (apply OQ.assign; exact rfl) | (apply OQ.nilc; exact rfl) | (apply OQ.len; exact rfl; exact rfl) | (apply OQ.addN; exact rfl; exact rfl; exact (by (try simp only []); omega)) | (apply OQ.subN; exact rfl; exact rfl; exact (by (try simp only []); omega); exact (by (try simp only []); omega)) | (apply OQ.lssN; exact rfl; exact rfl) | (apply OQ.gtrN; exact rfl; exact rfl) | (apply OQ.fld; exact rfl; exact rfl; exact rfl; exact (by decide); exact rfl)) rfl ?_ | refine JC.seq ?_ | refine JC.region ?_ | refine JC.block ?_ | refine JC.skip ?_ | refine JC.exit ?_ | refine JL.nil ?_ | refine JE.next ?_ | refine JE.blk_normal ?_ | refine JE.then_exit ?_ | refine JE.blk_hit ?_ | refine JE.blk_miss rfl ?_ | refine JE.then_ret ?_ | refine JE.blk_ret ?_ | refine JC.label ?_ | refine JL.gon rfl rfl ?_ | refine JL.gskip rfl rfl rfl rfl ?_ | refine JL.gskipU rfl rfl rfl rfl ?_)
  refine JC.ret ?_
  repeat (first | refine JL.q (by first | (apply OQ.move; exact rfl) | (apply OQ.assign; exact rfl) | (apply OQ.nilc; exact rfl) | (apply OQ.len; exact rfl; exact rfl) | (apply OQ.addN; exact rfl; exact rfl; exact (by (try simp only []); omega)) | (apply OQ.subN; exact rfl; exact rfl; exact (by (try simp only []); omega); exact (by (try simp only []); omega)) | (apply OQ.lssN; exact rfl; exact rfl) | (apply OQ.gtrN; exact rfl; exact rfl) | (apply OQ.fld; exact rfl; exact rfl; exact rfl; exact (by decide); exact rfl)) rfl ?_ | refine JC.seq ?_ | refine JC.region ?_ | refine JC.block ?_ | refine JC.skip ?_ | refine JC.exit ?_ | refine JL.nil ?_ | refine JE.next ?_ | refine JE.blk_normal ?_ | refine JE.then_exit ?_ | refine JE.blk_hit ?_ | refine JE.blk_miss rfl ?_ | refine JE.then_ret ?_ | refine JE.blk_ret ?_ | refine JC.label ?_ | refine JL.gon rfl rfl ?_ | refine JL.gskip rfl rfl rfl rfl ?_ | refine JL.gskipU rfl rfl rfl rfl ?_)
  exact JE.ret1 rfl (RV.tmp rfl) fun w' hw => ⟨rfl, hw.chg⟩
/-- the journal behind one more record, and its disk's blocks -/
def appJ (h : Hf) (l : Bk) : Hf := syH (putH h l.length)
def appD (h : Hf) (bl : List Bk) (l : Bk) : List Bk := putAt bl (h.first + h.used) (blks h.g h.count l)
set_option maxHeartbeats 16000000 in
theorem app_yes (j : Nat) (h : Hf) (bl : List Bk) (pd : List (Nat × Bk)) (s : Sl8) (hd : DkOk h.x bl pd) (hs : h.first + h.size ≤ bl.length) (hc : h.count ≤ h.size) (hp : pd.length ≤ 900000) (hu : h.used ≤ h.size) (hyes : nb s.l.length ≤ h.size - h.used) (w : World) (hok : s.ok w) (hap : Away s (keys (jnE j h bl pd))) (h0 : Holds w (keys (jnE j h bl pd)) (jnE j h bl pd) w) :
    Calls Try.prog 19 [Pt j 0, s.v].toArray w fun e w' => e = .returned (N 0) ∧ Holds w (keys (jnE j h bl pd)) (jnE j (appJ h s.l) (appD h bl s.l) []) w' := by
  have hn1 := hd.n1
  have hl : s.l.length < 4611686018427387904 := by have := nb_le s.l.length; omega
  have cF := fun {u w' : World} {S : List Nat} {M : List Ent} (hw' : Holds u S (jnE j h bl pd ++ M) w') => fits_nat j h s.l.length hu (by omega) hl w' (ro_one hw')
  rw [decide_eq_true hyes] at cF
  generalize hS : keys (jnE j h bl pd) = S at hap h0 ⊢
  refine enter (n := 21) Try.func19 rfl rfl rfl h0 ?_
  repeat (first | refine JL.q (by first | (apply OQ.len (k := s.l.length) (ad := s.ad) (cap := s.cap); exact Try.underlying31; exact rfl) | (apply OQ.callx (vs := [Pt j 0, N s.l.length]); exact goes_fits; exact rfl; exact (fun w' hw' => cF (M := []) (by rw [List.append_nil]; exact hw'))) | (apply OQ.not; exact rfl) | (apply OQ.move; exact rfl) | (apply OQ.assign; exact rfl) | (apply OQ.nilc; exact rfl) | (apply OQ.len; exact rfl; exact rfl) | (apply OQ.addN; exact rfl; exact rfl; exact (by (try simp only []); omega)) | (apply OQ.subN; exact rfl; exact rfl; exact (by (try simp only []); omega); exact (by (try simp only []); omega)) | (apply OQ.lssN; exact rfl; exact rfl) | (apply OQ.gtrN; exact rfl; exact rfl) | (apply OQ.fld; exact rfl; exact rfl; exact rfl; exact (by decide); exact rfl)) rfl ?_ | refine JC.seq ?_ | refine JC.region ?_ | refine JC.block ?_ | refine JC.skip ?_ | refine JC.exit ?_ | refine JL.nil ?_ | refine JE.next ?_ | refine JE.blk_normal ?_ | refine JE.then_exit ?_ | refine JE.blk_hit ?_ | refine JE.blk_miss rfl ?_ | refine JE.then_ret ?_ | refine JE.blk_ret ?_ | refine JC.label ?_ | refine JL.gon rfl rfl ?_ | refine JL.gskip rfl rfl rfl rfl ?_ | refine JL.gskipU rfl rfl rfl rfl ?_)
  refine JC.cond_false rfl rfl ?_
  repeat (first | refine JL.q (by first | (apply OQ.move; exact rfl) | (apply OQ.assign; exact rfl) | (apply OQ.nilc; exact rfl) | (apply OQ.len; exact rfl; exact rfl) | (apply OQ.addN; exact rfl; exact rfl; exact (by (try simp only []); omega)) | (apply OQ.subN; exact rfl; exact rfl; exact (by (try simp only []); omega); exact (by (try simp only []); omega)) | (apply OQ.lssN; exact rfl; exact rfl) | (apply OQ.gtrN; exact rfl; exact rfl) | (apply OQ.fld; exact rfl; exact rfl; exact rfl; exact (by decide); exact rfl)) rfl ?_ | refine JC.seq ?_ | refine JC.region ?_ | refine JC.block ?_ | refine JC.skip ?_ | refine JC.exit ?_ | refine JL.nil ?_ | refine JE.next ?_ | refine JE.blk_normal ?_ | refine JE.then_exit ?_ | refine JE.blk_hit ?_ | refine JE.blk_miss rfl ?_ | refine JE.then_ret ?_ | refine JE.blk_ret ?_ | refine JC.label ?_ | refine JL.gon rfl rfl ?_ | refine JL.gskip rfl rfl rfl rfl ?_ | refine JL.gskipU rfl rfl rfl rfl ?_)
  refine JL.perm ?_ (List.Perm.of_eq (List.append_nil _).symm)
  refine JL.callV (ι := Dw h.x (appD h bl s.l) (pd.length + nb s.l.length)) (vs := [Pt j 0, s.v]) (fun _ => .tuple #[]) (fun z => z.J j (putH h s.l.length)) goes_put rfl rfl (jnE_wr _ _ _ _) (fun z => z.Jwr _ _) (fun w' hw' hx' => put_any j h bl pd s hd hs (by omega) hc (by omega) w' (hok.away hw' hap) (away_mid hw' (jnE_wr _ _ _ _) hok hap) hx') fun z => ?_
  rw [List.append_nil]
  repeat (first | refine JL.q (by first | (apply OQ.load; exact jbC; exact rfl; exact .here; exact (Row.cell (v := ifD h.x) rfl)) | (apply OQ.move; exact rfl) | (apply OQ.assign; exact rfl) | (apply OQ.nilc; exact rfl) | (apply OQ.len; exact rfl; exact rfl) | (apply OQ.addN; exact rfl; exact rfl; exact (by (try simp only []); omega)) | (apply OQ.subN; exact rfl; exact rfl; exact (by (try simp only []); omega); exact (by (try simp only []); omega)) | (apply OQ.lssN; exact rfl; exact rfl) | (apply OQ.gtrN; exact rfl; exact rfl) | (apply OQ.fld; exact rfl; exact rfl; exact rfl; exact (by decide); exact rfl)) rfl ?_ | refine JC.seq ?_ | refine JC.region ?_ | refine JC.block ?_ | refine JC.skip ?_ | refine JC.exit ?_ | refine JL.nil ?_ | refine JE.next ?_ | refine JE.blk_normal ?_ | refine JE.then_exit ?_ | refine JE.blk_hit ?_ | refine JE.blk_miss rfl ?_ | refine JE.then_ret ?_ | refine JE.blk_ret ?_ | refine JC.label ?_ | refine JL.gon rfl rfl ?_ | refine JL.gskip rfl rfl rfl rfl ?_ | refine JL.gskipU rfl rfl rfl rfl ?_)
  refine JL.perm (M' := dkE ⟨h.x.p, h.x.q, h.x.cap, z.a⟩ (appD h bl s.l) z.pd ++ [⟨j, Row 98 (hfc (putH h s.l.length)), true⟩]) ?_ (by exact List.perm_append_comm (l₁ := [_]))
  refine JL.isync rfl rfl ?_
  repeat (first | refine JL.q (by first | (apply OQ.move; exact rfl) | (apply OQ.assign; exact rfl) | (apply OQ.nilc; exact rfl) | (apply OQ.len; exact rfl; exact rfl) | (apply OQ.addN; exact rfl; exact rfl; exact (by (try simp only []); omega)) | (apply OQ.subN; exact rfl; exact rfl; exact (by (try simp only []); omega); exact (by (try simp only []); omega)) | (apply OQ.lssN; exact rfl; exact rfl) | (apply OQ.gtrN; exact rfl; exact rfl) | (apply OQ.fld; exact rfl; exact rfl; exact rfl; exact (by decide); exact rfl)) rfl ?_ | refine JC.seq ?_ | refine JC.region ?_ | refine JC.block ?_ | refine JC.skip ?_ | refine JC.exit ?_ | refine JL.nil ?_ | refine JE.next ?_ | refine JE.blk_normal ?_ | refine JE.then_exit ?_ | refine JE.blk_hit ?_ | refine JE.blk_miss rfl ?_ | refine JE.then_ret ?_ | refine JE.blk_ret ?_ | refine JC.label ?_ | refine JL.gon rfl rfl ?_ | refine JL.gskip rfl rfl rfl rfl ?_ | refine JL.gskipU rfl rfl rfl rfl ?_)
  refine JC.ret ?_
  repeat (first | refine JL.q (by first | (apply OQ.move; exact rfl) | (apply OQ.assign; exact rfl) | (apply OQ.nilc; exact rfl) | (apply OQ.len; exact rfl; exact rfl) | (apply OQ.addN; exact rfl; exact rfl; exact (by (try simp only []); omega)) | (apply OQ.subN; exact rfl; exact rfl; exact (by (try simp only []); omega); exact (by (try simp only []); omega)) | (apply OQ.lssN; exact rfl; exact rfl) | (apply OQ.gtrN; exact rfl; exact rfl) | (apply OQ.fld; exact rfl; exact rfl; exact rfl; exact (by decide); exact rfl)) rfl ?_ | refine JC.seq ?_ | refine JC.region ?_ | refine JC.block ?_ | refine JC.skip ?_ | refine JC.exit ?_ | refine JL.nil ?_ | refine JE.next ?_ | refine JE.blk_normal ?_ | refine JE.then_exit ?_ | refine JE.blk_hit ?_ | refine JE.blk_miss rfl ?_ | refine JE.then_ret ?_ | refine JE.blk_ret ?_ | refine JC.label ?_ | refine JL.gon rfl rfl ?_ | refine JL.gskip rfl rfl rfl rfl ?_ | refine JL.gskipU rfl rfl rfl rfl ?_)
  exact JE.ret1 rfl (RV.tmp rfl) fun w' hw => ⟨rfl, hw.perm' (by exact List.perm_append_comm (l₂ := [_]))⟩
/-- why a journal doesn't begin anew -/
def noRst (h : Hf) (bl : List Bk) (n : Nat) : Prop := h.size < nb n ∨ gm bl = 4294967295#32
def rstH (h : Hf) : Hf := ⟨h.x, h.size - h.first, h.size, 0, 0, 0⟩
def rstJ (h : Hf) (bl : List Bk) (l : Bk) : Hf := syH (begH (rstH h) (gm bl + 1#32) [l])
def rstD (h : Hf) (bl : List Bk) (l : Bk) : List Bk := putAt bl (h.size - h.first) (allB (gm bl + 1#32) 0 [l])
set_option maxHeartbeats 16000000 in
theorem rst_no (j : Nat) (h : Hf) (bl : List Bk) (pd : List (Nat × Bk)) (s : Sl8) (ok : Ok bl pd) (hn : bl.length ≤ 65536) (hb : h.size ≤ 65536) (hl : s.l.length < 4611686018427387904) (hno : noRst h bl s.l.length) (w : World) (h0 : Holds w [] (jnR j h bl pd) w) :
    Calls Try.prog 22 [Pt j 0, s.v].toArray w fun e w' => e = .returned (N 6) ∧ Ext w w' := by
  refine enter (n := 43) Try.func22 rfl rfl rfl h0 ?_
  repeat (first | refine JL.q (by first | (apply OQ.move; exact rfl) | (apply OQ.assign; exact rfl) | (apply OQ.nilc; exact rfl) | (apply OQ.len; exact rfl; exact rfl) | (apply OQ.addN; exact rfl; exact rfl; exact (by (try simp only []); omega)) | (apply OQ.subN; exact rfl; exact rfl; exact (by (try simp only []); omega); exact (by (try simp only []); omega)) | (apply OQ.lssN; exact rfl; exact rfl) | (apply OQ.gtrN; exact rfl; exact rfl) | (apply OQ.fld; exact rfl; exact rfl; exact rfl; exact (by decide); exact rfl)) rfl ?_ | refine JC.seq ?_ | refine JC.region ?_ | refine JC.block ?_ | refine JC.skip ?_ | refine JC.exit ?_ | refine JL.nil ?_ | refine JE.next ?_ | refine JE.blk_normal ?_ | refine JE.then_exit ?_ | refine JE.blk_hit ?_ | refine JE.blk_miss rfl ?_ | refine JE.then_ret ?_ | refine JE.blk_ret ?_ | refine JC.label ?_ | refine JL.gon rfl rfl ?_ | refine JL.gskip rfl rfl rfl rfl ?_ | refine JL.gskipU rfl rfl rfl rfl ?_)
  refine JC.quiet mixT (by kernel_rfl) ?_
  cases c1 : decide ((h.size : Int) < (nb s.l.length : Nat))
  case true =>
    repeat (first | refine JL.q (by first | (apply OQ.len (k := s.l.length) (ad := s.ad) (cap := s.cap); exact Try.underlying31; exact rfl) | (apply OQ.callx (vs := [N s.l.length]); exact goes_bfor; exact rfl; exact (fun w' _ => bfor_any s.l.length hl w')) | (apply OQ.load; exact intC; exact rfl; exact .here; exact (Row.cell (v := N h.size) rfl)) | (apply OQ.gtrB; exact rfl; exact rfl; exact c1) | (apply OQ.move; exact rfl) | (apply OQ.assign; exact rfl) | (apply OQ.nilc; exact rfl) | (apply OQ.len; exact rfl; exact rfl) | (apply OQ.addN; exact rfl; exact rfl; exact (by (try simp only []); omega)) | (apply OQ.subN; exact rfl; exact rfl; exact (by (try simp only []); omega); exact (by (try simp only []); omega)) | (apply OQ.lssN; exact rfl; exact rfl) | (apply OQ.gtrN; exact rfl; exact rfl) | (apply OQ.fld; exact rfl; exact rfl; exact rfl; exact (by decide); exact rfl)) rfl ?_ | refine JQ.q (by first | (apply OQ.len (k := s.l.length) (ad := s.ad) (cap := s.cap); exact Try.underlying31; exact rfl) | (apply OQ.callx (vs := [N s.l.length]); exact goes_bfor; exact rfl; exact (fun w' _ => bfor_any s.l.length hl w')) | (apply OQ.load; exact intC; exact rfl; exact .here; exact (Row.cell (v := N h.size) rfl)) | (apply OQ.gtrB; exact rfl; exact rfl; exact c1) | (apply OQ.move; exact rfl) | (apply OQ.assign; exact rfl) | (apply OQ.nilc; exact rfl) | (apply OQ.len; exact rfl; exact rfl) | (apply OQ.addN; exact rfl; exact rfl; exact (by (try simp only []); omega)) | (apply OQ.subN; exact rfl; exact rfl; exact (by (try simp only []); omega); exact (by (try simp only []); omega)) | (apply OQ.lssN; exact rfl; exact rfl) | (apply OQ.gtrN; exact rfl; exact rfl) | (apply OQ.fld; exact rfl; exact rfl; exact rfl; exact (by decide); exact rfl)) rfl ?_ | refine JC.seq ?_ | refine JC.region ?_ | refine JC.block ?_ | refine JC.skip ?_ | refine JC.exit ?_ | refine JL.nil ?_ | refine JQ.nil ?_ | refine JQ.nil_tail ?_ | refine JE.next ?_ | refine JE.blk_normal ?_ | refine JE.then_exit ?_ | refine JE.blk_hit ?_ | refine JE.blk_miss rfl ?_ | refine JE.then_ret ?_ | refine JE.blk_ret ?_ | refine JC.label ?_ | refine JL.gon rfl rfl ?_ | refine JQ.gon rfl rfl ?_ | refine JL.gskip rfl rfl rfl rfl ?_ | refine JQ.gskip rfl rfl rfl rfl ?_ | refine JL.gskipU rfl rfl rfl rfl ?_ | refine JQ.gskipU rfl rfl rfl rfl ?_)
    refine JC.cond_true rfl rfl ?_
    repeat (first | refine JL.q (by first | (apply OQ.move; exact rfl) | (apply OQ.assign; exact rfl) | (apply OQ.nilc; exact rfl) | (apply OQ.len; exact rfl; exact rfl) | (apply OQ.addN; exact rfl; exact rfl; exact (by (try simp only []); omega)) | (apply OQ.subN; exact rfl; exact rfl; exact (by (try simp only []); omega); exact (by (try simp only []); omega)) | (apply OQ.lssN; exact rfl; exact rfl) | (apply OQ.gtrN; exact rfl; exact rfl) | (apply OQ.fld; exact rfl; exact rfl; exact rfl; exact (by decide); exact rfl)) rfl ?_ | refine JQ.q (by first | (apply OQ.move; exact rfl) | (apply OQ.assign; exact rfl) | (apply OQ.nilc; exact rfl) | (apply OQ.len; exact rfl; exact rfl) | (apply OQ.addN; exact rfl; exact rfl; exact (by (try simp only []); omega)) | (apply OQ.subN; exact rfl; exact rfl; exact (by (try simp only []); omega); exact (by (try simp only []); omega)) | (apply OQ.lssN; exact rfl; exact rfl) | (apply OQ.gtrN; exact rfl; exact rfl) | (apply OQ.fld; exact rfl; exact rfl; exact rfl; exact (by decide); exact rfl)) rfl ?_ | refine JC.seq ?_ | refine JC.region ?_ | refine JC.block ?_ | refine JC.skip ?_ | refine JC.exit ?_ | refine JL.nil ?_ | refine JQ.nil ?_ | refine JQ.nil_tail ?_ | refine JE.next ?_ | refine JE.blk_normal ?_ | refine JE.then_exit ?_ | refine JE.blk_hit ?_ | refine JE.blk_miss rfl ?_ | refine JE.then_ret ?_ | refine JE.blk_ret ?_ | refine JC.label ?_ | refine JL.gon rfl rfl ?_ | refine JQ.gon rfl rfl ?_ | refine JL.gskip rfl rfl rfl rfl ?_ | refine JQ.gskip rfl rfl rfl rfl ?_ | refine JL.gskipU rfl rfl rfl rfl ?_ | refine JQ.gskipU rfl rfl rfl rfl ?_)
    refine JC.ret ?_
    repeat (first | refine JL.q (by first | (apply OQ.move; exact rfl) | (apply OQ.assign; exact rfl) | (apply OQ.nilc; exact rfl) | (apply OQ.len; exact rfl; exact rfl) | (apply OQ.addN; exact rfl; exact rfl; exact (by (try simp only []); omega)) | (apply OQ.subN; exact rfl; exact rfl; exact (by (try simp only []); omega); exact (by (try simp only []); omega)) | (apply OQ.lssN; exact rfl; exact rfl) | (apply OQ.gtrN; exact rfl; exact rfl) | (apply OQ.fld; exact rfl; exact rfl; exact rfl; exact (by decide); exact rfl)) rfl ?_ | refine JQ.q (by first | (apply OQ.move; exact rfl) | (apply OQ.assign; exact rfl) | (apply OQ.nilc; exact rfl) | (apply OQ.len; exact rfl; exact rfl) | (apply OQ.addN; exact rfl; exact rfl; exact (by (try simp only []); omega)) | (apply OQ.subN; exact rfl; exact rfl; exact (by (try simp only []); omega); exact (by (try simp only []); omega)) | (apply OQ.lssN; exact rfl; exact rfl) | (apply OQ.gtrN; exact rfl; exact rfl) | (apply OQ.fld; exact rfl; exact rfl; exact rfl; exact (by decide); exact rfl)) rfl ?_ | refine JC.seq ?_ | refine JC.region ?_ | refine JC.block ?_ | refine JC.skip ?_ | refine JC.exit ?_ | refine JL.nil ?_ | refine JQ.nil ?_ | refine JQ.nil_tail ?_ | refine JE.next ?_ | refine JE.blk_normal ?_ | refine JE.then_exit ?_ | refine JE.blk_hit ?_ | refine JE.blk_miss rfl ?_ | refine JE.then_ret ?_ | refine JE.blk_ret ?_ | refine JC.label ?_ | refine JL.gon rfl rfl ?_ | refine JQ.gon rfl rfl ?_ | refine JL.gskip rfl rfl rfl rfl ?_ | refine JQ.gskip rfl rfl rfl rfl ?_ | refine JL.gskipU rfl rfl rfl rfl ?_ | refine JQ.gskipU rfl rfl rfl rfl ?_)
    exact JE.ret1 rfl (RV.tmp rfl) fun w' hw => ⟨rfl, hw.chg⟩
  case false =>
    have hg : gm bl = 4294967295#32 := by
      rcases hno with h | h
      · exact absurd (by exact_mod_cast h) (of_decide_eq_false c1)
      · exact h
    have eG : newG bl = .tuple #[U32 0, N 6] := by unfold newG; rw [if_pos hg]
    have cN := fun {u w' : World} {S : List Nat} {M : List Ent} (hw' : Holds u S (jnR j h bl pd ++ M) w') => newGen_any h.x bl pd ok hn w' (dkR_jr hw')
    rw [eG] at cN
    repeat (first | refine JL.q (by first | (apply OQ.len (k := s.l.length) (ad := s.ad) (cap := s.cap); exact Try.underlying31; exact rfl) | (apply OQ.callx (vs := [N s.l.length]); exact goes_bfor; exact rfl; exact (fun w' _ => bfor_any s.l.length hl w')) | (apply OQ.load; exact intC; exact rfl; exact .here; exact (Row.cell (v := N h.size) rfl)) | (apply OQ.gtrB; exact rfl; exact rfl; exact c1) | (apply OQ.move; exact rfl) | (apply OQ.assign; exact rfl) | (apply OQ.nilc; exact rfl) | (apply OQ.len; exact rfl; exact rfl) | (apply OQ.addN; exact rfl; exact rfl; exact (by (try simp only []); omega)) | (apply OQ.subN; exact rfl; exact rfl; exact (by (try simp only []); omega); exact (by (try simp only []); omega)) | (apply OQ.lssN; exact rfl; exact rfl) | (apply OQ.gtrN; exact rfl; exact rfl) | (apply OQ.fld; exact rfl; exact rfl; exact rfl; exact (by decide); exact rfl)) rfl ?_ | refine JQ.q (by first | (apply OQ.len (k := s.l.length) (ad := s.ad) (cap := s.cap); exact Try.underlying31; exact rfl) | (apply OQ.callx (vs := [N s.l.length]); exact goes_bfor; exact rfl; exact (fun w' _ => bfor_any s.l.length hl w')) | (apply OQ.load; exact intC; exact rfl; exact .here; exact (Row.cell (v := N h.size) rfl)) | (apply OQ.gtrB; exact rfl; exact rfl; exact c1) | (apply OQ.move; exact rfl) | (apply OQ.assign; exact rfl) | (apply OQ.nilc; exact rfl) | (apply OQ.len; exact rfl; exact rfl) | (apply OQ.addN; exact rfl; exact rfl; exact (by (try simp only []); omega)) | (apply OQ.subN; exact rfl; exact rfl; exact (by (try simp only []); omega); exact (by (try simp only []); omega)) | (apply OQ.lssN; exact rfl; exact rfl) | (apply OQ.gtrN; exact rfl; exact rfl) | (apply OQ.fld; exact rfl; exact rfl; exact rfl; exact (by decide); exact rfl)) rfl ?_ | refine JC.seq ?_ | refine JC.region ?_ | refine JC.block ?_ | refine JC.skip ?_ | refine JC.exit ?_ | refine JL.nil ?_ | refine JQ.nil ?_ | refine JQ.nil_tail ?_ | refine JE.next ?_ | refine JE.blk_normal ?_ | refine JE.then_exit ?_ | refine JE.blk_hit ?_ | refine JE.blk_miss rfl ?_ | refine JE.then_ret ?_ | refine JE.blk_ret ?_ | refine JC.label ?_ | refine JL.gon rfl rfl ?_ | refine JQ.gon rfl rfl ?_ | refine JL.gskip rfl rfl rfl rfl ?_ | refine JQ.gskip rfl rfl rfl rfl ?_ | refine JL.gskipU rfl rfl rfl rfl ?_ | refine JQ.gskipU rfl rfl rfl rfl ?_)
    refine JC.cond_false rfl rfl ?_
    repeat (first | refine JL.q (by first | (apply OQ.load; exact jbC; exact rfl; exact .here; exact (Row.cell (v := ifD h.x) rfl)) | (apply OQ.callx (vs := [ifD h.x]); exact goes_newGen; exact rfl; exact (fun w' hw' => cN (M := []) (by rw [List.append_nil]; exact hw'))) | (apply OQ.extract; exact rfl; exact rfl) | (apply OQ.neB (a := 6) (b := 0) (c := false); exact rfl; exact rfl; exact rfl) | (apply OQ.move; exact rfl) | (apply OQ.assign; exact rfl) | (apply OQ.nilc; exact rfl) | (apply OQ.len; exact rfl; exact rfl) | (apply OQ.addN; exact rfl; exact rfl; exact (by (try simp only []); omega)) | (apply OQ.subN; exact rfl; exact rfl; exact (by (try simp only []); omega); exact (by (try simp only []); omega)) | (apply OQ.lssN; exact rfl; exact rfl) | (apply OQ.gtrN; exact rfl; exact rfl) | (apply OQ.fld; exact rfl; exact rfl; exact rfl; exact (by decide); exact rfl)) rfl ?_ | refine JQ.q (by first | (apply OQ.load; exact jbC; exact rfl; exact .here; exact (Row.cell (v := ifD h.x) rfl)) | (apply OQ.callx (vs := [ifD h.x]); exact goes_newGen; exact rfl; exact (fun w' hw' => cN (M := []) (by rw [List.append_nil]; exact hw'))) | (apply OQ.extract; exact rfl; exact rfl) | (apply OQ.neB (a := 6) (b := 0) (c := false); exact rfl; exact rfl; exact rfl) | (apply OQ.move; exact rfl) | (apply OQ.assign; exact rfl) | (apply OQ.nilc; exact rfl) | (apply OQ.len; exact rfl; exact rfl) | (apply OQ.addN; exact rfl; exact rfl; exact (by (try simp only []); omega)) | (apply OQ.subN; exact rfl; exact rfl; exact (by (try simp only []); omega); exact (by (try simp only []); omega)) | (apply OQ.lssN; exact rfl; exact rfl) | (apply OQ.gtrN; exact rfl; exact rfl) | (apply OQ.fld; exact rfl; exact rfl; exact rfl; exact (by decide); exact rfl)) rfl ?_ | refine JC.seq ?_ | refine JC.region ?_ | refine JC.block ?_ | refine JC.skip ?_ | refine JC.exit ?_ | refine JL.nil ?_ | refine JQ.nil ?_ | refine JQ.nil_tail ?_ | refine JE.next ?_ | refine JE.blk_normal ?_ | refine JE.then_exit ?_ | refine JE.blk_hit ?_ | refine JE.blk_miss rfl ?_ | refine JE.then_ret ?_ | refine JE.blk_ret ?_ | refine JC.label ?_ | refine JL.gon rfl rfl ?_ | refine JQ.gon rfl rfl ?_ | refine JL.gskip rfl rfl rfl rfl ?_ | refine JQ.gskip rfl rfl rfl rfl ?_ | refine JL.gskipU rfl rfl rfl rfl ?_ | refine JQ.gskipU rfl rfl rfl rfl ?_)
    refine JC.cond_true rfl rfl ?_
    repeat (first | refine JL.q (by first | (apply OQ.move; exact rfl) | (apply OQ.assign; exact rfl) | (apply OQ.nilc; exact rfl) | (apply OQ.len; exact rfl; exact rfl) | (apply OQ.addN; exact rfl; exact rfl; exact (by (try simp only []); omega)) | (apply OQ.subN; exact rfl; exact rfl; exact (by (try simp only []); omega); exact (by (try simp only []); omega)) | (apply OQ.lssN; exact rfl; exact rfl) | (apply OQ.gtrN; exact rfl; exact rfl) | (apply OQ.fld; exact rfl; exact rfl; exact rfl; exact (by decide); exact rfl)) rfl ?_ | refine JQ.q (by first | (apply OQ.move; exact rfl) | (apply OQ.assign; exact rfl) | (apply OQ.nilc; exact rfl) | (apply OQ.len; exact rfl; exact rfl) | (apply OQ.addN; exact rfl; exact rfl; exact (by (try simp only []); omega)) | (apply OQ.subN; exact rfl; exact rfl; exact (by (try simp only []); omega); exact (by (try simp only []); omega)) | (apply OQ.lssN; exact rfl; exact rfl) | (apply OQ.gtrN; exact rfl; exact rfl) | (apply OQ.fld; exact rfl; exact rfl; exact rfl; exact (by decide); exact rfl)) rfl ?_ | refine JC.seq ?_ | refine JC.region ?_ | refine JC.block ?_ | refine JC.skip ?_ | refine JC.exit ?_ | refine JL.nil ?_ | refine JQ.nil ?_ | refine JQ.nil_tail ?_ | refine JE.next ?_ | refine JE.blk_normal ?_ | refine JE.then_exit ?_ | refine JE.blk_hit ?_ | refine JE.blk_miss rfl ?_ | refine JE.then_ret ?_ | refine JE.blk_ret ?_ | refine JC.label ?_ | refine JL.gon rfl rfl ?_ | refine JQ.gon rfl rfl ?_ | refine JL.gskip rfl rfl rfl rfl ?_ | refine JQ.gskip rfl rfl rfl rfl ?_ | refine JL.gskipU rfl rfl rfl rfl ?_ | refine JQ.gskipU rfl rfl rfl rfl ?_)
    refine JC.ret ?_
    repeat (first | refine JL.q (by first | (apply OQ.move; exact rfl) | (apply OQ.assign; exact rfl) | (apply OQ.nilc; exact rfl) | (apply OQ.len; exact rfl; exact rfl) | (apply OQ.addN; exact rfl; exact rfl; exact (by (try simp only []); omega)) | (apply OQ.subN; exact rfl; exact rfl; exact (by (try simp only []); omega); exact (by (try simp only []); omega)) | (apply OQ.lssN; exact rfl; exact rfl) | (apply OQ.gtrN; exact rfl; exact rfl) | (apply OQ.fld; exact rfl; exact rfl; exact rfl; exact (by decide); exact rfl)) rfl ?_ | refine JQ.q (by first | (apply OQ.move; exact rfl) | (apply OQ.assign; exact rfl) | (apply OQ.nilc; exact rfl) | (apply OQ.len; exact rfl; exact rfl) | (apply OQ.addN; exact rfl; exact rfl; exact (by (try simp only []); omega)) | (apply OQ.subN; exact rfl; exact rfl; exact (by (try simp only []); omega); exact (by (try simp only []); omega)) | (apply OQ.lssN; exact rfl; exact rfl) | (apply OQ.gtrN; exact rfl; exact rfl) | (apply OQ.fld; exact rfl; exact rfl; exact rfl; exact (by decide); exact rfl)) rfl ?_ | refine JC.seq ?_ | refine JC.region ?_ | refine JC.block ?_ | refine JC.skip ?_ | refine JC.exit ?_ | refine JL.nil ?_ | refine JQ.nil ?_ | refine JQ.nil_tail ?_ | refine JE.next ?_ | refine JE.blk_normal ?_ | refine JE.then_exit ?_ | refine JE.blk_hit ?_ | refine JE.blk_miss rfl ?_ | refine JE.then_ret ?_ | refine JE.blk_ret ?_ | refine JC.label ?_ | refine JL.gon rfl rfl ?_ | refine JQ.gon rfl rfl ?_ | refine JL.gskip rfl rfl rfl rfl ?_ | refine JQ.gskip rfl rfl rfl rfl ?_ | refine JL.gskipU rfl rfl rfl rfl ?_ | refine JQ.gskipU rfl rfl rfl rfl ?_)
    exact JE.ret1 rfl (RV.tmp rfl) fun w' hw => ⟨rfl, hw.chg⟩
set_option maxHeartbeats 32000000 in
theorem rst_yes (j : Nat) (h : Hf) (bl : List Bk) (pd : List (Nat × Bk)) (s : Sl8) (hd : DkOk h.x bl pd) (hs : h.size + h.size ≤ bl.length) (hf : h.first ≤ h.size) (hp : pd.length ≤ 900000) (hyes : ¬ noRst h bl s.l.length) (w : World) (hok : s.ok w) (hap : Away s (keys (jnE j h bl pd))) (h0 : Holds w (keys (jnE j h bl pd)) (jnE j h bl pd) w) :
    Calls Try.prog 22 [Pt j 0, s.v].toArray w fun e w' => e = .returned (N 0) ∧ Holds w (keys (jnE j h bl pd)) (jnE j (rstJ h bl s.l) (rstD h bl s.l) []) w' := by
  have hn1 := hd.n1
  have hfit : nb s.l.length ≤ h.size := Nat.le_of_not_lt fun e => hyes (.inl e)
  have hg : ¬ gm bl = 4294967295#32 := fun e => hyes (.inr e)
  have hl : s.l.length < 4611686018427387904 := by have := nb_le s.l.length; omega
  have eG : newG bl = .tuple #[U32 (gm bl + 1#32), N 0] := by unfold newG; rw [if_neg hg]
  have cN := fun {u w' : World} {S : List Nat} {M : List Ent} (hw' : Holds u S (jnE j h bl pd ++ M) w') => newGen_any h.x bl pd hd.ok hn1 w' (dkR_jn hw')
  rw [eG] at cN
  have cO := fun w' => other_any h hf (by omega) w'
  have c1 : decide ((h.size : Int) < (nb s.l.length : Nat)) = false := decide_eq_false (by omega)
  generalize hS : keys (jnE j h bl pd) = S at hap h0 ⊢
  refine enter (n := 43) Try.func22 rfl rfl rfl h0 ?_
  repeat (first | refine JL.q (by first | (apply OQ.move; exact rfl) | (apply OQ.assign; exact rfl) | (apply OQ.nilc; exact rfl) | (apply OQ.len; exact rfl; exact rfl) | (apply OQ.addN; exact rfl; exact rfl; exact (by (try simp only []); omega)) | (apply OQ.subN; exact rfl; exact rfl; exact (by (try simp only []); omega); exact (by (try simp only []); omega)) | (apply OQ.lssN; exact rfl; exact rfl) | (apply OQ.gtrN; exact rfl; exact rfl) | (apply OQ.fld; exact rfl; exact rfl; exact rfl; exact (by decide); exact rfl)) rfl ?_ | refine JC.seq ?_ | refine JC.region ?_ | refine JC.block ?_ | refine JC.skip ?_ | refine JC.exit ?_ | refine JL.nil ?_ | refine JE.next ?_ | refine JE.blk_normal ?_ | refine JE.then_exit ?_ | refine JE.blk_hit ?_ | refine JE.blk_miss rfl ?_ | refine JE.then_ret ?_ | refine JE.blk_ret ?_ | refine JC.label ?_ | refine JL.gon rfl rfl ?_ | refine JL.gskip rfl rfl rfl rfl ?_ | refine JL.gskipU rfl rfl rfl rfl ?_)
  refine JC.quiet mixT (by kernel_rfl) ?_
  repeat (first | refine JL.q (by first | (apply OQ.len (k := s.l.length) (ad := s.ad) (cap := s.cap); exact Try.underlying31; exact rfl) | (apply OQ.callx (vs := [N s.l.length]); exact goes_bfor; exact rfl; exact (fun w' _ => bfor_any s.l.length hl w')) | (apply OQ.load; exact intC; exact rfl; exact .here; exact (Row.cell (v := N h.size) rfl)) | (apply OQ.gtrB; exact rfl; exact rfl; exact c1) | (apply OQ.move; exact rfl) | (apply OQ.assign; exact rfl) | (apply OQ.nilc; exact rfl) | (apply OQ.len; exact rfl; exact rfl) | (apply OQ.addN; exact rfl; exact rfl; exact (by (try simp only []); omega)) | (apply OQ.subN; exact rfl; exact rfl; exact (by (try simp only []); omega); exact (by (try simp only []); omega)) | (apply OQ.lssN; exact rfl; exact rfl) | (apply OQ.gtrN; exact rfl; exact rfl) | (apply OQ.fld; exact rfl; exact rfl; exact rfl; exact (by decide); exact rfl)) rfl ?_ | refine JQ.q (by first | (apply OQ.len (k := s.l.length) (ad := s.ad) (cap := s.cap); exact Try.underlying31; exact rfl) | (apply OQ.callx (vs := [N s.l.length]); exact goes_bfor; exact rfl; exact (fun w' _ => bfor_any s.l.length hl w')) | (apply OQ.load; exact intC; exact rfl; exact .here; exact (Row.cell (v := N h.size) rfl)) | (apply OQ.gtrB; exact rfl; exact rfl; exact c1) | (apply OQ.move; exact rfl) | (apply OQ.assign; exact rfl) | (apply OQ.nilc; exact rfl) | (apply OQ.len; exact rfl; exact rfl) | (apply OQ.addN; exact rfl; exact rfl; exact (by (try simp only []); omega)) | (apply OQ.subN; exact rfl; exact rfl; exact (by (try simp only []); omega); exact (by (try simp only []); omega)) | (apply OQ.lssN; exact rfl; exact rfl) | (apply OQ.gtrN; exact rfl; exact rfl) | (apply OQ.fld; exact rfl; exact rfl; exact rfl; exact (by decide); exact rfl)) rfl ?_ | refine JC.seq ?_ | refine JC.region ?_ | refine JC.block ?_ | refine JC.skip ?_ | refine JC.exit ?_ | refine JL.nil ?_ | refine JQ.nil ?_ | refine JQ.nil_tail ?_ | refine JE.next ?_ | refine JE.blk_normal ?_ | refine JE.then_exit ?_ | refine JE.blk_hit ?_ | refine JE.blk_miss rfl ?_ | refine JE.then_ret ?_ | refine JE.blk_ret ?_ | refine JC.label ?_ | refine JL.gon rfl rfl ?_ | refine JQ.gon rfl rfl ?_ | refine JL.gskip rfl rfl rfl rfl ?_ | refine JQ.gskip rfl rfl rfl rfl ?_ | refine JL.gskipU rfl rfl rfl rfl ?_ | refine JQ.gskipU rfl rfl rfl rfl ?_)
  refine JC.cond_false rfl rfl ?_
  repeat (first | refine JL.q (by first | (apply OQ.load; exact jbC; exact rfl; exact .here; exact (Row.cell (v := ifD h.x) rfl)) | (apply OQ.callx (vs := [ifD h.x]); exact goes_newGen; exact rfl; exact (fun w' hw' => cN (M := []) (by rw [List.append_nil]; exact hw'))) | (apply OQ.extract; exact rfl; exact rfl) | (apply OQ.neB (a := 0) (b := 0) (c := true); exact rfl; exact rfl; exact rfl) | (apply OQ.move; exact rfl) | (apply OQ.assign; exact rfl) | (apply OQ.nilc; exact rfl) | (apply OQ.len; exact rfl; exact rfl) | (apply OQ.addN; exact rfl; exact rfl; exact (by (try simp only []); omega)) | (apply OQ.subN; exact rfl; exact rfl; exact (by (try simp only []); omega); exact (by (try simp only []); omega)) | (apply OQ.lssN; exact rfl; exact rfl) | (apply OQ.gtrN; exact rfl; exact rfl) | (apply OQ.fld; exact rfl; exact rfl; exact rfl; exact (by decide); exact rfl)) rfl ?_ | refine JQ.q (by first | (apply OQ.load; exact jbC; exact rfl; exact .here; exact (Row.cell (v := ifD h.x) rfl)) | (apply OQ.callx (vs := [ifD h.x]); exact goes_newGen; exact rfl; exact (fun w' hw' => cN (M := []) (by rw [List.append_nil]; exact hw'))) | (apply OQ.extract; exact rfl; exact rfl) | (apply OQ.neB (a := 0) (b := 0) (c := true); exact rfl; exact rfl; exact rfl) | (apply OQ.move; exact rfl) | (apply OQ.assign; exact rfl) | (apply OQ.nilc; exact rfl) | (apply OQ.len; exact rfl; exact rfl) | (apply OQ.addN; exact rfl; exact rfl; exact (by (try simp only []); omega)) | (apply OQ.subN; exact rfl; exact rfl; exact (by (try simp only []); omega); exact (by (try simp only []); omega)) | (apply OQ.lssN; exact rfl; exact rfl) | (apply OQ.gtrN; exact rfl; exact rfl) | (apply OQ.fld; exact rfl; exact rfl; exact rfl; exact (by decide); exact rfl)) rfl ?_ | refine JC.seq ?_ | refine JC.region ?_ | refine JC.block ?_ | refine JC.skip ?_ | refine JC.exit ?_ | refine JL.nil ?_ | refine JQ.nil ?_ | refine JQ.nil_tail ?_ | refine JE.next ?_ | refine JE.blk_normal ?_ | refine JE.then_exit ?_ | refine JE.blk_hit ?_ | refine JE.blk_miss rfl ?_ | refine JE.then_ret ?_ | refine JE.blk_ret ?_ | refine JC.label ?_ | refine JL.gon rfl rfl ?_ | refine JQ.gon rfl rfl ?_ | refine JL.gskip rfl rfl rfl rfl ?_ | refine JQ.gskip rfl rfl rfl rfl ?_ | refine JL.gskipU rfl rfl rfl rfl ?_ | refine JQ.gskipU rfl rfl rfl rfl ?_)
  refine JC.cond_false rfl rfl ?_
  repeat (first | refine JL.q (by first | (apply OQ.load_agg (cs := hfc h); exact hfAg; exact hf6; exact rfl; exact .here; exact rfl; exact Row.all) | (apply OQ.callx (vs := [.agg (hfc h).toArray]); exact goes_other; exact rfl; exact (fun w' _ => cO w')) | (apply OQ.move; exact rfl) | (apply OQ.assign; exact rfl) | (apply OQ.nilc; exact rfl) | (apply OQ.len; exact rfl; exact rfl) | (apply OQ.addN; exact rfl; exact rfl; exact (by (try simp only []); omega)) | (apply OQ.subN; exact rfl; exact rfl; exact (by (try simp only []); omega); exact (by (try simp only []); omega)) | (apply OQ.lssN; exact rfl; exact rfl) | (apply OQ.gtrN; exact rfl; exact rfl) | (apply OQ.fld; exact rfl; exact rfl; exact rfl; exact (by decide); exact rfl)) rfl ?_ | refine JQ.q (by first | (apply OQ.load_agg (cs := hfc h); exact hfAg; exact hf6; exact rfl; exact .here; exact rfl; exact Row.all) | (apply OQ.callx (vs := [.agg (hfc h).toArray]); exact goes_other; exact rfl; exact (fun w' _ => cO w')) | (apply OQ.move; exact rfl) | (apply OQ.assign; exact rfl) | (apply OQ.nilc; exact rfl) | (apply OQ.len; exact rfl; exact rfl) | (apply OQ.addN; exact rfl; exact rfl; exact (by (try simp only []); omega)) | (apply OQ.subN; exact rfl; exact rfl; exact (by (try simp only []); omega); exact (by (try simp only []); omega)) | (apply OQ.lssN; exact rfl; exact rfl) | (apply OQ.gtrN; exact rfl; exact rfl) | (apply OQ.fld; exact rfl; exact rfl; exact rfl; exact (by decide); exact rfl)) rfl ?_ | refine JC.seq ?_ | refine JC.region ?_ | refine JC.block ?_ | refine JC.skip ?_ | refine JC.exit ?_ | refine JL.nil ?_ | refine JQ.nil ?_ | refine JQ.nil_tail ?_ | refine JE.next ?_ | refine JE.blk_normal ?_ | refine JE.then_exit ?_ | refine JE.blk_hit ?_ | refine JE.blk_miss rfl ?_ | refine JE.then_ret ?_ | refine JE.blk_ret ?_ | refine JC.label ?_ | refine JL.gon rfl rfl ?_ | refine JQ.gon rfl rfl ?_ | refine JL.gskip rfl rfl rfl rfl ?_ | refine JQ.gskip rfl rfl rfl rfl ?_ | refine JL.gskipU rfl rfl rfl rfl ?_ | refine JQ.gskipU rfl rfl rfl rfl ?_)
  refine JL.store_all (cs := hfc (rstH h)) hf6 rfl rfl rfl rfl .here rfl ?_
  repeat (first | refine JL.q (by first | (apply OQ.move; exact rfl) | (apply OQ.assign; exact rfl) | (apply OQ.nilc; exact rfl) | (apply OQ.len; exact rfl; exact rfl) | (apply OQ.addN; exact rfl; exact rfl; exact (by (try simp only []); omega)) | (apply OQ.subN; exact rfl; exact rfl; exact (by (try simp only []); omega); exact (by (try simp only []); omega)) | (apply OQ.lssN; exact rfl; exact rfl) | (apply OQ.gtrN; exact rfl; exact rfl) | (apply OQ.fld; exact rfl; exact rfl; exact rfl; exact (by decide); exact rfl)) rfl ?_ | refine JQ.q (by first | (apply OQ.move; exact rfl) | (apply OQ.assign; exact rfl) | (apply OQ.nilc; exact rfl) | (apply OQ.len; exact rfl; exact rfl) | (apply OQ.addN; exact rfl; exact rfl; exact (by (try simp only []); omega)) | (apply OQ.subN; exact rfl; exact rfl; exact (by (try simp only []); omega); exact (by (try simp only []); omega)) | (apply OQ.lssN; exact rfl; exact rfl) | (apply OQ.gtrN; exact rfl; exact rfl) | (apply OQ.fld; exact rfl; exact rfl; exact rfl; exact (by decide); exact rfl)) rfl ?_ | refine JC.seq ?_ | refine JC.region ?_ | refine JC.block ?_ | refine JC.skip ?_ | refine JC.exit ?_ | refine JL.nil ?_ | refine JQ.nil ?_ | refine JQ.nil_tail ?_ | refine JE.next ?_ | refine JE.blk_normal ?_ | refine JE.then_exit ?_ | refine JE.blk_hit ?_ | refine JE.blk_miss rfl ?_ | refine JE.then_ret ?_ | refine JE.blk_ret ?_ | refine JC.label ?_ | refine JL.gon rfl rfl ?_ | refine JQ.gon rfl rfl ?_ | refine JL.gskip rfl rfl rfl rfl ?_ | refine JQ.gskip rfl rfl rfl rfl ?_ | refine JL.gskipU rfl rfl rfl rfl ?_ | refine JQ.gskipU rfl rfl rfl rfl ?_)
  refine JL.lit1 (v := s.v) Try.underlying34 slEj rfl rfl rfl rfl fun bl2 _ => ?_
  refine JL.perm (M' := jnE j (rstH h) bl pd ++ [⟨bl2, Row 31 [s.v], true⟩]) ?_ (by exact List.perm_append_comm (l₁ := [_]))
  have cB := fun w' (hw' : Holds w S (jnE j (rstH h) bl pd ++ [⟨bl2, Row 31 [s.v], true⟩]) w') hx' => begin_any j (rstH h) bl pd (gm bl + 1#32) ⟨some ⟨bl2, 0, none⟩, 1, [s]⟩ hd (by show h.size - h.first + h.size ≤ bl.length; omega) (by show 0 < 1; decide) (by show nb s.l.length + 0 ≤ h.size; omega) (by show pd.length + (h.size + h.size) ≤ _; omega) w' ⟨Nat.le_refl _, (by
      obtain ⟨o, ho, hA⟩ := hw'.get (b := bl2) (A := Row 31 [s.v]) (wr := true) (hasR (N := jnE j (rstH h) bl pd) .here)
      exact Reads.block ho (Row.all _ hA)), fun y hy => by rw [List.mem_singleton.1 hy]; exact hok.away hw' hap⟩ ⟨fun _ a ha => by cases ha; exact away_has (b := bl2) hw' .here, fun y hy => by rw [List.mem_singleton.1 hy]; exact away_mid hw' (jnE_wr _ _ _ _) hok hap⟩ hx'
  repeat (first | refine JL.q (by first | (apply OQ.move; exact rfl) | (apply OQ.assign; exact rfl) | (apply OQ.nilc; exact rfl) | (apply OQ.len; exact rfl; exact rfl) | (apply OQ.addN; exact rfl; exact rfl; exact (by (try simp only []); omega)) | (apply OQ.subN; exact rfl; exact rfl; exact (by (try simp only []); omega); exact (by (try simp only []); omega)) | (apply OQ.lssN; exact rfl; exact rfl) | (apply OQ.gtrN; exact rfl; exact rfl) | (apply OQ.fld; exact rfl; exact rfl; exact rfl; exact (by decide); exact rfl)) rfl ?_ | refine JQ.q (by first | (apply OQ.move; exact rfl) | (apply OQ.assign; exact rfl) | (apply OQ.nilc; exact rfl) | (apply OQ.len; exact rfl; exact rfl) | (apply OQ.addN; exact rfl; exact rfl; exact (by (try simp only []); omega)) | (apply OQ.subN; exact rfl; exact rfl; exact (by (try simp only []); omega); exact (by (try simp only []); omega)) | (apply OQ.lssN; exact rfl; exact rfl) | (apply OQ.gtrN; exact rfl; exact rfl) | (apply OQ.fld; exact rfl; exact rfl; exact rfl; exact (by decide); exact rfl)) rfl ?_ | refine JC.seq ?_ | refine JC.region ?_ | refine JC.block ?_ | refine JC.skip ?_ | refine JC.exit ?_ | refine JL.nil ?_ | refine JQ.nil ?_ | refine JQ.nil_tail ?_ | refine JE.next ?_ | refine JE.blk_normal ?_ | refine JE.then_exit ?_ | refine JE.blk_hit ?_ | refine JE.blk_miss rfl ?_ | refine JE.then_ret ?_ | refine JE.blk_ret ?_ | refine JC.label ?_ | refine JL.gon rfl rfl ?_ | refine JQ.gon rfl rfl ?_ | refine JL.gskip rfl rfl rfl rfl ?_ | refine JQ.gskip rfl rfl rfl rfl ?_ | refine JL.gskipU rfl rfl rfl rfl ?_ | refine JQ.gskipU rfl rfl rfl rfl ?_)
  refine JL.callV (ι := Unit) (vs := [Pt j 0, U32 (gm bl + 1#32), .slice (some ⟨bl2, 0, none⟩) 1 1]) (fun _ => .tuple #[]) (fun _ => jnE j (rstJ h bl s.l) (rstD h bl s.l) []) goes_begin rfl rfl (jnE_wr _ _ _ _) (fun _ => jnE_wr _ _ _ _) (fun w' hw' hx' => (cB w' hw' hx').mono fun e w2 ⟨h1, h2⟩ => ⟨(), h1, h2⟩) fun _ => ?_
  repeat (first | refine JL.q (by first | (apply OQ.move; exact rfl) | (apply OQ.assign; exact rfl) | (apply OQ.nilc; exact rfl) | (apply OQ.len; exact rfl; exact rfl) | (apply OQ.addN; exact rfl; exact rfl; exact (by (try simp only []); omega)) | (apply OQ.subN; exact rfl; exact rfl; exact (by (try simp only []); omega); exact (by (try simp only []); omega)) | (apply OQ.lssN; exact rfl; exact rfl) | (apply OQ.gtrN; exact rfl; exact rfl) | (apply OQ.fld; exact rfl; exact rfl; exact rfl; exact (by decide); exact rfl)) rfl ?_ | refine JQ.q (by first | (apply OQ.move; exact rfl) | (apply OQ.assign; exact rfl) | (apply OQ.nilc; exact rfl) | (apply OQ.len; exact rfl; exact rfl) | (apply OQ.addN; exact rfl; exact rfl; exact (by (try simp only []); omega)) | (apply OQ.subN; exact rfl; exact rfl; exact (by (try simp only []); omega); exact (by (try simp only []); omega)) | (apply OQ.lssN; exact rfl; exact rfl) | (apply OQ.gtrN; exact rfl; exact rfl) | (apply OQ.fld; exact rfl; exact rfl; exact rfl; exact (by decide); exact rfl)) rfl ?_ | refine JC.seq ?_ | refine JC.region ?_ | refine JC.block ?_ | refine JC.skip ?_ | refine JC.exit ?_ | refine JL.nil ?_ | refine JQ.nil ?_ | refine JQ.nil_tail ?_ | refine JE.next ?_ | refine JE.blk_normal ?_ | refine JE.then_exit ?_ | refine JE.blk_hit ?_ | refine JE.blk_miss rfl ?_ | refine JE.then_ret ?_ | refine JE.blk_ret ?_ | refine JC.label ?_ | refine JL.gon rfl rfl ?_ | refine JQ.gon rfl rfl ?_ | refine JL.gskip rfl rfl rfl rfl ?_ | refine JQ.gskip rfl rfl rfl rfl ?_ | refine JL.gskipU rfl rfl rfl rfl ?_ | refine JQ.gskipU rfl rfl rfl rfl ?_)
  refine JC.ret ?_
  repeat (first | refine JL.q (by first | (apply OQ.move; exact rfl) | (apply OQ.assign; exact rfl) | (apply OQ.nilc; exact rfl) | (apply OQ.len; exact rfl; exact rfl) | (apply OQ.addN; exact rfl; exact rfl; exact (by (try simp only []); omega)) | (apply OQ.subN; exact rfl; exact rfl; exact (by (try simp only []); omega); exact (by (try simp only []); omega)) | (apply OQ.lssN; exact rfl; exact rfl) | (apply OQ.gtrN; exact rfl; exact rfl) | (apply OQ.fld; exact rfl; exact rfl; exact rfl; exact (by decide); exact rfl)) rfl ?_ | refine JQ.q (by first | (apply OQ.move; exact rfl) | (apply OQ.assign; exact rfl) | (apply OQ.nilc; exact rfl) | (apply OQ.len; exact rfl; exact rfl) | (apply OQ.addN; exact rfl; exact rfl; exact (by (try simp only []); omega)) | (apply OQ.subN; exact rfl; exact rfl; exact (by (try simp only []); omega); exact (by (try simp only []); omega)) | (apply OQ.lssN; exact rfl; exact rfl) | (apply OQ.gtrN; exact rfl; exact rfl) | (apply OQ.fld; exact rfl; exact rfl; exact rfl; exact (by decide); exact rfl)) rfl ?_ | refine JC.seq ?_ | refine JC.region ?_ | refine JC.block ?_ | refine JC.skip ?_ | refine JC.exit ?_ | refine JL.nil ?_ | refine JQ.nil ?_ | refine JQ.nil_tail ?_ | refine JE.next ?_ | refine JE.blk_normal ?_ | refine JE.then_exit ?_ | refine JE.blk_hit ?_ | refine JE.blk_miss rfl ?_ | refine JE.then_ret ?_ | refine JE.blk_ret ?_ | refine JC.label ?_ | refine JL.gon rfl rfl ?_ | refine JQ.gon rfl rfl ?_ | refine JL.gskip rfl rfl rfl rfl ?_ | refine JQ.gskip rfl rfl rfl rfl ?_ | refine JL.gskipU rfl rfl rfl rfl ?_ | refine JQ.gskipU rfl rfl rfl rfl ?_)
  exact JE.ret1 rfl (RV.tmp rfl) fun w' hw => ⟨rfl, hw.weak (less_pre _ _)⟩
end Go.Proofs.Ytkadoibacliepaa

/-
  Of no statement by itself: what holds of a journal and its disk between the calls, by definition.
  Conditions: each theorem's own.
-/
namespace Go.Proofs.Ytkadoibacliepaa
open Sl Dsk Jrn
theorem mx_toNat (a b : BitVec 32) : (mx a b).toNat = max a.toNat b.toNat := by
  unfold mx
  split <;> omega
/-- both ends of a block tell generations below a number -/
def Below (m : Nat) (b : Bk) : Prop := (markIn b).1.toNat < m ∧ (markIn (b.drop 54)).1.toNat < m
theorem gm_fold (m : Nat) : ∀ (bl : List Bk) (a : BitVec 32), a.toNat < m → (∀ b ∈ bl, Below m b) → (bl.foldl (fun m b => mx (mx m (markIn b).1) (markIn (b.drop 54)).1) a).toNat < m
  | [], a, h, _ => h
  | b :: bl, a, h, hb => by
    have h1 := hb b (by simp)
    refine gm_fold m bl _ ?_ fun x hx => hb x (by simp [hx])
    rw [mx_toNat, mx_toNat]
    have := h1.1
    have := h1.2
    omega
theorem gm_lt {m : Nat} {bl : List Bk} (h0 : 0 < m) (h : ∀ b ∈ bl, Below m b) : (gm bl).toNat < m := gm_fold m bl 0 h0 h
theorem gm_up : ∀ (bl : List Bk) (a : BitVec 32), a.toNat ≤ (bl.foldl (fun m b => mx (mx m (markIn b).1) (markIn (b.drop 54)).1) a).toNat ∧ ∀ b ∈ bl, Below ((bl.foldl (fun m b => mx (mx m (markIn b).1) (markIn (b.drop 54)).1) a).toNat + 1) b
  | [], a => ⟨Nat.le_refl _, nofun⟩
  | b :: bl, a => by
    have ⟨h1, h2⟩ := gm_up bl (mx (mx a (markIn b).1) (markIn (b.drop 54)).1)
    have hm := mx_toNat (mx a (markIn b).1) (markIn (b.drop 54)).1
    rw [mx_toNat a] at hm
    refine ⟨?_, fun x hx => ?_⟩
    · simp only [List.foldl_cons]
      omega
    · simp only [List.foldl_cons]
      rcases List.mem_cons.1 hx with rfl | hx
      · exact ⟨by omega, by omega⟩
      · exact h2 x hx
theorem gm_below {bl : List Bk} : ∀ b ∈ bl, Below ((gm bl).toNat + 1) b := (gm_up bl 0).2
theorem mk1_ok {g : BitVec 32} {r n i : Nat} (h : i < n) (hn : n ≤ 32768) : okM (mk1 g r n i) := by
  show (BitVec.ofNat 16 i).toNat < 32768
  rw [BitVec.toNat_ofNat]
  omega
theorem blk_mark {g : BitVec 32} {r : Nat} {rec : Bk} {i : Nat} (h : i < nb rec.length) (hn : nb rec.length ≤ 32768) : (markIn (blk g r rec i)).1 = g ∧ (markIn ((blk g r rec i).drop 54)).1 = g ∧ (blk g r rec i).length = 64 := by
  have hc : (chunk rec i).length ≤ 42 := by rw [Jrn.chunk_len]; omega
  have hk := mk1_ok (g := g) (r := r) h hn
  refine ⟨?_, ?_, block_len hc⟩
  · rw [show blk g r rec i = blockOf (mk1 g r (nb rec.length) i) (chunk rec i) from rfl, block_mark hk]; rfl
  · rw [show blk g r rec i = blockOf (mk1 g r (nb rec.length) i) (chunk rec i) from rfl, block_back hk hc]; rfl
theorem blks_mark {g : BitVec 32} {r : Nat} {rec : Bk} (hn : nb rec.length ≤ 32768) : ∀ b ∈ blks g r rec, (markIn b).1 = g ∧ (markIn (b.drop 54)).1 = g ∧ b.length = 64 := by
  intro b hb
  unfold blks at hb
  obtain ⟨i, hi, rfl⟩ := List.mem_map.1 hb
  exact blk_mark (List.mem_range.1 hi) hn
theorem allB_mark {g : BitVec 32} : ∀ (recs : List Bk) (n : Nat), room recs ≤ 32768 → ∀ b ∈ allB g n recs, (markIn b).1 = g ∧ (markIn (b.drop 54)).1 = g ∧ b.length = 64
  | [], _, _, b, hb => by simp [allB] at hb
  | r :: rs, n, h, b, hb => by
    rw [room_cons] at h
    rw [allB] at hb
    rcases List.mem_append.1 hb with hb | hb
    · exact blks_mark (by omega) b hb
    · exact allB_mark rs (n + 1) (by omega) b hb
theorem old_get {bl : List Bk} {i : Nat} (h : i < bl.length) : old bl i = bl[i] := by simp [old, List.getD_eq_getElem?_getD, h]
theorem old_putAt {bl : List Bk} {k : Nat} {l : List Bk} {i : Nat} (hk : k + l.length ≤ bl.length) (hi : i < bl.length) (ho : ¬ (k ≤ i ∧ i < k + l.length)) : old (putAt bl k l) i = old bl i := by
  have hl := putAt_len hk
  have h1 : (bl.take k ++ l).length = k + l.length := by rw [List.length_append, List.length_take]; omega
  rw [old_get (by omega), old_get hi]
  simp only [putAt]
  by_cases h : i < k
  · rw [List.getElem_append_left (by rw [h1]; omega), List.getElem_append_left (by rw [List.length_take]; omega), List.getElem_take]
  · rw [List.getElem_append_right (by rw [h1]; omega), List.getElem_drop]
    congr 1
    omega
theorem putAt_at {bl : List Bk} {k : Nat} {l : List Bk} (hk : k + l.length ≤ bl.length) : ((putAt bl k l).drop k).take l.length = l := by
  have h1 : (bl.take k).length = k := by rw [List.length_take]; omega
  unfold putAt
  rw [List.append_assoc, List.drop_left' h1, List.take_left' rfl]
theorem putAt_mem {bl : List Bk} {k : Nat} {l : List Bk} {P : Bk → Prop} (h : ∀ b ∈ bl, P b) (hl : ∀ b ∈ l, P b) : ∀ b ∈ putAt bl k l, P b := by
  intro b hb
  unfold putAt at hb
  rcases List.mem_append.1 hb with hb | hb
  · rcases List.mem_append.1 hb with hb | hb
    · exact h b (List.mem_of_mem_take hb)
    · exact hl b hb
  · exact h b (List.mem_of_mem_drop hb)
theorem DkOk.put {x : Dp} {bl : List Bk} {pd : List (Nat × Bk)} (h : DkOk x bl pd) {k : Nat} {l : List Bk} (hk : k + l.length ≤ bl.length) (hl : ∀ b ∈ l, b.length = 64) : DkOk (sync0 x) (putAt bl k l) [] where
  ok := ⟨putAt_mem h.ok.b hl, by simp⟩
  n0 := by rw [putAt_len hk]; exact h.n0
  n1 := by rw [putAt_len hk]; exact h.n1
  m := by simp
  a := fun _ => rfl
/-- what holds of a journal between calls -/
structure Jv (h : Hf) (bl : List Bk) (recs : List Bk) : Prop where
  n4 : 4 ≤ bl.length
  n5 : bl.length ≤ 65536
  n : h.size = bl.length / 2
  f : h.first = 0 ∨ h.first = h.size
  c : h.count = recs.length
  u : h.used = room recs
  r : room recs ≤ h.size
  ne : recs ≠ []
  at' : (bl.drop h.first).take (room recs) = allB h.g 0 recs
  o : ∀ i, i < bl.length → ¬ (h.first ≤ i ∧ i < h.first + room recs) → Below h.g.toNat (old bl i)
theorem room_pos {recs : List Bk} (h : recs ≠ []) : 0 < room recs := by
  cases recs with
  | nil => exact absurd rfl h
  | cons r rs => rw [room_cons]; have := nb_pos r.length; omega
namespace Jv
variable {h : Hf} {bl recs : List Bk}
theorem fs (v : Jv h bl recs) : h.first + h.size ≤ bl.length ∧ h.first ≤ h.size ∧ h.size + h.size ≤ bl.length ∧ h.size ≤ 32768 := by
  have := v.n; have := v.n5
  rcases v.f with e | e <;> omega
theorem inn (v : Jv h bl recs) {k : Nat} (hk : k < room recs) : old bl (h.first + k) ∈ allB h.g 0 recs := by
  have h1 := v.fs; have h2 := v.r
  rw [← v.at', old_get (by omega)]
  have : ((bl.drop h.first).take (room recs))[k]'(by rw [List.length_take, List.length_drop]; omega) = bl[h.first + k]'(by omega) := by simp
  rw [← this]
  exact List.getElem_mem _
theorem all (v : Jv h bl recs) : ∀ b ∈ bl, Below (h.g.toNat + 1) b := by
  intro b hb
  have h1 := v.fs; have h2 := v.r
  obtain ⟨i, hi, rfl⟩ := List.mem_iff_getElem.1 hb
  rw [← old_get hi]
  by_cases ho : h.first ≤ i ∧ i < h.first + room recs
  · have := allB_mark recs 0 (by omega) _ (v.inn (k := i - h.first) (by omega))
    rw [show h.first + (i - h.first) = i by omega] at this
    exact ⟨by rw [this.1]; omega, by rw [this.2.1]; omega⟩
  · have := v.o i hi ho
    exact ⟨Nat.lt_succ_of_lt this.1, Nat.lt_succ_of_lt this.2⟩
theorem gm_le (v : Jv h bl recs) : (gm bl).toNat ≤ h.g.toNat := Nat.le_of_lt_succ (gm_lt (Nat.succ_pos _) v.all)
theorem g0 (v : Jv h bl recs) : 0 < h.g.toNat := by
  have h1 := v.fs; have h2 := v.r; have h3 := v.n4; have h4 := v.n
  have := v.o (h.size - h.first) (by omega) (by rcases v.f with e | e <;> omega)
  have := this.1
  omega
theorem told (v : Jv h bl recs) : toldH bl h.first h.size h.g = recs := by
  have h1 := v.fs; have h2 := v.r
  have e : bsOf bl h.first h.size 0 = allB h.g 0 recs ++ ((bl.drop h.first).take h.size).drop (room recs) := by
    rw [← v.at']
    conv => lhs; rw [bsOf, List.drop_zero, ← List.take_append_drop (room recs) ((bl.drop h.first).take h.size), List.take_take, Nat.min_eq_left h2]
  unfold toldH
  rw [e]
  refine told_all (fun b hb => ?_) (by omega)
  obtain ⟨k, hk, rfl⟩ := List.mem_iff_getElem.1 hb
  have hk' := hk
  rw [List.length_drop, List.length_take, List.length_drop] at hk'
  have : (((bl.drop h.first).take h.size).drop (room recs))[k] = old bl (h.first + (room recs + k)) := by
    rw [old_get (by omega)]
    simp
  rw [this]
  intro hg
  have := (v.o (h.first + (room recs + k)) (by omega) (by omega)).1
  rw [hg] at this
  omega
theorem recH (v : Jv h bl recs) : recH bl h.first = recs ∧ genH bl h.first = h.g := by
  have h0 := v.inn (k := 0) (room_pos v.ne)
  have h1 := v.fs; have h2 := v.r
  rw [Nat.add_zero] at h0
  have hm := (allB_mark recs 0 (by omega) _ h0).1
  have e : Go.Proofs.Ytkadoibacliepaa.recH bl h.first = recs := by
    unfold Go.Proofs.Ytkadoibacliepaa.recH
    rw [hm, ← v.n]
    exact v.told
  refine ⟨e, ?_⟩
  unfold genH
  rw [e, hm, if_neg]
  intro h
  exact v.ne (List.length_eq_zero_iff.1 h)
theorem other (v : Jv h bl recs) : (genH bl (h.size - h.first)).toNat < h.g.toNat := by
  have h1 := v.fs; have h2 := v.r; have h3 := v.n4; have h4 := v.n
  have := (v.o (h.size - h.first) (by omega) (by rcases v.f with e | e <;> omega)).1
  have h5 := v.g0
  unfold genH
  split
  · exact h5
  · exact this
theorem cur (v : Jv h bl recs) : curF bl = (h.first, h.g, recs) := by
  have h5 := v.g0
  have ⟨e1, e2⟩ := v.recH
  have e3 := v.other
  have hn := v.n
  unfold curF
  rcases v.f with e | e
  · rw [e] at e1 e2 e3
    rw [e, ← hn]
    rw [Nat.sub_zero] at e3
    rw [e1, e2, if_pos ⟨by omega, by omega⟩]
  · rw [e] at e1 e2 e3
    rw [Nat.sub_self] at e3
    rw [e, ← hn, e1, e2, if_neg (fun hh => by have := hh.2; omega), if_pos (by omega)]
end Jv
/-- a journal that begins with a generation behind all others -/
theorem Jv.beg {x : Dp} {bl recs : List Bk} {first size : Nat} (n4 : 4 ≤ bl.length) (n5 : bl.length ≤ 65536) (n : size = bl.length / 2) (f : first = 0 ∨ first = size) (r : room recs ≤ size) (ne : recs ≠ []) (hg : gm bl ≠ 4294967295#32) :
    Jv ⟨x, first, size, gm bl + 1#32, recs.length, room recs⟩ (putAt bl first (allB (gm bl + 1#32) 0 recs)) recs := by
  have hs : first + size ≤ bl.length := by rcases f with e | e <;> omega
  have hk : first + (allB (gm bl + 1#32) 0 recs).length ≤ bl.length := by rw [allB_len]; omega
  have hl := putAt_len hk
  have hgl : (gm bl).toNat ≠ 4294967295 := fun e => hg (BitVec.eq_of_toNat_eq e)
  have hg1 : (gm bl + 1#32).toNat = (gm bl).toNat + 1 := by
    rw [BitVec.toNat_add, show (1#32).toNat = 1 from rfl]
    have := (gm bl).isLt
    omega
  refine ⟨by rw [hl]; exact n4, by rw [hl]; exact n5, by rw [hl]; exact n, f, rfl, rfl, r, ne, ?_, fun i hi ho => ?_⟩
  · have := putAt_at hk
    rw [allB_len] at this
    exact this
  · dsimp only at ho ⊢
    rw [hl] at hi
    rw [old_putAt hk hi (by rw [allB_len]; exact ho), hg1]
    exact gm_below _ (old_mem hi)
theorem Jv.app {h : Hf} {bl recs : List Bk} (v : Jv h bl recs) {l : Bk} (hf : nb l.length ≤ h.size - h.used) : Jv (appJ h l) (appD h bl l) (recs ++ [l]) := by
  have h1 := v.fs; have h2 := v.r; have h3 := v.u; have h4 := v.c; have hn := v.n
  have hr : room (recs ++ [l]) = room recs + nb l.length := by rw [room_append]; simp [room]
  have hk : h.first + h.used + (blks h.g h.count l).length ≤ bl.length := by rw [blks_len]; omega
  have hl := putAt_len hk
  refine ⟨by unfold appD; rw [hl]; exact v.n4, by unfold appD; rw [hl]; exact v.n5, by unfold appD; rw [hl]; exact hn, v.f, by show h.count + 1 = _; rw [h4, List.length_append]; rfl, by show h.used + nb l.length = _; rw [hr, h3], by rw [hr]; show _ ≤ h.size; omega, by simp, ?_, fun i hi ho => ?_⟩
  · show ((appD h bl l).drop h.first).take _ = allB h.g 0 _
    have e1 : bl.take (h.first + h.used) = bl.take h.first ++ allB h.g 0 recs := by rw [← v.at', h3, List.take_add]
    have e2 : (bl.take h.first).length = h.first := by rw [List.length_take]; omega
    unfold appD putAt
    rw [e1, List.append_assoc, List.append_assoc, List.drop_left' e2, ← List.append_assoc, allB_append, Nat.zero_add, ← h4, List.take_left' (by rw [List.length_append, allB_len, blks_len, hr])]
    congr 1
    rw [allB, allB, List.append_nil]
  · unfold appD at hi ⊢
    rw [hl] at hi
    rw [hr] at ho
    have ho' : ¬ (h.first ≤ i ∧ i < h.first + (room recs + nb l.length)) := ho
    rw [old_putAt hk hi (by rw [blks_len]; omega)]
    exact v.o i hi (by omega)
end Go.Proofs.Ytkadoibacliepaa
