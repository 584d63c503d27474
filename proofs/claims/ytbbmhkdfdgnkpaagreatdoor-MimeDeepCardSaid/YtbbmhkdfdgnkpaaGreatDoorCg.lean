/-
  Of no statement by itself: the texts MibW, MimO, MibX, MibY, Plain, FraX in one.
  Conditions: each theorem's own.
-/
import Derived.Test.YtbbmhkdfdgnkpaaGreatDoorCf
import Derived.Test.YtbbmhkdfdgnkpaaGreatDoorProg
import Derived.Test.YtbbmhkdfdgnkpaaGreatDoorRows
import Derived.ProofKit
import Derived.OpenShut
import Derived.Below
import Derived.Stop.Joined
import Derived.ChangeMaps5
import Derived.Test.YtbbmhkdfdgnkpaaGreatDoorTie
import Derived.SevenTiedAt
import Derived.LaidMore
import Derived.Lay
set_option linter.unusedSimpArgs false
set_option linter.unusedVariables false
/-
  Of no statement by itself: what the landed mime's writeParts gives, where write gives the letters of what stands one deeper.
  Conditions: each theorem's own.
-/
namespace Go.Proofs.YtbbmhkdfdgnkpaaGreatDoor
set_option maxRecDepth 10000
open Sl Fld Mim Tok
theorem goes_wparts : Goes Tryz.prog 39 := ⟨_, Tryz.func39, rfl, by kernel_rfl⟩
theorem goes_mwriteU : Goes Tryz.prog 25 := ⟨_, Tryz.func25, rfl, by kernel_rfl⟩
theorem inC12w : scal Tryz.prog 3 = true := by kernel_rfl
/-- a letter and its bytes as an answer -/
structure WA (r : Except Nat (List Pr × List Bt)) where
  f : Sl2
  s : Sl8
  m : Sl8
  hf : f.l = fstE r
  hs : s.l = sndE r
  hm : ∀ x, r = .ok x → m.l = writeO x.1 x.2
  nf : f.ad = none → f.l = []
  ns : s.ad = none → s.l = []
  nm : m.ad = none → m.l = []
def WA.ents {r : Except Nat (List Pr × List Bt)} (x : WA r) : List Ent := x.f.ents ++ (x.s.ents ++ x.m.ents)
theorem WA.wr {r : Except Nat (List Pr × List Bt)} (x : WA r) : ∀ e ∈ x.ents, e.wr = true := fun e he => by
  rcases List.mem_append.1 he with h | h
  · exact x.f.ents_wr e h
  rcases List.mem_append.1 h with h | h
  · exact x.s.ents_wr e h
  · exact x.m.ents_wr e h
def WA.err {e : Nat} : WA (.error e) := ⟨nil2, nilS, nilS, rfl, rfl, nofun, fun _ => rfl, fun _ => rfl, fun _ => rfl⟩
/-- what write gives of what stands in so many others -/
def WritesAs (Qe : List Fld.By → List Fld.By) (k others : Nat) : Prop := ∀ (p : Part) (cs : List Value) (w : World), EncOk w → IsPart (k + 2) w p cs → noQ (k + 1) p → lowP (k + 2) p →
  Calls Tryz.prog 25 [.agg cs.toArray, N others].toArray w fun e w' => ∃ x : WA (writeP Qe k p), e = .returned (.tuple #[.agg #[x.f.v, x.s.v], x.m.v, N (codeE (writeP Qe k p))]) ∧ Holds w [] x.ents w'
def okB : Except Nat (List Fld.By) → List Fld.By
  | .ok b => b
  | .error _ => []
structure WpZ where
  i : Nat
  qb : Acc
  qm : Acc
  rs : List Sl8
theorem wperm1 (m A B X : List Ent) : (m ++ (A ++ (B ++ X))).Perm (B ++ (m ++ (A ++ X))) :=
  (List.Perm.append_left m (perm_comm3 A B X)).trans (perm_comm3 m B _)
theorem wperm2 (B m A X : List Ent) : (B ++ (m ++ (A ++ X))).Perm (A ++ (B ++ (m ++ X))) :=
  (List.Perm.append_left B (perm_comm3 m A X)).trans (perm_comm3 B A _)
theorem flatE_snoc (rs : List Sl8) (m : Sl8) : flatE (rs ++ [m]) = flatE rs ++ m.ents := by
  unfold flatE
  rw [List.flatMap_append]
  simp
theorem wperm3 (A B : List Ent) (m : Sl8) (rs : List Sl8) : (A ++ (B ++ (m.ents ++ (flatE rs ++ [])))).Perm (A ++ (B ++ (flatE (rs ++ [m]) ++ []))) := by
  rw [flatE_snoc, List.append_nil, List.append_nil]
  exact List.Perm.append_left A (List.Perm.append_left B List.perm_append_comm)
set_option maxHeartbeats 64000000 in
theorem wparts_any (Qe : List Fld.By → List Fld.By) (k others : Nat) (hko : k + others = 8) (ih : ∀ k', k = k' + 1 → WritesAs Qe k' (others + 1)) (p : Part) (cs : List Value) (w : World) (hE : EncOk w) (hp : IsPart (k + 2) w p cs) (hq : noQ (k + 1) p) (hlo : lowP (k + 2) p) : Calls Tryz.prog 39 [.agg cs.toArray, N others].toArray w
    fun e w' => ∃ y : { y : Sl8 // Ans y (okB (partsW (subW Qe k) p)) }, e = .returned (.tuple #[y.1.v, N (codeL (partsW (subW Qe k) p))]) ∧ Holds w [] y.1.ents w' := by
  obtain ⟨ps, body, ad, cap, subs, rfl, ⟨okp, lp⟩, ⟨okb, lb⟩, hcap, hr, hsl, hsub⟩ := hp
  obtain ⟨l1, l2, l3, l4, l5, l6, l7, l8⟩ := hlo
  have hq2 := hq.2
  clear hq
  refine enter (n := 93) Tryz.func39 rfl rfl rfl (Holds.start w []) ?_
  refine JC.seq (JC.region (JL.box (r := [Z p.kind, ps.v, .int .i64 p.code, body.v, .slice ad p.parts.length cap]) rfl rfl rfl fun b2 _ => ?_))
  have cf := fun (M : List Ent) (w' : World) (hw' : Holds w [] M w') => bof_any p.kind ps (.int .i64 p.code) body.v (.slice ad p.parts.length cap) w' (okp.holds hw' rfl) (by rw [lp]; omega)
  rw [lp] at cf
  have hbl : (parB p.ps bdN).length ≤ 1000 := by
    unfold parB
    cases hf : p.ps.find? fun q => decide (q.1 = bdN) with
    | none => exact Nat.zero_le _
    | some q => exact (l3 q (List.mem_of_find?_eq_some hf)).2
  generalize hbd : parB p.ps bdN = bd at cf hbl
  have cb := fun w' => mbnd_any bd w' (by omega)
  have hP : partsW (subW Qe k) p = if p.parts = [] ∨ boundB bd = false ∨ p.code ≠ 0 ∨ p.body ≠ [] then .error 3
      else match subW Qe k with
        | none => .error 5
        | some g => match mapE g p.parts with
          | .error e => .error e
          | .ok xs =>
            if spltB (jn bd (xs.map fun x => writeO x.1 x.2) []) bd = (xs.map (fun x => writeO x.1 x.2), 0) then .ok (jn bd (xs.map fun x => writeO x.1 x.2) [])
            else .error 3 := by
    unfold partsW
    rw [hbd]
    rfl
  have hpl : p.parts = [] ↔ p.parts.length = 0 := List.length_eq_zero_iff.symm
  have hbo : p.body = [] ↔ body.l.length = 0 := by rw [lb]; exact List.length_eq_zero_iff.symm
  cases g1 : decide ((p.parts.length : Int) = 0)
  rotate_left
  · have hk : partsW (subW Qe k) p = .error 3 := by rw [hP, if_pos (.inl (hpl.2 (by have := of_decide_eq_true g1; omega)))]
    rw [hk]
    repeat (first | refine JL.q (by first | (apply OQ.load_agg (cs := [Z p.kind, ps.v, .int .i64 p.code, body.v, .slice ad p.parts.length cap]); exact ptA9; exact ptS; exact rfl; exact .here; exact rfl; exact Row.all) | (apply OQ.callx (vs := [.agg #[Z p.kind, ps.v, .int .i64 p.code, body.v, .slice ad p.parts.length cap]]); exact goes_bof; exact rfl; exact (cf _)) | (apply OQ.load; exact ptC12; exact rfl; exact .here; exact (Row.cell (v := .slice ad p.parts.length cap) rfl)) | (apply OQ.len; exact Tryz.underlying34; exact rfl) | (apply OQ.eqB (b := 0); exact rfl; exact rfl; exact g1) | (apply OQ.pick_t; exact rfl; exact rfl) | (apply OQ.move; exact rfl) | (apply OQ.assign; exact rfl) | (apply OQ.fld; exact rfl; exact rfl; exact rfl; exact (by decide); exact rfl)) rfl ?_ | refine JC.seq ?_ | refine JC.region ?_ | refine JL.nil ?_ | refine JE.next ?_ | refine JL.gskip rfl rfl rfl rfl ?_)
    refine JC.cond rfl (fun _ => ?_) (fun h => by cases h)
    repeat (first | refine JL.q (by (apply OQ.assign; exact rfl)) rfl ?_ | refine JC.seq ?_ | refine JC.region ?_ | refine JL.nil ?_ | refine JE.next ?_)
    refine JC.ret ?_
    repeat (refine JE.then_ret ?_)
    exact JE.ret2 rfl (RV.tmp rfl) (RV.tmp rfl) fun w' hw => ⟨⟨nilS, ⟨rfl, fun _ => rfl⟩⟩, rfl, hw.weak (.nil _)⟩
  cases hB : boundB bd
  · have hk : partsW (subW Qe k) p = .error 3 := by rw [hP, if_pos (.inr (.inl hB))]
    rw [hB] at cb
    rw [hk]
    repeat (first | refine JL.q (by first | (apply OQ.load_agg (cs := [Z p.kind, ps.v, .int .i64 p.code, body.v, .slice ad p.parts.length cap]); exact ptA9; exact ptS; exact rfl; exact .here; exact rfl; exact Row.all) | (apply OQ.callx (vs := [.agg #[Z p.kind, ps.v, .int .i64 p.code, body.v, .slice ad p.parts.length cap]]); exact goes_bof; exact rfl; exact (cf _)) | (apply OQ.load; exact ptC12; exact rfl; exact .here; exact (Row.cell (v := .slice ad p.parts.length cap) rfl)) | (apply OQ.len; exact Tryz.underlying34; exact rfl) | (apply OQ.eqB (b := 0); exact rfl; exact rfl; exact g1) | (apply OQ.pick_t; exact rfl; exact rfl) | (apply OQ.pick_f; exact rfl; exact rfl) | (apply OQ.callx (vs := [Z bd]); exact goes_mbnd; exact rfl; exact (fun w' _ => cb w')) | (apply OQ.not; exact rfl) | (apply OQ.move; exact rfl) | (apply OQ.assign; exact rfl) | (apply OQ.fld; exact rfl; exact rfl; exact rfl; exact (by decide); exact rfl)) rfl ?_ | refine JC.seq ?_ | refine JC.region ?_ | refine JL.nil ?_ | refine JE.next ?_ | refine JL.gon rfl rfl ?_ | refine JL.gskip rfl rfl rfl rfl ?_)
    refine JC.cond rfl (fun _ => ?_) (fun h => by cases h)
    repeat (first | refine JL.q (by (apply OQ.assign; exact rfl)) rfl ?_ | refine JC.seq ?_ | refine JC.region ?_ | refine JL.nil ?_ | refine JE.next ?_)
    refine JC.ret ?_
    repeat (refine JE.then_ret ?_)
    exact JE.ret2 rfl (RV.tmp rfl) (RV.tmp rfl) fun w' hw => ⟨⟨nilS, ⟨rfl, fun _ => rfl⟩⟩, rfl, hw.weak (.nil _)⟩
  rw [hB] at cb
  cases g2 : decide (p.code = 0)
  · have hk : partsW (subW Qe k) p = .error 3 := by rw [hP, if_pos (.inr (.inr (.inl (of_decide_eq_false g2))))]
    rw [hk]
    repeat (first | refine JL.q (by first | (apply OQ.load_agg (cs := [Z p.kind, ps.v, .int .i64 p.code, body.v, .slice ad p.parts.length cap]); exact ptA9; exact ptS; exact rfl; exact .here; exact rfl; exact Row.all) | (apply OQ.callx (vs := [.agg #[Z p.kind, ps.v, .int .i64 p.code, body.v, .slice ad p.parts.length cap]]); exact goes_bof; exact rfl; exact (cf _)) | (apply OQ.load; exact ptC12; exact rfl; exact .here; exact (Row.cell (v := .slice ad p.parts.length cap) rfl)) | (apply OQ.len; exact Tryz.underlying34; exact rfl) | (apply OQ.eqB (b := 0); exact rfl; exact rfl; exact g1) | (apply OQ.pick_t; exact rfl; exact rfl) | (apply OQ.pick_f; exact rfl; exact rfl) | (apply OQ.callx (vs := [Z bd]); exact goes_mbnd; exact rfl; exact (fun w' _ => cb w')) | (apply OQ.not; exact rfl) | (apply OQ.load; exact inC12w; exact rfl; exact .here; exact (Row.cell (v := .int .i64 p.code) rfl)) | (apply OQ.neB (b := 0); exact rfl; exact rfl; exact g2) | (apply OQ.move; exact rfl) | (apply OQ.assign; exact rfl) | (apply OQ.fld; exact rfl; exact rfl; exact rfl; exact (by decide); exact rfl)) rfl ?_ | refine JC.seq ?_ | refine JC.region ?_ | refine JL.nil ?_ | refine JE.next ?_ | refine JL.gon rfl rfl ?_ | refine JL.gskip rfl rfl rfl rfl ?_)
    refine JC.cond rfl (fun _ => ?_) (fun h => by cases h)
    repeat (first | refine JL.q (by (apply OQ.assign; exact rfl)) rfl ?_ | refine JC.seq ?_ | refine JC.region ?_ | refine JL.nil ?_ | refine JE.next ?_)
    refine JC.ret ?_
    repeat (refine JE.then_ret ?_)
    exact JE.ret2 rfl (RV.tmp rfl) (RV.tmp rfl) fun w' hw => ⟨⟨nilS, ⟨rfl, fun _ => rfl⟩⟩, rfl, hw.weak (.nil _)⟩
  cases g3 : decide ((0 : Int) < (body.l.length : Int))
  rotate_left
  · have hk : partsW (subW Qe k) p = .error 3 := by rw [hP, if_pos (.inr (.inr (.inr (fun h => by have := hbo.1 h; have := of_decide_eq_true g3; omega))))]
    rw [hk]
    repeat (first | refine JL.q (by first | (apply OQ.load_agg (cs := [Z p.kind, ps.v, .int .i64 p.code, body.v, .slice ad p.parts.length cap]); exact ptA9; exact ptS; exact rfl; exact .here; exact rfl; exact Row.all) | (apply OQ.callx (vs := [.agg #[Z p.kind, ps.v, .int .i64 p.code, body.v, .slice ad p.parts.length cap]]); exact goes_bof; exact rfl; exact (cf _)) | (apply OQ.load; exact ptC12; exact rfl; exact .here; exact (Row.cell (v := .slice ad p.parts.length cap) rfl)) | (apply OQ.len; exact Tryz.underlying34; exact rfl) | (apply OQ.eqB (b := 0); exact rfl; exact rfl; exact g1) | (apply OQ.pick_f; exact rfl; exact rfl) | (apply OQ.callx (vs := [Z bd]); exact goes_mbnd; exact rfl; exact (fun w' _ => cb w')) | (apply OQ.not; exact rfl) | (apply OQ.load; exact inC12w; exact rfl; exact .here; exact (Row.cell (v := .int .i64 p.code) rfl)) | (apply OQ.neB (b := 0); exact rfl; exact rfl; exact g2) | (apply OQ.load; exact bsCF; exact rfl; exact .here; exact (Row.cell (v := body.v) rfl)) | (apply OQ.len; exact Tryz.underlying22; exact rfl) | (apply OQ.gtrB (b := 0); exact rfl; exact rfl; exact g3) | (apply OQ.move; exact rfl) | (apply OQ.assign; exact rfl) | (apply OQ.fld; exact rfl; exact rfl; exact rfl; exact (by decide); exact rfl)) rfl ?_ | refine JC.seq ?_ | refine JC.region ?_ | refine JL.nil ?_ | refine JE.next ?_ | refine JL.gon rfl rfl ?_)
    refine JC.cond rfl (fun _ => ?_) (fun h => by cases h)
    repeat (first | refine JL.q (by (apply OQ.assign; exact rfl)) rfl ?_ | refine JC.seq ?_ | refine JC.region ?_ | refine JL.nil ?_ | refine JE.next ?_)
    refine JC.ret ?_
    repeat (refine JE.then_ret ?_)
    exact JE.ret2 rfl (RV.tmp rfl) (RV.tmp rfl) fun w' hw => ⟨⟨nilS, ⟨rfl, fun _ => rfl⟩⟩, rfl, hw.weak (.nil _)⟩
  rw [if_neg (by
    rintro (h | h | h | h)
    · have := hpl.1 h; have := of_decide_eq_false g1; omega
    · rw [hB] at h; cases h
    · exact h (of_decide_eq_true g2)
    · exact h (hbo.2 (by have := of_decide_eq_false g3; omega)))] at hP
  repeat (first | refine JL.q (by first | (apply OQ.load_agg (cs := [Z p.kind, ps.v, .int .i64 p.code, body.v, .slice ad p.parts.length cap]); exact ptA9; exact ptS; exact rfl; exact .here; exact rfl; exact Row.all) | (apply OQ.callx (vs := [.agg #[Z p.kind, ps.v, .int .i64 p.code, body.v, .slice ad p.parts.length cap]]); exact goes_bof; exact rfl; exact (cf _)) | (apply OQ.load; exact ptC12; exact rfl; exact .here; exact (Row.cell (v := .slice ad p.parts.length cap) rfl)) | (apply OQ.len; exact Tryz.underlying34; exact rfl) | (apply OQ.eqB (b := 0); exact rfl; exact rfl; exact g1) | (apply OQ.pick_f; exact rfl; exact rfl) | (apply OQ.callx (vs := [Z bd]); exact goes_mbnd; exact rfl; exact (fun w' _ => cb w')) | (apply OQ.not; exact rfl) | (apply OQ.load; exact inC12w; exact rfl; exact .here; exact (Row.cell (v := .int .i64 p.code) rfl)) | (apply OQ.neB (b := 0); exact rfl; exact rfl; exact g2) | (apply OQ.load; exact bsCF; exact rfl; exact .here; exact (Row.cell (v := body.v) rfl)) | (apply OQ.len; exact Tryz.underlying22; exact rfl) | (apply OQ.gtrB (b := 0); exact rfl; exact rfl; exact g3) | (apply OQ.move; exact rfl) | (apply OQ.assign; exact rfl) | (apply OQ.fld; exact rfl; exact rfl; exact rfl; exact (by decide); exact rfl)) rfl ?_ | refine JC.seq ?_ | refine JC.region ?_ | refine JL.nil ?_ | refine JE.next ?_ | refine JL.gon rfl rfl ?_)
  refine JC.cond rfl (fun h => by cases h) (fun _ => ?_)
  cases k with
  | zero =>
    have hk : partsW (subW Qe 0) p = .error 5 := hP
    rw [hk]
    have h8 : decide ((8 : Int) ≤ (others : Int)) = true := decide_eq_true (by omega)
    repeat (first | refine JL.q (by first | (apply OQ.geqB (a := (others : Int)) (b := 8); exact rfl; exact rfl; exact h8) | (apply OQ.move; exact rfl)) rfl ?_ | refine JC.seq ?_ | refine JC.region ?_ | refine JC.skip ?_ | refine JL.nil ?_ | refine JE.next ?_)
    refine JC.cond rfl (fun _ => ?_) (fun h => by cases h)
    repeat (first | refine JL.q (by (apply OQ.assign; exact rfl)) rfl ?_ | refine JC.seq ?_ | refine JC.region ?_ | refine JL.nil ?_ | refine JE.next ?_)
    refine JC.ret ?_
    repeat (refine JE.then_ret ?_)
    exact JE.ret2 rfl (RV.tmp rfl) (RV.tmp rfl) fun w' hw => ⟨⟨nilS, ⟨rfl, fun _ => rfl⟩⟩, rfl, hw.weak (.nil _)⟩
  | succ k =>
  have ih := ih k rfl
  have h8 : decide ((8 : Int) ≤ (others : Int)) = false := decide_eq_false (by omega)
  have hP : partsW (subW Qe (k + 1)) p = match mapE (writeP Qe k) p.parts with
          | .error e => .error e
          | .ok xs =>
            if spltB (jn bd (xs.map fun x => writeO x.1 x.2) []) bd = (xs.map (fun x => writeO x.1 x.2), 0) then .ok (jn bd (xs.map fun x => writeO x.1 x.2) [])
            else .error 3 := hP
  generalize partsW (subW Qe (k + 1)) p = R at hP
  have hbe := fun w' => mbetw_any bd w' (by omega)
  have hla := fun w' => mlastl_any bd w' (by omega)
  clear cf cb
  repeat (first | refine JL.q (by first | (apply OQ.geqB (a := (others : Int)) (b := 8); exact rfl; exact rfl; exact h8) | (apply OQ.move; exact rfl)) rfl ?_ | refine JC.seq ?_ | refine JC.region ?_ | refine JC.skip ?_ | refine JL.nil ?_ | refine JE.next ?_)
  refine JC.cond rfl (fun h => by cases h) (fun _ => ?_)
  repeat (first | refine JL.q (by first | (apply OQ.load; exact ptC12; exact rfl; exact .here; exact (Row.cell (v := .slice ad p.parts.length cap) rfl)) | (apply OQ.len; exact Tryz.underlying34; exact rfl) | (apply OQ.move; exact rfl) | (apply OQ.assign; exact rfl) | (apply OQ.fld; exact rfl; exact rfl; exact rfl; exact (by decide); exact rfl)) rfl ?_ | refine JC.seq ?_ | refine JC.region ?_ | refine JC.block ?_ | refine JC.skip ?_ | refine JL.nil ?_ | refine JE.next ?_)
  refine JC.loop (fun z : WpZ => [(1, N others), (6, Z bd), (7, accV z.qb ((upTo bd (z.rs.map Sl8.l)).map U8).length), (8, accV z.qm (z.rs.map Sl8.v).length), (41, .slice ad p.parts.length cap), (42, N p.parts.length), (43, N z.i)])
    (fun z => accE 5 z.qb ((upTo bd (z.rs.map Sl8.l)).map U8) ++ (accE 22 z.qm (z.rs.map Sl8.v) ++ (flatE z.rs ++ []))) (fun z => p.parts.length - z.i)
    (fun z => z.i ≤ p.parts.length ∧ (z.qb = none → (upTo bd (z.rs.map Sl8.l)).map U8 = []) ∧ (z.qm = none → z.rs = []) ∧ z.rs.length = z.i ∧ (∀ x ∈ z.rs, (x.ad = none → x.l = []) ∧ x.l.length ≤ 2097152) ∧ ∃ L, mapE (writeP Qe k) (p.parts.take z.i) = .ok L ∧ z.rs.map Sl8.l = L.map fun x => writeO x.1 x.2) ⟨0, none, none, []⟩
    ⟨Nat.zero_le _, fun _ => rfl, fun _ => rfl, rfl, nofun, [], rfl, rfl⟩ (by repeat (first | exact SubE.nil | refine SubE.cons _ _ _ rfl ?_)) (.nil _) ?_
  rintro ⟨i, qb, qm, rs⟩ ⟨hi, hqb, hqm, hrl, hrs, L, hL, hLl⟩
  dsimp only at hi hqb hqm hrl hrs hLl hL ⊢
  have hul : (upTo bd (rs.map Sl8.l)).length ≤ 10600000 := by
    have h1 := upTo_len (bd := bd) (l := rs.map Sl8.l) (m := 2097152) (fun q hq => by
      obtain ⟨x, hx, rfl⟩ := List.mem_map.1 hq
      exact (hrs x hx).2)
    rw [List.length_map] at h1
    have h2 : rs.length * (bd.length + 2097152 + 6) ≤ 5 * (1000 + 2097152 + 6) := Nat.mul_le_mul (by omega) (by omega)
    omega
  repeat (first | refine JL.q (by (apply OQ.lssN; exact rfl; exact rfl)) rfl ?_ | refine JC.seq ?_ | refine JC.region ?_ | refine JL.nil ?_ | refine JE.next ?_)
  refine JC.cond rfl (fun h => ?_) (fun h => ?_)
  · have hi' : i < p.parts.length := of_decide_eq_true h
    clear h
    obtain ⟨ba, j, rfl, lt, hc⟩ := sub_at hr hsub (show i < subs.length by omega)
    have k1 := hsub i (by omega)
    have hqm' := getD_mem hi'
    have hnq := hq2 _ hqm'
    have hlw := l8 _ hqm'
    have htake : p.parts = p.parts.take i ++ p.parts.getD i default :: p.parts.drop (i + 1) := by rw [← drop_at default hi', List.take_append_drop]
    have htk : p.parts.take (i + 1) = p.parts.take i ++ [p.parts.getD i default] := by
      rw [List.take_add_one, List.getElem?_eq_getElem hi', List.getD_eq_getElem?_getD, List.getElem?_eq_getElem hi']
      rfl
    have c5 := k1.len
    have c1 := isPart_one k1
    have cw := fun (M : List Ent) (w' : World) (hw' : Holds w [] M w') => ih (p.parts.getD i default) (subs.getD i []) w' (hE.holds hw') (k1.ext hw'.chg) hnq hlw
    generalize p.parts.getD i default = q at cw htake htk
    generalize subs.getD i [] = c at hc c5 c1 cw
    clear k1 hnq hlw
    repeat (first | refine JL.q (by first | (apply OQ.idxS (i := i); exact Tryz.underlying34; exact ptS; exact rfl; exact rfl; exact hi') | (apply OQ.load_agg_old (cs := c); exact ptA; exact rfl; exact (by rw [c5]; exact ptS); exact lt; exact (by simp); exact hc)) rfl ?_ | refine JC.seq ?_ | refine JC.region ?_ | refine JC.block ?_ | refine JC.skip ?_ | refine JE.next ?_)
    refine JL.alloc (r := pz) ?_ ?_ fun b10 _ => ?_
    exact ptZ9
    rfl
    refine JL.store_all (cs := c) ptS rfl rfl c5 c1 .here rfl ?_
    repeat (first | refine JL.q (by first | (apply OQ.load_agg (cs := c); exact ptA9; exact ptS; exact rfl; exact .here; exact c5; exact Row.all) | (apply OQ.move; exact rfl) | (apply OQ.addN; exact rfl; exact rfl; exact (by (try simp only []); omega))) rfl ?_ | refine JC.seq ?_ | refine JC.region ?_ | refine JL.nil ?_ | refine JE.next ?_)
    refine JL.callg (ι := WA (writeP Qe k q)) (vs := [.agg c.toArray, N (others + 1)]) (fun x => .tuple #[.agg #[x.f.v, x.s.v], x.m.v, N (codeE (writeP Qe k q))]) (fun x => x.ents) goes_mwriteU rfl rfl (fun x => x.wr) (cw _) ?_
    intro x
    refine JL.less (M' := x.m.ents ++ (accE 5 qb ((upTo bd (rs.map Sl8.l)).map U8) ++ (accE 22 qm (rs.map Sl8.v) ++ (flatE rs ++ [])))) (by rw [WA.ents, List.append_assoc, List.append_assoc]; exact less_app _ (less_app _ (less_app2 (.drop _ _ _ (Less.refl _)) _))) ?_
    repeat (refine JL.q (by first | (apply OQ.extract; exact rfl; exact rfl) | (apply OQ.move; exact rfl)) rfl ?_)
    refine JL.alloc ltZ12 rfl fun b11 _ => ?_
    refine JL.store_all (cs := [x.f.v, x.s.v]) ltS12 rfl rfl rfl rfl .here rfl ?_
    have hcp : (∃ e, writeP Qe k q = .error e) ∨ (∃ y, writeP Qe k q = .ok y) := by
      cases writeP Qe k q with
      | error e => exact .inl ⟨e, rfl⟩
      | ok q => exact .inr ⟨q, rfl⟩
    rcases hcp with ⟨e, he⟩ | ⟨⟨fq, bq⟩, he⟩
    · have hk : codeE (writeP Qe k q) = e := by rw [he]; rfl
      have hne0 := writeP_ne Qe k he
      have hM : mapE (writeP Qe k) p.parts = .error e := by
        rw [htake]
        exact mapE_err hL he
      rw [hM] at hP
      obtain rfl : R = .error e := hP
      have hne : decide ((e : Int) = 0) = false := decide_eq_false (by omega)
      rw [hk]
      repeat (first | refine JL.q (by first | (apply OQ.neB (a := (e : Int)) (b := 0); exact rfl; exact rfl; exact hne) | (apply OQ.move; exact rfl) | (apply OQ.assign; exact rfl)) rfl ?_ | refine JC.seq ?_ | refine JC.region ?_ | refine JL.nil ?_ | refine JE.next ?_)
      refine JC.cond rfl (fun _ => ?_) (fun h => by cases h)
      repeat (first | refine JL.q (by first | (apply OQ.move; exact rfl) | (apply OQ.assign; exact rfl)) rfl ?_ | refine JC.seq ?_ | refine JC.region ?_ | refine JL.nil ?_ | refine JE.next ?_)
      refine JC.ret ?_
      repeat (first | refine JE.then_ret ?_ | refine JE.blk_ret ?_)
      exact JE.ret2 rfl (RV.tmp rfl) (RV.tmp rfl) fun w' hw => ⟨⟨nilS, ⟨rfl, fun _ => rfl⟩⟩, rfl, hw.weak (.nil _)⟩
    · have hk : codeE (writeP Qe k q) = 0 := by rw [he]; rfl
      have hml : x.m.l = writeO fq bq := x.hm _ he
      have hm2 : x.m.l.length ≤ 2097152 := by rw [hml]; exact written_len (writeP_K Qe k he)
      have h00 : decide (((0 : Nat) : Int) = 0) = true := rfl
      rw [hk]
      repeat (first | refine JL.q (by first | (apply OQ.neB (a := ((0 : Nat) : Int)) (b := 0); exact rfl; exact rfl; exact h00) | (apply OQ.move; exact rfl) | (apply OQ.assign; exact rfl)) rfl ?_ | refine JC.seq ?_ | refine JC.region ?_ | refine JL.nil ?_ | refine JE.next ?_)
      refine JC.cond rfl (fun h => by cases h) (fun _ => ?_)
      have hfs := x.nm
      have hLl2 : (rs ++ [x.m]).map Sl8.l = (L ++ [(fq, bq)]).map fun x => writeO x.1 x.2 := by rw [List.map_append, List.map_append, hLl]; show _ ++ [x.m.l] = _; rw [hml]; rfl
      clear hml
      generalize x.m = m at hm2 hfs hLl2
      repeat (first | refine JL.q (by (apply OQ.move; exact rfl)) rfl ?_ | refine JC.seq ?_ | refine JC.region ?_ | refine JC.skip ?_ | refine JE.next ?_)
      refine JL.lit1 (v := m.v) Tryz.underlying24 slE12 rfl rfl rfl rfl fun bl _ => ?_
      refine JL.less (M' := ⟨bl, Row 22 [m.v], true⟩ :: (m.ents ++ (accE 5 qb ((upTo bd (rs.map Sl8.l)).map U8) ++ (accE 22 qm (rs.map Sl8.v) ++ (flatE rs ++ []))))) (.keep _ _ _ _ _ _ (fun _ h => h) (.drop _ _ _ (Less.refl _))) ?_
      refine JL.perm (M' := ⟨bl, Row 22 [m.v], true⟩ :: (accE 22 qm (rs.map Sl8.v) ++ (m.ents ++ (accE 5 qb ((upTo bd (rs.map Sl8.l)).map U8) ++ (flatE rs ++ []))))) ?_ (List.Perm.cons _ (wperm1 _ _ _ _))
      have hvl : (rs.map Sl8.v).length = rs.length := List.length_map _
      refine JL.appendV (L := rs.map Sl8.v) (v := m.v) qm Tryz.underlying24 slE12 (fun h => by rw [hqm h]; rfl) rfl rfl rfl rfl (by rw [hvl]; omega) (by rw [hvl]; omega) rfl fun b' cap' => ?_
      refine JL.perm (M' := accE 5 qb ((upTo bd (rs.map Sl8.l)).map U8) ++ (accE 22 (some (b', cap')) (rs.map Sl8.v ++ [m.v]) ++ (m.ents ++ (flatE rs ++ [])))) ?_ (wperm2 _ _ _ _)
      rw [show rs.map Sl8.v ++ [m.v] = (rs ++ [m]).map Sl8.v by rw [List.map_append]; rfl]
      have hxl : (45 :: 45 :: bd ++ [13, 10] : List Bt).length = bd.length + 4 := by simp
      have hul2 : ((upTo bd (rs.map Sl8.l)).map U8).length ≤ 10600000 := by rw [List.length_map]; exact hul
      repeat (first | refine JL.q (by first | (apply OQ.callx (vs := [Z bd]); exact goes_mbetw; exact rfl; exact (fun w' _ => hbe w')) | (apply OQ.addS (l := 45 :: 45 :: bd) (r := [13, 10]); exact rfl; exact rfl; exact (by simp; omega)) | (apply OQ.move; exact rfl) | (apply OQ.assign; exact rfl)) rfl ?_ | refine JC.seq ?_ | refine JC.region ?_ | refine JL.nil ?_ | refine JE.next ?_)
      refine JL.appendZ (r := 45 :: 45 :: bd ++ [13, 10]) (xs := (upTo bd (rs.map Sl8.l)).map U8) qb Tryz.underlying22 Tryz.underlying9 u8e hqb rfl rfl nofun (by rw [hxl]; omega) rfl fun p1 => ?_
      have e1 : ((upTo bd (rs.map Sl8.l)).map U8 ++ (45 :: 45 :: bd ++ [13, 10]).map U8).length ≤ 10700000 := by simp only [List.length_append, List.length_map, List.length_cons, List.length_nil]; omega
      repeat (first | refine JL.q (by first | (apply OQ.move; exact rfl) | (apply OQ.assign; exact rfl)) rfl ?_ | refine JC.seq ?_ | refine JC.region ?_ | refine JL.nil ?_ | refine JE.next ?_)
      refine JL.appendQ (z := .int .u8 0) (by' := 1) (m := m.l.length) (cs := m.l.map U8) (some p1) Tryz.underlying22 u8e nofun rfl rfl (List.length_map _) (fun w' hw' => (Sl8.ents_ok (Sl.Holds.weak hw' (less_app _ (less_app _ (Less.refl _)))) hfs).reads) (fun v hv => by obtain ⟨c, _, rfl⟩ := List.mem_map.1 hv; rfl) rfl (by omega) (by omega) rfl fun q2 hq2 => ?_
      have e2 : (((upTo bd (rs.map Sl8.l)).map U8 ++ (45 :: 45 :: bd ++ [13, 10]).map U8) ++ m.l.map U8).length ≤ 12900000 := by rw [List.length_append]; have : (m.l.map U8).length = m.l.length := List.length_map _; omega
      repeat (first | refine JL.q (by first | (apply OQ.move; exact rfl) | (apply OQ.assign; exact rfl)) rfl ?_ | refine JC.region ?_ | refine JL.nil ?_ | refine JE.next ?_)
      refine JL.appendZ (r := [13, 10]) q2 Tryz.underlying22 Tryz.underlying9 u8e hq2 rfl rfl nofun (by show _ + 2 ≤ _; omega) rfl fun p3 => ?_
      have e3 : (((upTo bd (rs.map Sl8.l)).map U8 ++ (45 :: 45 :: bd ++ [13, 10]).map U8) ++ m.l.map U8) ++ ([13, 10] : List Bt).map U8 = (upTo bd ((rs ++ [m]).map Sl8.l)).map U8 := by
        rw [List.map_append (l₁ := rs), show [m].map Sl8.l = [m.l] from rfl, upTo_snoc]
        simp only [List.map_append, List.append_assoc]
      rw [e3]
      clear e1 e2 e3 hxl hul2 hq2
      repeat (first | refine JL.q (by first | (apply OQ.move; exact rfl) | (apply OQ.assign; exact rfl) | (apply OQ.addN; exact rfl; exact rfl; exact (by (try simp only []); omega))) rfl ?_ | refine JC.region ?_ | refine JL.nil ?_ | refine JE.next ?_ | refine JE.blk_normal ?_)
      refine JE.perm (M' := accE 5 (some p3) ((upTo bd ((rs ++ [m]).map Sl8.l)).map U8) ++ (accE 22 (some (b', cap')) ((rs ++ [m]).map Sl8.v) ++ (flatE (rs ++ [m]) ++ []))) (wperm3 _ _ _ _) ?_
      refine JE.again (i := WpZ.mk i qb qm rs) (WpZ.mk (i + 1) (some p3) (some (b', cap')) (rs ++ [m])) ⟨hi', nofun, nofun, ?_, fun x hx => ?_, L ++ [(fq, bq)], ?_, hLl2⟩ (by show p.parts.length - (i + 1) < p.parts.length - i; omega) (by repeat (first | exact SubE.nil | refine SubE.cons _ _ _ rfl ?_)) (Less.refl _)
      · show (rs ++ [m]).length = i + 1
        rw [List.length_append, hrl]; rfl
      · rcases List.mem_append.1 hx with h | h
        · exact hrs x h
        · rw [List.mem_singleton.1 h]; exact ⟨hfs, hm2⟩
      · show mapE _ (p.parts.take (i + 1)) = _
        rw [htk]
        exact mapE_snoc hL he
  · have hi' : ¬ i < p.parts.length := of_decide_eq_false h
    obtain rfl : i = p.parts.length := by omega
    rw [List.take_length] at hL
    rw [hL] at hP
    dsimp only at hP
    rw [← hLl] at hP
    have hxl : (45 :: 45 :: (bd ++ [45, 45]) ++ [13, 10] : List Bt).length = bd.length + 6 := by simp
    have hul2 : ((upTo bd (rs.map Sl8.l)).map U8).length ≤ 10600000 := by rw [List.length_map]; exact hul
    have hjl : (jn bd (rs.map Sl8.l) []).length ≤ 10700000 := by
      show (upTo bd (rs.map Sl8.l) ++ (45 :: 45 :: (bd ++ [45, 45]) ++ [13, 10])).length ≤ _
      rw [List.length_append, hxl]; omega
    have hjn : (upTo bd (rs.map Sl8.l)).map U8 ++ (45 :: 45 :: (bd ++ [45, 45]) ++ [13, 10] : List Bt).map U8 = (jn bd (rs.map Sl8.l) []).map U8 := (List.map_append).symm
    repeat (first | refine JL.q (by first | (apply OQ.callx (vs := [Z bd]); exact goes_mlastl; exact rfl; exact (fun w' _ => hla w')) | (apply OQ.addS (l := 45 :: 45 :: (bd ++ [45, 45])) (r := [13, 10]); exact rfl; exact rfl; exact (by simp; omega)) | (apply OQ.move; exact rfl)) rfl ?_ | refine JC.seq ?_ | refine JC.region ?_ | refine JC.exit ?_ | refine JE.next ?_ | refine JE.then_exit ?_ | refine JE.blk_hit ?_)
    refine JL.appendZ (r := 45 :: 45 :: (bd ++ [45, 45]) ++ [13, 10]) (xs := (upTo bd (rs.map Sl8.l)).map U8) qb Tryz.underlying22 Tryz.underlying9 u8e hqb rfl rfl nofun (by rw [hxl]; omega) rfl fun p1 => ?_
    rw [hjn]
    clear hjn hxl hul2
    generalize jn bd (rs.map Sl8.l) [] = B at hjl hP
    have cs8 : ∀ w', Holds w [] (accE 5 (some p1) (B.map U8) ++ (accE 22 qm (rs.map Sl8.v) ++ (flatE rs ++ []))) w' → Calls Tryz.prog 8 [accV (some p1) (B.map U8).length, Z bd].toArray w' fun e w2 => ∃ z : SpA (spltB B bd).1, e = .returned (.tuple #[z.v, N (spltB B bd).2]) ∧ Holds w' [] z.ents w2 := fun w' hw' => by
      have ok : (accS (some p1) B).ok w' := (acc_ok hw')
      have h1 := msplit_any (accS (some p1) B) bd w' ok (by show B.length ≤ _; omega) hbl
      rw [accS_v] at h1
      rw [List.length_map]
      exact h1
    have hc0 : (spltB B bd).2 = 0 ∨ (spltB B bd).2 ≠ 0 := by omega
    have hnl : (spltB B bd).1.length ≤ 10700002 := by
      have h0 := linR_sum B []
      have h1 := sum_drop (fun x => markB bd x.1 != 1) (linB B)
      unfold spltB
      rw [if_neg (by rw [hB]; decide)]
      cases ho : splL bd ((linB B).dropWhile fun x => markB bd x.1 != 1) [] with
      | none => exact Nat.zero_le _
      | some out =>
        obtain ⟨h2, _⟩ := splL_sum bd _ _ [] out (Nat.le_refl _) ho
        have : (linB B).length ≤ B.length + 1 := h0.2
        have e0 : ([] : List (List Fld.By)).length = 0 := rfl
        show out.length ≤ _
        omega
    generalize hsp : spltB B bd = S at cs8 hP hc0 hnl
    obtain ⟨ys, kc⟩ := S
    dsimp only at cs8 hc0 hnl
    repeat (first | refine JL.q (by first | (apply OQ.move; exact rfl) | (apply OQ.assign; exact rfl)) rfl ?_ | refine JC.seq ?_ | refine JC.region ?_ | refine JL.nil ?_ | refine JE.next ?_)
    refine JL.callg (ι := SpA ys) (vs := [accV (some p1) (B.map U8).length, Z bd]) (fun z => .tuple #[z.v, N kc]) (fun z => z.ents) goes_msplitL rfl rfl (fun z => z.wr) cs8 ?_
    intro sp
    rcases hc0 with rfl | hk0
    rotate_left
    · have hne : decide ((kc : Int) = 0) = false := decide_eq_false (by omega)
      rw [if_neg (fun h => by cases h; exact hk0 rfl)] at hP
      subst hP
      repeat (first | refine JL.q (by first | (apply OQ.extract; exact rfl; exact rfl) | (apply OQ.neB (a := (kc : Int)) (b := 0); exact rfl; exact rfl; exact hne) | (apply OQ.pick_t; exact rfl; exact rfl) | (apply OQ.move; exact rfl) | (apply OQ.assign; exact rfl)) rfl ?_ | refine JC.seq ?_ | refine JC.region ?_ | refine JL.nil ?_ | refine JE.next ?_ | refine JL.gskip rfl rfl rfl rfl ?_)
      refine JC.cond rfl (fun _ => ?_) (fun h => by cases h)
      repeat (first | refine JL.q (by (apply OQ.assign; exact rfl)) rfl ?_ | refine JC.seq ?_ | refine JC.region ?_ | refine JL.nil ?_ | refine JE.next ?_)
      refine JC.ret ?_
      repeat (refine JE.then_ret ?_)
      exact JE.ret2 rfl (RV.tmp rfl) (RV.tmp rfl) fun w' hw => ⟨⟨nilS, ⟨rfl, fun _ => rfl⟩⟩, rfl, hw.weak (.nil _)⟩
    have h00 : decide (((0 : Nat) : Int) = 0) = true := rfl
    have hls1 : (acL sp.q sp.rs).ls = ys := by unfold SlL.ls; rw [acL_rs sp.hq]; exact sp.hrs
    have hls2 : (acL qm rs).ls = rs.map Sl8.l := by unfold SlL.ls; rw [acL_rs hqm]
    have ce : ∀ w', Holds w [] (sp.ents ++ (accE 5 (some p1) (B.map U8) ++ (accE 22 qm (rs.map Sl8.v) ++ (flatE rs ++ [])))) w' → Calls Tryz.prog 59 [sp.v, accV qm (rs.map Sl8.v).length, .func (.func 60) #[] #[]].toArray w' fun e w2 => e = .returned (.bool (decide (ys = rs.map Sl8.l))) ∧ Ext w' w2 := fun w' hw' => by
      have ok1 : (acL sp.q sp.rs).ok w' := acL_ok (M := accE 5 (some p1) (B.map U8) ++ (accE 22 qm (rs.map Sl8.v) ++ (flatE rs ++ []))) (by rw [← List.append_assoc]; exact hw') sp.h0
      have ok2 : (acL qm rs).ok w' := acL_ok (M := []) (Sl.Holds.weak hw' (less_app _ (less_app _ (Less.refl _)))) (fun x hx => (hrs x hx).1)
      have e : sp.rs.length = ys.length := by rw [← List.length_map (f := Sl8.l), sp.hrs]
      have h1 := eqf_any _ _ w' ok1 ok2 (by rw [acL_rs sp.hq]; omega) (by rw [acL_rs hqm]; omega)
      rw [hls1, hls2, acL_v, acL_v] at h1
      exact h1
    cases hEq : decide (ys = rs.map Sl8.l)
    · rw [hEq] at ce
      rw [if_neg (fun h => of_decide_eq_false hEq (by cases h; rfl))] at hP
      subst hP
      repeat (first | refine JL.q (by first | (apply OQ.extract; exact rfl; exact rfl) | (apply OQ.neB (a := ((0 : Nat) : Int)) (b := 0); exact rfl; exact rfl; exact h00) | (apply OQ.callx (vs := [sp.v, accV qm (rs.map Sl8.v).length, .func (.func 60) #[] #[]]); exact goes_eqf; exact rfl; exact ce) | (apply OQ.not; exact rfl) | (apply OQ.pick_f; exact rfl; exact rfl) | (apply OQ.move; exact rfl) | (apply OQ.assign; exact rfl)) rfl ?_ | refine JC.seq ?_ | refine JC.region ?_ | refine JL.nil ?_ | refine JE.next ?_ | refine JL.gon rfl rfl ?_)
      refine JC.cond rfl (fun _ => ?_) (fun h => by cases h)
      repeat (first | refine JL.q (by (apply OQ.assign; exact rfl)) rfl ?_ | refine JC.seq ?_ | refine JC.region ?_ | refine JL.nil ?_ | refine JE.next ?_)
      refine JC.ret ?_
      repeat (refine JE.then_ret ?_)
      exact JE.ret2 rfl (RV.tmp rfl) (RV.tmp rfl) fun w' hw => ⟨⟨nilS, ⟨rfl, fun _ => rfl⟩⟩, rfl, hw.weak (.nil _)⟩
    · rw [hEq] at ce
      rw [if_pos (by rw [of_decide_eq_true hEq])] at hP
      subst hP
      repeat (first | refine JL.q (by first | (apply OQ.extract; exact rfl; exact rfl) | (apply OQ.neB (a := ((0 : Nat) : Int)) (b := 0); exact rfl; exact rfl; exact h00) | (apply OQ.callx (vs := [sp.v, accV qm (rs.map Sl8.v).length, .func (.func 60) #[] #[]]); exact goes_eqf; exact rfl; exact ce) | (apply OQ.not; exact rfl) | (apply OQ.pick_f; exact rfl; exact rfl) | (apply OQ.move; exact rfl) | (apply OQ.assign; exact rfl)) rfl ?_ | refine JC.seq ?_ | refine JC.region ?_ | refine JL.nil ?_ | refine JE.next ?_ | refine JL.gon rfl rfl ?_)
      refine JC.cond rfl (fun h => by cases h) (fun _ => ?_)
      repeat (first | refine JL.q (by first | (apply OQ.move; exact rfl) | (apply OQ.assign; exact rfl)) rfl ?_ | refine JC.seq ?_ | refine JC.region ?_ | refine JC.skip ?_ | refine JL.nil ?_ | refine JE.next ?_)
      refine JC.ret ?_
      skip
      refine JE.ret2 rfl (RV.tmp rfl) (RV.tmp rfl) fun w' hw => ⟨⟨accS (some p1) B, ⟨rfl, nofun⟩⟩, ?_, ?_⟩
      · show _ = Ending.returned (.tuple #[(accS (some p1) B).v, _])
        rw [accS_v, List.length_map]
        rfl
      · exact (Sl.Holds.weak hw (less_app _ (less_pre _ _))).weak (accS_ents (some p1) B)
end Go.Proofs.YtbbmhkdfdgnkpaaGreatDoor

/-
  Of no statement by itself: what MimeOpen gives, over MimeOk.
  Conditions: MimeOk, and each theorem's own.
-/
namespace Go.Proofs.YtbbmhkdfdgnkpaaGreatDoor
set_option maxRecDepth 10000
open Sl Fld Tok Mim
namespace Mim
end Mim
theorem fsC12 : scal Tryz.prog 39 = true := by kernel_rfl
section
variable {P : Program} {n : Nat} {w0 : World} {S : List Nat} {ops : Array Oper} {Q : Exit → Act → World → Prop} {l : List Oper} {E : Env} {M M' M0 : List Ent} {d : Nat} {t e ty : TypeId} {pos : String} {aft : Array Edge} {x y : Operand}
/-- some pairs more -/
theorem JL.appendPP {z : Value} {by' bl k c : Nat} {L2 L : List Pr} (q : Acc) (hu : P.underlying t = some (.slice e)) (hi : EI P e z 2 by') (hq : q = none → L = []) (hk : L2.length = k) (h0 : 0 < k) (hx : ev E x = some (accV q L.length)) (hy : ev E y = some (.slice (some ⟨bl, 0, none⟩) k c))
    (hzz : z.cells.size = 2) (hsm : (L.length + k) * by' ≤ 140737488355328) (hsm2 : L.length + k < 9223372036854775808) (hd : Nat.blt d n = true)
    (kk : ∀ b' cap', JL P n w0 S ops Q l ((d, accV (some (b', cap')) (L ++ L2).length) :: E) (accP e (some (b', cap')) (L ++ L2) ++ M0)) :
    JL P n w0 S ops Q (⟨some d, .call ⟨.builtin .append, #[x, y], #[t, t]⟩, ty, pos, aft, none⟩ :: l) E (⟨bl, Row e (L2.flatMap pc), true⟩ :: (accP e q L ++ M0)) := by
  have hr : ∀ w, Holds w0 S (⟨bl, Row e (L2.flatMap pc), true⟩ :: (accP e q L ++ M0)) w → Reads w (some ⟨bl, 0, none⟩) (L2.flatMap pc) := fun w hw => by
    obtain ⟨o, ho, hA⟩ := hw.get (b := bl) (A := Row e (L2.flatMap pc)) (wr := true) .here
    exact Reads.block ho (Row.all _ hA)
  have eN : (L ++ L2).length = L.length + k := by rw [List.length_append, hk]
  have eF : (L ++ L2).flatMap pc = L.flatMap pc ++ L2.flatMap pc := List.flatMap_append
  have eL : (L2.flatMap pc).length = k * 2 := by rw [pc_len, hk]; omega
  have h1 : ∀ v ∈ L2.flatMap pc, v.oneCell' = true := fun v hv => by obtain ⟨p, _, hp⟩ := List.mem_flatMap.1 hv; exact Sl.pc_one v hp
  cases q with
  | none =>
    obtain rfl := hq rfl
    refine JL.append_nil (cs := L2.flatMap pc) (m := k) hu hi hx hy eL hr h0 hzz (by decide) (by simpa using hsm) (by simpa using hsm2) hd fun b' cap' _ => ?_
    have := kk b' cap'
    rw [show accV (some (b', cap')) ([] ++ L2 : List Pr).length = Value.slice (some ⟨b', 0, none⟩) k cap' by rw [List.nil_append, hk]; rfl] at this
    refine this.lessM ?_
    show Less (⟨b', Sl.Own e 2 ([] ++ L2 : List Pr).length cap' (([] ++ L2 : List Pr).flatMap pc), true⟩ :: M0) _
    rw [List.nil_append, hk]
    exact .keep _ _ _ _ _ _ (fun o h => h) (.drop _ _ _ (Less.refl _))
  | some r =>
    refine JL.append (cs := L2.flatMap pc) (m := k) (b := r.1) (cap := r.2) (k := L.length) (xs := L.flatMap pc) (fun b' cap' => ⟨bl, Row e (L2.flatMap pc), true⟩ :: (accP e (some (b', cap')) (L ++ L2) ++ M0)) hu hi hx hy (fun b' cap' => ?_) eL hr h1 hzz (by decide) hsm hsm2 hd fun b' cap' => ?_
    · show Repl (_ :: ⟨r.1, Sl.Own e 2 L.length r.2 (L.flatMap pc), true⟩ :: M0) _ _ _ _ (_ :: ⟨b', Sl.Own e 2 (L ++ L2).length cap' ((L ++ L2).flatMap pc), true⟩ :: M0)
      rw [eN, eF]
      exact .there .here
    · have := kk b' cap'
      rw [show accV (some (b', cap')) (L ++ L2).length = Value.slice (some ⟨b', 0, none⟩) (L.length + k) cap' by rw [eN]; rfl] at this
      exact this.lessM (.drop _ _ _ (Less.refl _))
end
section
variable {n : Nat} {E : Env} {C : World → Prop} {dst : Option Tmp} {ty : TypeId} {pos : String} {aft : Array Edge} {g : Option (Nat × Bool)} {x y : Operand}
end
structure OpT where
  i : Nat
  o : List Pr
  q : Acc
end Go.Proofs.YtbbmhkdfdgnkpaaGreatDoor

/-
  Of no statement by itself: what the landed mime's write and Write give.
  Conditions: each theorem's own.
-/
namespace Go.Proofs.YtbbmhkdfdgnkpaaGreatDoor
set_option maxRecDepth 10000
open Sl Fld Mim Tok
theorem goes_lwriteM : Goes Tryz.prog 42 := ⟨_, Tryz.func42, rfl, by kernel_rfl⟩
theorem esc_lenM : ∀ v : List Fld.By, (esc v).length ≤ 2 * v.length
  | [] => Nat.le_refl _
  | c :: v => by
    have := esc_lenM v
    show ((if c = 34 ∨ c = 92 then [92, c] else [c]) ++ esc v : List Fld.By).length ≤ _
    rw [List.length_append, List.length_cons]
    split <;> simp only [List.length_cons, List.length_nil] <;> omega
theorem parW_lenM (p : List Fld.By × List Fld.By) : (parW p).length ≤ p.1.length + 2 * p.2.length + 5 := by
  have := esc_lenM p.2
  unfold parW
  split <;> simp only [List.length_append, List.length_cons, List.length_nil] <;> omega
theorem pars_lenM (b : Nat) : ∀ l : List (List Fld.By × List Fld.By), (∀ p ∈ l, p.1.length ≤ b ∧ p.2.length ≤ b) → (l.flatMap parW).length ≤ (3 * b + 5) * l.length
  | [], _ => Nat.le_refl _
  | p :: l, h => by
    have h1 := parW_lenM p
    have h2 := h p (by simp)
    have h3 := pars_lenM b l fun q hq => h q (by simp [hq])
    rw [List.flatMap_cons, List.length_append, List.length_cons, Nat.mul_succ]
    omega
theorem row_own2 {e : TypeId} {p : Pr} : ∀ o, Row e (pc p) o → Sl.Own e 2 1 1 ([p].flatMap pc) o := by
  rintro o rfl
  exact ⟨[], by simp [pc], by simp [pc], by simp [pc], Nat.le_refl _⟩
theorem finW_is (f : List Fld.PrB) (b : List Fld.By) : (writeK f b = 0 ∧ finW f b = .ok (f, b)) ∨ (writeK f b ≠ 0 ∧ finW f b = .error (writeK f b)) := by
  unfold finW
  by_cases h : writeK f b = 0
  · exact .inl ⟨h, if_pos h⟩
  · exact .inr ⟨h, if_neg h⟩
theorem wperm4 (Y A B : List Ent) : (Y ++ (A ++ (B ++ []))).Perm (A ++ (B ++ (Y ++ []))) := by
  rw [List.append_nil, List.append_nil, ← List.append_assoc A B Y]
  exact List.perm_append_comm
theorem wperm5 (Z A B Y : List Ent) : (Z ++ (A ++ (B ++ (Y ++ [])))).Perm (A ++ (B ++ (Y ++ (Z ++ [])))) := by
  rw [List.append_nil, List.append_nil, ← List.append_assoc B Y Z, ← List.append_assoc A (B ++ Y) Z]
  exact List.perm_append_comm
theorem wperm6 (a b : Ent) (L : List Ent) : (a :: b :: (L ++ [])).Perm (L ++ [a, b]) := by
  rw [List.append_nil]
  exact List.perm_append_comm (l₁ := [a, b]) (l₂ := L)
theorem wperm8 (Y : List Ent) (a b : Ent) (B : List Ent) : (Y ++ (a :: b :: (B ++ []))).Perm (a :: b :: (B ++ (Y ++ []))) := wperm4 Y [a, b] B
theorem wperm9 (Z : List Ent) (a b : Ent) (B Y : List Ent) : (Z ++ (a :: b :: (B ++ (Y ++ [])))).Perm (a :: b :: (B ++ (Y ++ (Z ++ [])))) := wperm5 Z [a, b] B Y
theorem less_appR {A' A : List Ent} (h : Less A' A) (B : List Ent) : Less (A' ++ B) (A ++ B) := by
  induction h with
  | nil M => exact less_app M (Less.refl _)
  | keep _ _ _ _ _ _ h _ ih => exact .keep _ _ _ _ _ _ h ih
  | drop _ _ _ _ ih => exact .drop _ _ _ ih
theorem mapE_mem {α β : Type} {f : α → Except Nat β} : ∀ {l : List α} {xs : List β}, mapE f l = .ok xs → xs.length = l.length ∧ ∀ x ∈ xs, ∃ a, f a = .ok x
  | [], xs, h => by cases h; exact ⟨rfl, nofun⟩
  | a :: l, xs, h => by
    unfold mapE at h
    cases e1 : f a with
    | error e => rw [e1] at h; cases h
    | ok y =>
      rw [e1] at h
      cases e2 : mapE f l with
      | error e => rw [e2] at h; cases h
      | ok ys =>
        rw [e2] at h
        cases h
        obtain ⟨h1, h2⟩ := mapE_mem e2
        refine ⟨by rw [List.length_cons, List.length_cons, h1], fun x hx => ?_⟩
        rcases List.mem_cons.1 hx with rfl | hx
        · exact ⟨a, e1⟩
        · exact h2 x hx
theorem partsW_len (Qe : List Fld.By → List Fld.By) (k : Nat) {p : Part} {b : List Fld.By} (h : partsW (subW Qe k) p = .ok b) (hb : (parB p.ps bdN).length ≤ 1000) (h5 : p.parts.length ≤ 5) : b.length ≤ 10700000 := by
  unfold partsW at h
  split at h
  · cases h
  · split at h
    · cases h
    · rename_i g hg
      split at h
      · cases h
      · rename_i xs hx
        split at h
        · cases h
          obtain ⟨n1, n2⟩ := mapE_mem hx
          have h1 := upTo_len (bd := parB p.ps bdN) (l := xs.map fun x : List Fld.PrB × List Fld.By => writeO x.1 x.2) (m := 2097152) (fun q hq => by
            obtain ⟨x, hx, rfl⟩ := List.mem_map.1 hq
            obtain ⟨a, ha⟩ := n2 x hx
            cases k with
            | zero => cases hg
            | succ k => cases hg; exact written_len (writeP_K Qe k ha))
          rw [List.length_map] at h1
          have h2 : xs.length * ((parB p.ps bdN).length + 2097152 + 6) ≤ 5 * (1000 + 2097152 + 6) := Nat.mul_le_mul (by omega) (by omega)
          show (upTo (parB p.ps bdN) (xs.map fun x : List Fld.PrB × List Fld.By => writeO x.1 x.2) ++ (45 :: 45 :: (parB p.ps bdN ++ [45, 45]) ++ [13, 10])).length ≤ _
          rw [List.length_append]
          have h3 : (45 :: 45 :: (parB p.ps bdN ++ [45, 45]) ++ [13, 10] : List Fld.By).length = (parB p.ps bdN).length + 6 := by simp
          omega
        · cases h
set_option maxHeartbeats 64000000 in
theorem write_step (Qe : List Fld.By → List Fld.By) (k others : Nat) (hko : k + others = 8) (ih : ∀ k', k = k' + 1 → WritesAs Qe k' (others + 1)) : WritesAs Qe k others := by
  intro p cs w hE hp hq hlo
  have cwp := fun (M : List Ent) (w' : World) (hw' : Holds w [] M w') => wparts_any Qe k others hko ih p cs w' (hE.holds hw') (hp.ext hw'.chg) hq hlo
  obtain ⟨ps, body, ad, cap, subs, rfl, ⟨okp, lp⟩, ⟨okb, lb⟩, hcap, hr, hsl, hsub⟩ := hp
  obtain ⟨l1, l2, l3, l4, l5, l6, l7, l8⟩ := hlo
  have hq0 := hq.1
  clear hq ih l8 hsub hr
  have hv : (writeB p.kind p.ps).length ≤ 40000 := by
    have h1 := pars_lenM 1000 p.ps (fun q hq => l3 q hq)
    have h2 : (3 * 1000 + 5) * p.ps.length ≤ (3 * 1000 + 5) * 10 := Nat.mul_le_mul_left _ l2
    unfold writeB
    rw [List.length_append]
    omega
  have ct := fun (M : List Ent) (w' : World) (hw' : Holds w [] M w') => writeA_any p.kind ps w' (okp.holds hw' rfl) (by omega) (by rw [lp]; omega) (fun q hq => by rw [lp] at hq; have := l3 q hq; omega)
  rw [lp] at ct
  refine enter (n := 75) Tryz.func25 rfl rfl rfl (Holds.start w []) ?_
  refine JC.seq (JC.region (JL.box (r := [Z p.kind, ps.v, .int .i64 p.code, body.v, .slice ad p.parts.length cap]) rfl rfl rfl fun b2 _ => ?_))
  refine JL.alloc ltZ12 rfl fun b4 _ => ?_
  have h30 : decide (((3 : Nat) : Int) = 0) = false := rfl
  have h00 : decide (((0 : Nat) : Int) = 0) = true := rfl
  cases hR : rightP p.kind p.ps
  · rw [hR, if_neg (by decide), if_neg (by decide)] at ct
    rw [writeP_wrong Qe k hR]
    repeat (first | refine JL.q (by first | (apply OQ.load; exact strC; exact rfl; exact (.there .here); exact (Row.cell (v := Z p.kind) rfl)) | (apply OQ.load; exact prC; exact rfl; exact (.there .here); exact (Row.cell (v := ps.v) rfl)) | (apply OQ.callx (vs := [Z p.kind, ps.v]); exact goes_writeA; exact rfl; exact (ct _)) | (apply OQ.extract; exact rfl; exact rfl) | (apply OQ.neB (a := ((3 : Nat) : Int)) (b := 0); exact rfl; exact rfl; exact h30) | (apply OQ.move; exact rfl) | (apply OQ.assign; exact rfl) | (apply OQ.fld; exact rfl; exact rfl; exact rfl; exact (by decide); exact rfl)) rfl ?_ | refine JC.seq ?_ | refine JC.region ?_ | refine JL.nil ?_ | refine JE.next ?_)
    refine JC.cond rfl (fun _ => ?_) (fun h => by cases h)
    repeat (first | refine JL.q (by first | (apply build_L0) | (apply OQ.move; exact rfl)) rfl ?_ | refine JC.seq ?_ | refine JC.region ?_)
    refine JL.store_all (cs := [nil2.v, nilS.v]) ltS12 rfl rfl rfl rfl .here rfl ?_
    repeat (first | refine JL.q (by (apply OQ.assign; exact rfl)) rfl ?_ | refine JL.nil ?_ | refine JE.next ?_)
    refine JC.ret ?_
    repeat (refine JE.then_ret ?_)
    exact JE.ret3 rfl (RV.cell_agg ltA12 ltS12 rfl .here rfl Row.all) (RV.tmp rfl) (RV.tmp rfl) fun w' hw => ⟨WA.err, rfl, hw.weak (.nil _)⟩
  rw [hR, if_pos rfl, if_pos rfl] at ct
  generalize hWv : writeB p.kind p.ps = W at ct hv
  repeat (first | refine JL.q (by first | (apply OQ.load; exact strC; exact rfl; exact (.there .here); exact (Row.cell (v := Z p.kind) rfl)) | (apply OQ.load; exact prC; exact rfl; exact (.there .here); exact (Row.cell (v := ps.v) rfl)) | (apply OQ.callx (vs := [Z p.kind, ps.v]); exact goes_writeA; exact rfl; exact (ct _)) | (apply OQ.extract; exact rfl; exact rfl) | (apply OQ.neB (a := ((0 : Nat) : Int)) (b := 0); exact rfl; exact rfl; exact h00) | (apply OQ.move; exact rfl) | (apply OQ.assign; exact rfl) | (apply OQ.fld; exact rfl; exact rfl; exact rfl; exact (by decide); exact rfl)) rfl ?_ | refine JC.seq ?_ | refine JC.region ?_ | refine JL.nil ?_ | refine JE.next ?_)
  refine JC.cond rfl (fun h => by cases h) (fun _ => ?_)
  repeat (first | refine JL.q (by first | (apply OQ.buildF (a := ctW) (b := W); exact rfl; exact rfl) | (apply OQ.move; exact rfl)) rfl ?_ | refine JC.seq ?_ | refine JC.region ?_ | refine JC.skip ?_ | refine JE.next ?_)
  refine JL.litA (cs := pc (ctW, W)) Tryz.underlying39 fieldI rfl (by decide) (by decide) rfl rfl rfl fun b5 _ => ?_
  repeat (refine JL.q (by (apply OQ.fld; exact rfl; exact rfl; exact rfl; exact (by decide); exact rfl)) rfl ?_)
  refine JL.store_eq (b := b4) (r := [nil2.v, nilS.v]) (r' := [accV (some (b5, 1)) [(ctW, W)].length, nilS.v]) rfl rfl rfl rfl rfl (.there .here) (show 0 < 2 from Nat.zero_lt_succ _) rfl ?_
  refine JL.perm (M' := ⟨b4, Row 41 [accV (some (b5, 1)) [(ctW, W)].length, nilS.v], true⟩ :: ⟨b2, Row 36 [Z p.kind, ps.v, .int .i64 p.code, body.v, .slice ad p.parts.length cap], true⟩ :: [⟨b5, Row 51 (pc (ctW, W)), true⟩]) ?_ (List.perm_append_comm (l₁ := [_]) (l₂ := [_, _]))
  refine JL.less (M' := ⟨b4, Row 41 [accV (some (b5, 1)) [(ctW, W)].length, nilS.v], true⟩ :: ⟨b2, Row 36 [Z p.kind, ps.v, .int .i64 p.code, body.v, .slice ad p.parts.length cap], true⟩ :: (accP 51 (some (b5, 1)) [(ctW, W)] ++ [])) (.keep _ _ _ _ _ _ (fun _ h => h) (.keep _ _ _ _ _ _ (fun _ h => h) (.keep _ _ _ _ _ _ (fun o h => row_own2 o h) (.nil _)))) ?_
  have ch := fun w' => hasp_any p.kind ps.v (.int .i64 p.code) body.v (.slice ad p.parts.length cap) rfl w'
  cases hMu : multiB p.kind
  · rw [hMu] at ch
    have hLeaf := writeP_leaf Qe k hR hMu
    have hc : p.code = 0 ∨ p.code = 1 := by omega
    have hn : namB p.code = some (ceV p.code) := by rcases hc with h | h <;> rw [h] <;> rfl
    have cn := fun (M : List Ent) (w' : World) (hw' : Holds w [] M w') => nameof_any p.code w' (hE.holds hw')
    rw [hn] at cn
    have hcl : (ceV p.code).length ≤ 100 := by rcases hc with h | h <;> rw [h] <;> decide
    generalize hCe : ceV p.code = C at cn hcl hLeaf
    have cb := fun (M : List Ent) (w' : World) (hw' : Holds w [] M w') => wbody_any Qe p.kind ps.v (.slice ad p.parts.length cap) p.code body w' rfl (okb.holds hw' rfl) (by rw [lb]; omega) hc
    have hbw : (bodyW Qe p.code body.l).length ≤ 1000000 := by
      unfold bodyW
      rcases hc with h | h
      · rw [h, if_neg (by decide), if_neg (by decide), lb]; omega
      · rw [h, if_pos rfl]
        have h1 := Arm.lnB_len (Arm.encB body.l) (Arm.encB body.l).length
        have h2 := Arm.encB_len body.l
        unfold Arm.linesB
        rw [lb] at h1 h2 ⊢
        omega
    rw [lb] at cb hbw
    rw [hWv] at hLeaf
    generalize bodyW Qe p.code p.body = BB at cb hLeaf hbw
    cases g1 : decide ((0 : Int) < (p.parts.length : Int))
    rotate_left
    · rw [if_pos (.inr (.inr (fun h => by rw [h] at g1; cases g1)))] at hLeaf
      rw [hLeaf]
      repeat (first | refine JL.q (by first | (apply OQ.load_agg (cs := [Z p.kind, ps.v, .int .i64 p.code, body.v, .slice ad p.parts.length cap]); exact ptA9; exact ptS; exact rfl; exact (.there .here); exact rfl; exact Row.all) | (apply OQ.callx (vs := [.agg #[Z p.kind, ps.v, .int .i64 p.code, body.v, .slice ad p.parts.length cap]]); exact goes_hasp; exact rfl; exact (fun w' _ => ch w'))) rfl ?_ | refine JC.seq ?_ | refine JC.region ?_ | refine JL.nil ?_ | refine JE.next ?_)
      refine JC.cond rfl (fun h => by cases h) (fun _ => ?_)
      repeat (first | refine JL.q (by first | (apply OQ.load; exact inC12w; exact rfl; exact (.there .here); exact (Row.cell (v := .int .i64 p.code) rfl)) | (apply OQ.callx (vs := [.int .i64 p.code]); exact goes_nameof; exact rfl; exact (cn _)) | (apply OQ.extract; exact rfl; exact rfl) | (apply OQ.not; exact rfl) | (apply OQ.load; exact ptC12; exact rfl; exact (.there .here); exact (Row.cell (v := .slice ad p.parts.length cap) rfl)) | (apply OQ.len; exact Tryz.underlying34; exact rfl) | (apply OQ.gtrB (b := 0); exact rfl; exact rfl; exact g1) | (apply OQ.pick_f; exact rfl; exact rfl) | (apply OQ.move; exact rfl) | (apply OQ.assign; exact rfl) | (apply OQ.fld; exact rfl; exact rfl; exact rfl; exact (by decide); exact rfl)) rfl ?_ | refine JC.seq ?_ | refine JC.region ?_ | refine JL.nil ?_ | refine JE.next ?_ | refine JL.gon rfl rfl ?_)
      refine JC.cond rfl (fun _ => ?_) (fun h => by cases h)
      repeat (first | refine JL.q (by (apply build_L0)) rfl ?_ | refine JC.seq ?_ | refine JC.region ?_)
      refine JL.store_all (cs := [nil2.v, nilS.v]) ltS12 rfl rfl rfl rfl .here rfl ?_
      repeat (first | refine JL.q (by (apply OQ.assign; exact rfl)) rfl ?_ | refine JL.nil ?_ | refine JE.next ?_)
      refine JC.ret ?_
      repeat (refine JE.then_ret ?_)
      exact JE.ret3 rfl (RV.cell_agg ltA12 ltS12 rfl .here rfl Row.all) (RV.tmp rfl) (RV.tmp rfl) fun w' hw => ⟨WA.err, rfl, hw.weak (.nil _)⟩
    rw [if_neg (by
      rintro (h | h | h)
      · omega
      · omega
      · exact h (List.length_eq_zero_iff.1 (by have := of_decide_eq_false g1; omega)))] at hLeaf
    repeat (first | refine JL.q (by first | (apply OQ.load_agg (cs := [Z p.kind, ps.v, .int .i64 p.code, body.v, .slice ad p.parts.length cap]); exact ptA9; exact ptS; exact rfl; exact (.there .here); exact rfl; exact Row.all) | (apply OQ.callx (vs := [.agg #[Z p.kind, ps.v, .int .i64 p.code, body.v, .slice ad p.parts.length cap]]); exact goes_hasp; exact rfl; exact (fun w' _ => ch w'))) rfl ?_ | refine JC.seq ?_ | refine JC.region ?_ | refine JL.nil ?_ | refine JE.next ?_)
    refine JC.cond rfl (fun h => by cases h) (fun _ => ?_)
    repeat (first | refine JL.q (by first | (apply OQ.load; exact inC12w; exact rfl; exact (.there .here); exact (Row.cell (v := .int .i64 p.code) rfl)) | (apply OQ.callx (vs := [.int .i64 p.code]); exact goes_nameof; exact rfl; exact (cn _)) | (apply OQ.extract; exact rfl; exact rfl) | (apply OQ.not; exact rfl) | (apply OQ.load; exact ptC12; exact rfl; exact (.there .here); exact (Row.cell (v := .slice ad p.parts.length cap) rfl)) | (apply OQ.len; exact Tryz.underlying34; exact rfl) | (apply OQ.gtrB (b := 0); exact rfl; exact rfl; exact g1) | (apply OQ.pick_f; exact rfl; exact rfl) | (apply OQ.move; exact rfl) | (apply OQ.assign; exact rfl) | (apply OQ.fld; exact rfl; exact rfl; exact rfl; exact (by decide); exact rfl)) rfl ?_ | refine JC.seq ?_ | refine JC.region ?_ | refine JL.nil ?_ | refine JE.next ?_ | refine JL.gon rfl rfl ?_)
    refine JC.cond rfl (fun h => by cases h) (fun _ => ?_)
    repeat (first | refine JL.q (by first | (apply OQ.load; exact fsC12; exact rfl; exact .here; exact (Row.cell (v := accV (some (b5, 1)) [(ctW, W)].length) rfl)) | (apply OQ.buildF (a := ceW) (b := C); exact rfl; exact rfl) | (apply OQ.move; exact rfl) | (apply OQ.fld; exact rfl; exact rfl; exact rfl; exact (by decide); exact rfl)) rfl ?_ | refine JC.seq ?_ | refine JC.region ?_ | refine JC.skip ?_ | refine JE.next ?_)
    refine JL.litA (cs := pc (ceW, C)) Tryz.underlying39 fieldI rfl (by decide) (by decide) rfl rfl rfl fun b6 _ => ?_
    refine JL.perm (M' := ⟨b6, Row 51 ([(ceW, C)].flatMap pc), true⟩ :: (accP 51 (some (b5, 1)) [(ctW, W)] ++ [⟨b4, Row 41 [accV (some (b5, 1)) [(ctW, W)].length, nilS.v], true⟩, ⟨b2, Row 36 [Z p.kind, ps.v, .int .i64 p.code, body.v, .slice ad p.parts.length cap], true⟩])) ?_ (List.Perm.cons _ (wperm6 _ _ _))
    refine JL.appendPP (L2 := [(ceW, C)]) (L := [(ctW, W)]) (some (b5, 1)) Tryz.underlying39 fieldI nofun rfl (Nat.zero_lt_succ _) rfl rfl rfl (by show (1 + 1) * 32 ≤ 140737488355328; decide) (by show 1 + 1 < 9223372036854775808; decide) rfl fun b7 cap7 => ?_
    refine JL.perm (M' := ⟨b4, Row 41 [accV (some (b5, 1)) [(ctW, W)].length, nilS.v], true⟩ :: ⟨b2, Row 36 [Z p.kind, ps.v, .int .i64 p.code, body.v, .slice ad p.parts.length cap], true⟩ :: (accP 51 (some (b7, cap7)) [(ctW, W), (ceW, C)] ++ [])) ?_ (wperm6 _ _ _).symm
    repeat (refine JL.q (by (apply OQ.fld; exact rfl; exact rfl; exact rfl; exact (by decide); exact rfl)) rfl ?_)
    refine JL.store_eq (b := b4) (r := [accV (some (b5, 1)) [(ctW, W)].length, nilS.v]) (r' := [accV (some (b7, cap7)) [(ctW, W), (ceW, C)].length, nilS.v]) rfl rfl rfl rfl rfl .here (show 0 < 2 from Nat.zero_lt_succ _) rfl ?_
    repeat (first | refine JL.q (by (apply OQ.load_agg (cs := [Z p.kind, ps.v, .int .i64 p.code, body.v, .slice ad p.parts.length cap]); exact ptA9; exact ptS; exact rfl; exact (.there .here); exact rfl; exact Row.all)) rfl ?_ | refine JC.region ?_ | refine JL.nil ?_ | refine JE.next ?_)
    refine JL.callg (ι := { y : Sl8 // Ans y BB }) (vs := [.agg #[Z p.kind, ps.v, .int .i64 p.code, body.v, .slice ad p.parts.length cap]]) (fun y => y.1.v) (fun y => y.1.ents) goes_wbody rfl rfl (fun y => y.1.ents_wr) (cb _) ?_
    intro y
    refine JL.perm (M' := ⟨b4, Row 41 [accV (some (b7, cap7)) [(ctW, W), (ceW, C)].length, nilS.v], true⟩ :: ⟨b2, Row 36 [Z p.kind, ps.v, .int .i64 p.code, body.v, .slice ad p.parts.length cap], true⟩ :: (accP 51 (some (b7, cap7)) [(ctW, W), (ceW, C)] ++ (y.1.ents ++ []))) ?_ (wperm8 y.1.ents _ _ _)
    repeat (refine JL.q (by (apply OQ.fld; exact rfl; exact rfl; exact rfl; exact (by decide); exact rfl)) rfl ?_)
    refine JL.store_eq (b := b4) (j := 1) (r := [accV (some (b7, cap7)) [(ctW, W), (ceW, C)].length, nilS.v]) (r' := [accV (some (b7, cap7)) [(ctW, W), (ceW, C)].length, y.1.v]) rfl rfl rfl rfl rfl .here (show 1 < 2 by decide) rfl ?_
    have hF1 : [(ctW, W), (ceW, C)].length ≤ 1000000 := by show 2 ≤ 1000000; decide
    have hF2 : ∀ q ∈ [(ctW, W), (ceW, C)], q.1.length < 9223372036854775808 ∧ q.2.length < 9223372036854775808 := by
      intro q hq
      simp only [List.mem_cons, List.not_mem_nil, or_false] at hq
      have e1 : ctW.length = 12 := rfl
      have e2 : ceW.length = 25 := rfl
      rcases hq with rfl | rfl <;> dsimp only <;> omega
    have cl : ∀ w', Holds w [] (⟨b4, Row 41 [accV (some (b7, cap7)) [(ctW, W), (ceW, C)].length, y.1.v], true⟩ :: ⟨b2, Row 36 [Z p.kind, ps.v, .int .i64 p.code, body.v, .slice ad p.parts.length cap], true⟩ :: (accP 51 (some (b7, cap7)) [(ctW, W), (ceW, C)] ++ (y.1.ents ++ []))) w' → Calls Tryz.prog 42 [.agg #[accV (some (b7, cap7)) [(ctW, W), (ceW, C)].length, y.1.v]].toArray w' fun e w2 => ∃ z : { z : Sl8 // Ans z (writeO [(ctW, W), (ceW, C)] BB) }, e = .returned (.tuple #[z.1.v, N (writeK [(ctW, W), (ceW, C)] BB)]) ∧ Holds w' [] z.1.ents w2 := fun w' hw' => by
      have okf : (accLp (some (b7, cap7)) [(ctW, W), (ceW, C)]).ok w' := accLp_ok (Sl.Holds.weak hw' (.drop _ _ _ (.drop _ _ _ (Less.refl _))))
      have oks : y.1.ok w' := Sl8.ents_ok (Sl.Holds.weak hw' (.drop _ _ _ (.drop _ _ _ (less_app _ (Less.refl _))))) y.2.none
      have h1 := lwriteN_any _ _ w' okf oks (fun q hq => hF2 q hq) (by show [(ctW, W), (ceW, C)].length ≤ _; exact hF1) (by rw [y.2.val]; omega)
      rw [accLp_v, y.2.val] at h1
      exact h1
    repeat (first | refine JL.q (by first | (apply OQ.neB (a := ((0 : Nat) : Int)) (b := 0); exact rfl; exact rfl; exact h00) | (apply OQ.move; exact rfl)) rfl ?_ | refine JC.seq ?_ | refine JC.region ?_ | refine JL.nil ?_ | refine JE.next ?_)
    refine JC.cond rfl (fun h => by cases h) (fun _ => ?_)
    repeat (first | refine JL.q (by (apply OQ.load_agg (cs := [accV (some (b7, cap7)) [(ctW, W), (ceW, C)].length, y.1.v]); exact ltA12; exact ltS12; exact rfl; exact .here; exact rfl; exact Row.all)) rfl ?_ | refine JC.seq ?_ | refine JC.region ?_ | refine JC.skip ?_ | refine JE.next ?_)
    refine JL.callg (ι := { z : Sl8 // Ans z (writeO [(ctW, W), (ceW, C)] BB) }) (vs := [.agg #[accV (some (b7, cap7)) [(ctW, W), (ceW, C)].length, y.1.v]]) (fun z => .tuple #[z.1.v, N (writeK [(ctW, W), (ceW, C)] BB)]) (fun z => z.1.ents) goes_lwriteM rfl rfl (fun z => z.1.ents_wr) cl ?_
    intro z
    refine JL.perm (M' := ⟨b4, Row 41 [accV (some (b7, cap7)) [(ctW, W), (ceW, C)].length, y.1.v], true⟩ :: ⟨b2, Row 36 [Z p.kind, ps.v, .int .i64 p.code, body.v, .slice ad p.parts.length cap], true⟩ :: (accP 51 (some (b7, cap7)) [(ctW, W), (ceW, C)] ++ (y.1.ents ++ (z.1.ents ++ [])))) ?_ (wperm9 z.1.ents _ _ _ _)
    rcases finW_is [(ctW, W), (ceW, C)] BB with ⟨hk, hW⟩ | ⟨hk, hW⟩
    · rw [hLeaf, hW]
      rw [hk]
      repeat (first | refine JL.q (by first | (apply OQ.extract; exact rfl; exact rfl) | (apply OQ.neB (a := ((0 : Nat) : Int)) (b := 0); exact rfl; exact rfl; exact h00) | (apply OQ.move; exact rfl) | (apply OQ.assign; exact rfl)) rfl ?_ | refine JC.seq ?_ | refine JC.region ?_ | refine JL.nil ?_ | refine JE.next ?_)
      refine JC.cond rfl (fun h => by cases h) (fun _ => ?_)
      repeat (first | refine JL.q (by first | (apply OQ.load_agg (cs := [accV (some (b7, cap7)) [(ctW, W), (ceW, C)].length, y.1.v]); exact ltA12; exact ltS12; exact rfl; exact .here; exact rfl; exact Row.all) | (apply OQ.move; exact rfl)) rfl ?_ | refine JC.seq ?_ | refine JC.region ?_ | refine JC.skip ?_ | refine JE.next ?_)
      refine JL.store_all (cs := [accV (some (b7, cap7)) [(ctW, W), (ceW, C)].length, y.1.v]) ltS12 rfl rfl rfl rfl .here rfl ?_
      repeat (first | refine JL.q (by (apply OQ.assign; exact rfl)) rfl ?_ | refine JL.nil ?_ | refine JE.next ?_)
      refine JC.ret ?_
      skip
      refine JE.ret3 rfl (RV.cell_agg (cs := [accV (some (b7, cap7)) [(ctW, W), (ceW, C)].length, y.1.v]) ltA12 ltS12 rfl .here rfl Row.all) (RV.tmp rfl) (RV.tmp rfl) fun w' hw => ⟨⟨accLp (some (b7, cap7)) [(ctW, W), (ceW, C)], y.1, z.1, rfl, y.2.val, fun x hx => ?_, accLp_n, y.2.none, z.2.none⟩, ?_, ?_⟩
      · cases hx
        exact z.2.val
      · show _ = Ending.returned (.tuple #[.agg #[(accLp (some (b7, cap7)) [(ctW, W), (ceW, C)]).v, y.1.v], z.1.v, _])
        rw [accLp_v]
        rfl
      · have h1 : Holds w [] (accP 51 (some (b7, cap7)) [(ctW, W), (ceW, C)] ++ (y.1.ents ++ z.1.ents)) w' := Sl.Holds.weak hw (.drop _ _ _ (.drop _ _ _ (less_app2 (less_app2 (less_pre _ _) _) _)))
        show Holds w [] ((accLp (some (b7, cap7)) [(ctW, W), (ceW, C)]).ents ++ (y.1.ents ++ z.1.ents)) w'
        exact Sl.Holds.weak h1 (less_appR (accP_ents _ _) _)
    · rw [hLeaf, hW]
      have hne : decide ((writeK [(ctW, W), (ceW, C)] BB : Int) = 0) = false := decide_eq_false (by omega)
      repeat (first | refine JL.q (by first | (apply OQ.extract; exact rfl; exact rfl) | (apply OQ.neB (b := 0); exact rfl; exact rfl; exact hne) | (apply OQ.move; exact rfl) | (apply OQ.assign; exact rfl)) rfl ?_ | refine JC.seq ?_ | refine JC.region ?_ | refine JL.nil ?_ | refine JE.next ?_)
      refine JC.cond rfl (fun _ => ?_) (fun h => by cases h)
      repeat (first | refine JL.q (by first | (apply build_L0) | (apply OQ.move; exact rfl)) rfl ?_ | refine JC.seq ?_ | refine JC.region ?_)
      refine JL.store_all (cs := [nil2.v, nilS.v]) ltS12 rfl rfl rfl rfl .here rfl ?_
      repeat (first | refine JL.q (by (apply OQ.assign; exact rfl)) rfl ?_ | refine JL.nil ?_ | refine JE.next ?_)
      refine JC.ret ?_
      repeat (refine JE.then_ret ?_)
      exact JE.ret3 rfl (RV.cell_agg ltA12 ltS12 rfl .here rfl Row.all) (RV.tmp rfl) (RV.tmp rfl) fun w' hw => ⟨WA.err, rfl, hw.weak (.nil _)⟩
  · rw [hMu] at ch
    have hMul := writeP_multi Qe k hR hMu
    rw [hWv] at hMul
    have hpn : ∀ e, partsW (subW Qe k) p = .error e → e ≠ 0 := fun e he => partsW_ne (fun g hg q e' hq' => by
      cases k with
      | zero => cases hg
      | succ k => cases hg; exact writeP_ne Qe k hq') he
    have hbl : ∀ b, partsW (subW Qe k) p = .ok b → b.length ≤ 4294967296 := fun b hb => by
      have := partsW_len Qe k hb (by
        unfold parB
        cases hf : p.ps.find? fun q => decide (q.1 = bdN) with
        | none => exact Nat.zero_le _
        | some q => exact (l3 q (List.mem_of_find?_eq_some hf)).2) l7
      omega
    generalize partsW (subW Qe k) p = R at cwp hMul hpn hbl
    repeat (first | refine JL.q (by first | (apply OQ.load_agg (cs := [Z p.kind, ps.v, .int .i64 p.code, body.v, .slice ad p.parts.length cap]); exact ptA9; exact ptS; exact rfl; exact (.there .here); exact rfl; exact Row.all) | (apply OQ.callx (vs := [.agg #[Z p.kind, ps.v, .int .i64 p.code, body.v, .slice ad p.parts.length cap]]); exact goes_hasp; exact rfl; exact (fun w' _ => ch w'))) rfl ?_ | refine JC.seq ?_ | refine JC.region ?_ | refine JL.nil ?_ | refine JE.next ?_)
    refine JC.cond rfl (fun _ => ?_) (fun h => by cases h)
    repeat (first | refine JL.q (by first | (apply OQ.load_agg (cs := [Z p.kind, ps.v, .int .i64 p.code, body.v, .slice ad p.parts.length cap]); exact ptA9; exact ptS; exact rfl; exact (.there .here); exact rfl; exact Row.all) | (apply OQ.move; exact rfl)) rfl ?_ | refine JC.region ?_)
    refine JL.callg (ι := { y : Sl8 // Ans y (okB R) }) (vs := [.agg #[Z p.kind, ps.v, .int .i64 p.code, body.v, .slice ad p.parts.length cap], N others]) (fun y => .tuple #[y.1.v, N (codeL R)]) (fun y => y.1.ents) goes_wparts rfl rfl (fun y => y.1.ents_wr) (cwp _) ?_
    intro y
    refine JL.perm (M' := ⟨b4, Row 41 [accV (some (b5, 1)) [(ctW, W)].length, nilS.v], true⟩ :: ⟨b2, Row 36 [Z p.kind, ps.v, .int .i64 p.code, body.v, .slice ad p.parts.length cap], true⟩ :: (accP 51 (some (b5, 1)) [(ctW, W)] ++ (y.1.ents ++ []))) ?_ (wperm8 y.1.ents _ _ _)
    repeat (refine JL.q (by first | (apply OQ.extract; exact rfl; exact rfl) | (apply OQ.move; exact rfl) | (apply OQ.fld; exact rfl; exact rfl; exact rfl; exact (by decide); exact rfl)) rfl ?_)
    refine JL.store_eq (b := b4) (j := 1) (r := [accV (some (b5, 1)) [(ctW, W)].length, nilS.v]) (r' := [accV (some (b5, 1)) [(ctW, W)].length, y.1.v]) rfl rfl rfl rfl rfl .here (show 1 < 2 by decide) rfl ?_
    cases R with
    | error e =>
      have hMul : writeP Qe k p = .error e := hMul
      have hne : decide ((e : Int) = 0) = false := decide_eq_false (by have := hpn e rfl; omega)
      rw [hMul]
      repeat (first | refine JL.q (by first | (apply OQ.neB (a := (e : Int)) (b := 0); exact rfl; exact rfl; exact hne) | (apply OQ.move; exact rfl) | (apply OQ.assign; exact rfl)) rfl ?_ | refine JC.seq ?_ | refine JC.region ?_ | refine JL.nil ?_ | refine JE.next ?_)
      refine JC.cond rfl (fun _ => ?_) (fun h => by cases h)
      repeat (first | refine JL.q (by first | (apply build_L0) | (apply OQ.move; exact rfl)) rfl ?_ | refine JC.seq ?_ | refine JC.region ?_)
      refine JL.store_all (cs := [nil2.v, nilS.v]) ltS12 rfl rfl rfl rfl .here rfl ?_
      repeat (first | refine JL.q (by (apply OQ.assign; exact rfl)) rfl ?_ | refine JL.nil ?_ | refine JE.next ?_)
      refine JC.ret ?_
      repeat (refine JE.then_ret ?_)
      exact JE.ret3 rfl (RV.cell_agg ltA12 ltS12 rfl .here rfl Row.all) (RV.tmp rfl) (RV.tmp rfl) fun w' hw => ⟨WA.err, rfl, hw.weak (.nil _)⟩
    | ok BB =>
      have hMul : writeP Qe k p = finW [(ctW, W)] BB := hMul
      have hbw := hbl BB rfl
      obtain ⟨y, hy⟩ := y
      have hy : Ans y BB := hy
      have hF1 : [(ctW, W)].length ≤ 1000000 := by show 1 ≤ 1000000; decide
      have hF2 : ∀ q ∈ [(ctW, W)], q.1.length < 9223372036854775808 ∧ q.2.length < 9223372036854775808 := by
        intro q hq
        have e1 : ctW.length = 12 := rfl
        rw [List.mem_singleton.1 hq]
        dsimp only
        omega
      have cl : ∀ w', Holds w [] (⟨b4, Row 41 [accV (some (b5, 1)) [(ctW, W)].length, y.v], true⟩ :: ⟨b2, Row 36 [Z p.kind, ps.v, .int .i64 p.code, body.v, .slice ad p.parts.length cap], true⟩ :: (accP 51 (some (b5, 1)) [(ctW, W)] ++ (y.ents ++ []))) w' → Calls Tryz.prog 42 [.agg #[accV (some (b5, 1)) [(ctW, W)].length, y.v]].toArray w' fun e w2 => ∃ z : { z : Sl8 // Ans z (writeO [(ctW, W)] BB) }, e = .returned (.tuple #[z.1.v, N (writeK [(ctW, W)] BB)]) ∧ Holds w' [] z.1.ents w2 := fun w' hw' => by
        have okf : (accLp (some (b5, 1)) [(ctW, W)]).ok w' := accLp_ok (Sl.Holds.weak hw' (.drop _ _ _ (.drop _ _ _ (Less.refl _))))
        have oks : y.ok w' := Sl8.ents_ok (Sl.Holds.weak hw' (.drop _ _ _ (.drop _ _ _ (less_app _ (Less.refl _))))) hy.none
        have h1 := lwriteN_any _ _ w' okf oks (fun q hq => hF2 q hq) (by show [(ctW, W)].length ≤ _; exact hF1) (by rw [hy.val]; omega)
        rw [accLp_v, hy.val] at h1
        exact h1
      repeat (first | refine JL.q (by first | (apply OQ.neB (a := ((0 : Nat) : Int)) (b := 0); exact rfl; exact rfl; exact h00) | (apply OQ.move; exact rfl) | (apply OQ.assign; exact rfl)) rfl ?_ | refine JC.seq ?_ | refine JC.region ?_ | refine JL.nil ?_ | refine JE.next ?_)
      refine JC.cond rfl (fun h => by cases h) (fun _ => ?_)
      repeat (first | refine JL.q (by (apply OQ.load_agg (cs := [accV (some (b5, 1)) [(ctW, W)].length, y.v]); exact ltA12; exact ltS12; exact rfl; exact .here; exact rfl; exact Row.all)) rfl ?_ | refine JC.seq ?_ | refine JC.region ?_ | refine JC.skip ?_ | refine JE.next ?_)
      refine JL.callg (ι := { z : Sl8 // Ans z (writeO [(ctW, W)] BB) }) (vs := [.agg #[accV (some (b5, 1)) [(ctW, W)].length, y.v]]) (fun z => .tuple #[z.1.v, N (writeK [(ctW, W)] BB)]) (fun z => z.1.ents) goes_lwriteM rfl rfl (fun z => z.1.ents_wr) cl ?_
      intro z
      refine JL.perm (M' := ⟨b4, Row 41 [accV (some (b5, 1)) [(ctW, W)].length, y.v], true⟩ :: ⟨b2, Row 36 [Z p.kind, ps.v, .int .i64 p.code, body.v, .slice ad p.parts.length cap], true⟩ :: (accP 51 (some (b5, 1)) [(ctW, W)] ++ (y.ents ++ (z.1.ents ++ [])))) ?_ (wperm9 z.1.ents _ _ _ _)
      rcases finW_is [(ctW, W)] BB with ⟨hk, hW⟩ | ⟨hk, hW⟩
      · rw [hMul, hW]
        rw [hk]
        repeat (first | refine JL.q (by first | (apply OQ.extract; exact rfl; exact rfl) | (apply OQ.neB (a := ((0 : Nat) : Int)) (b := 0); exact rfl; exact rfl; exact h00) | (apply OQ.move; exact rfl) | (apply OQ.assign; exact rfl)) rfl ?_ | refine JC.seq ?_ | refine JC.region ?_ | refine JL.nil ?_ | refine JE.next ?_)
        refine JC.cond rfl (fun h => by cases h) (fun _ => ?_)
        repeat (first | refine JL.q (by first | (apply OQ.load_agg (cs := [accV (some (b5, 1)) [(ctW, W)].length, y.v]); exact ltA12; exact ltS12; exact rfl; exact .here; exact rfl; exact Row.all) | (apply OQ.move; exact rfl)) rfl ?_ | refine JC.seq ?_ | refine JC.region ?_ | refine JC.skip ?_ | refine JE.next ?_)
        refine JL.store_all (cs := [accV (some (b5, 1)) [(ctW, W)].length, y.v]) ltS12 rfl rfl rfl rfl .here rfl ?_
        repeat (first | refine JL.q (by (apply OQ.assign; exact rfl)) rfl ?_ | refine JL.nil ?_ | refine JE.next ?_)
        refine JC.ret ?_
        skip
        refine JE.ret3 rfl (RV.cell_agg (cs := [accV (some (b5, 1)) [(ctW, W)].length, y.v]) ltA12 ltS12 rfl .here rfl Row.all) (RV.tmp rfl) (RV.tmp rfl) fun w' hw => ⟨⟨accLp (some (b5, 1)) [(ctW, W)], y, z.1, rfl, hy.val, fun x hx => ?_, accLp_n, hy.none, z.2.none⟩, ?_, ?_⟩
        · cases hx
          exact z.2.val
        · show _ = Ending.returned (.tuple #[.agg #[(accLp (some (b5, 1)) [(ctW, W)]).v, y.v], z.1.v, _])
          rw [accLp_v]
          rfl
        · have h1 : Holds w [] (accP 51 (some (b5, 1)) [(ctW, W)] ++ (y.ents ++ z.1.ents)) w' := Sl.Holds.weak hw (.drop _ _ _ (.drop _ _ _ (less_app2 (less_app2 (less_pre _ _) _) _)))
          show Holds w [] ((accLp (some (b5, 1)) [(ctW, W)]).ents ++ (y.ents ++ z.1.ents)) w'
          exact Sl.Holds.weak h1 (less_appR (accP_ents _ _) _)
      · rw [hMul, hW]
        have hne : decide ((writeK [(ctW, W)] BB : Int) = 0) = false := decide_eq_false (by omega)
        repeat (first | refine JL.q (by first | (apply OQ.extract; exact rfl; exact rfl) | (apply OQ.neB (b := 0); exact rfl; exact rfl; exact hne) | (apply OQ.move; exact rfl) | (apply OQ.assign; exact rfl)) rfl ?_ | refine JC.seq ?_ | refine JC.region ?_ | refine JL.nil ?_ | refine JE.next ?_)
        refine JC.cond rfl (fun _ => ?_) (fun h => by cases h)
        repeat (first | refine JL.q (by first | (apply build_L0) | (apply OQ.move; exact rfl)) rfl ?_ | refine JC.seq ?_ | refine JC.region ?_)
        refine JL.store_all (cs := [nil2.v, nilS.v]) ltS12 rfl rfl rfl rfl .here rfl ?_
        repeat (first | refine JL.q (by (apply OQ.assign; exact rfl)) rfl ?_ | refine JL.nil ?_ | refine JE.next ?_)
        refine JC.ret ?_
        repeat (refine JE.then_ret ?_)
        exact JE.ret3 rfl (RV.cell_agg ltA12 ltS12 rfl .here rfl Row.all) (RV.tmp rfl) (RV.tmp rfl) fun w' hw => ⟨WA.err, rfl, hw.weak (.nil _)⟩
theorem write_any (Qe : List Fld.By → List Fld.By) : ∀ (k others : Nat), k + others = 8 → WritesAs Qe k others
  | 0, others, h => write_step Qe 0 others h nofun
  | k + 1, others, h => write_step Qe (k + 1) others h fun k' e => by
    cases e
    exact write_any Qe k (others + 1) (by omega)
end Go.Proofs.YtbbmhkdfdgnkpaaGreatDoor

/-
  Of no statement by itself: what the landed mime's Write gives; what Write owes (MimeW).
  Conditions: each theorem's own.
-/
namespace Go.Proofs.YtbbmhkdfdgnkpaaGreatDoor
set_option maxRecDepth 10000
open Sl Fld Mim Tok
set_option maxHeartbeats 16000000 in
theorem mwrite_any (Qe : List Fld.By → List Fld.By) (p : Part) (cs : List Value) (w : World) (hE : EncOk w) (hp : IsPart 10 w p cs) (hq : noQ 9 p) (hlo : lowP 10 p) : Calls Tryz.prog 13 [.agg cs.toArray].toArray w
    fun e w' => ∃ x : WA (writeP Qe 8 p), e = .returned (.tuple #[.agg #[x.f.v, x.s.v], N (codeE (writeP Qe 8 p))]) ∧ Holds w [] x.ents w' := by
  have cw := fun (M : List Ent) (w' : World) (hw' : Holds w [] M w') => write_any Qe 8 0 rfl p cs w' (hE.holds hw') (hp.ext hw'.chg) hq hlo
  obtain ⟨ps, body, ad, cap, subs, rfl, _⟩ := hp
  refine enter (n := 15) Tryz.func13 rfl rfl rfl (Holds.start w []) ?_
  refine JC.seq (JC.region (JL.box (r := [Z p.kind, ps.v, .int .i64 p.code, body.v, .slice ad p.parts.length cap]) rfl rfl rfl fun b1 _ => ?_))
  refine JL.alloc ltZ12 rfl fun b2 _ => ?_
  repeat (first | refine JL.q (by first | (apply OQ.load_agg (cs := [Z p.kind, ps.v, .int .i64 p.code, body.v, .slice ad p.parts.length cap]); exact ptA9; exact ptS; exact rfl; exact (.there .here); exact rfl; exact Row.all) | (apply OQ.assign; exact rfl)) rfl ?_ | refine JC.seq ?_ | refine JC.region ?_ | refine JL.nil ?_ | refine JE.next ?_)
  refine JL.callg (ι := WA (writeP Qe 8 p)) (vs := [.agg #[Z p.kind, ps.v, .int .i64 p.code, body.v, .slice ad p.parts.length cap], N 0]) (fun x => .tuple #[.agg #[x.f.v, x.s.v], x.m.v, N (codeE (writeP Qe 8 p))]) (fun x => x.ents) goes_mwriteU rfl rfl (fun x => x.wr) (cw _) ?_
  intro x
  refine JL.perm (M' := ⟨b2, Row 41 [nil2.v, nilS.v], true⟩ :: ⟨b1, Row 36 [Z p.kind, ps.v, .int .i64 p.code, body.v, .slice ad p.parts.length cap], true⟩ :: (x.ents ++ [])) ?_ (wperm6 _ _ _).symm
  repeat (refine JL.q (by first | (apply OQ.extract; exact rfl; exact rfl) | (apply OQ.move; exact rfl)) rfl ?_)
  refine JL.alloc ltZ12 rfl fun b4 _ => ?_
  refine JL.store_all (cs := [x.f.v, x.s.v]) ltS12 rfl rfl rfl rfl .here rfl ?_
  repeat (first | refine JL.q (by first | (apply OQ.load_agg (cs := [x.f.v, x.s.v]); exact ltA12; exact ltS12; exact rfl; exact .here; exact rfl; exact Row.all) | (apply OQ.move; exact rfl) | (apply OQ.assign; exact rfl)) rfl ?_ | refine JC.seq ?_ | refine JC.region ?_ | refine JL.nil ?_ | refine JE.next ?_)
  refine JL.store_all (cs := [x.f.v, x.s.v]) ltS12 rfl rfl rfl rfl (.there .here) rfl ?_
  repeat (first | refine JL.q (by (apply OQ.assign; exact rfl)) rfl ?_ | refine JL.nil ?_ | refine JE.next ?_)
  refine JC.ret ?_
  skip
  exact JE.ret2 rfl (RV.cell_agg (cs := [x.f.v, x.s.v]) ltA12 ltS12 rfl (.there .here) rfl Row.all) (RV.tmp rfl) fun w' hw => ⟨x, rfl, hw.weak (.drop _ _ _ (.drop _ _ _ (.drop _ _ _ (less_pre _ _))))⟩
theorem mimeW : MimeW := ⟨fun Qe p cs w hE hp hq hlo => (mwrite_any Qe p cs w hE hp hq hlo).mono fun e w' ⟨x, h1, h2⟩ =>
  ⟨⟨(x.f, x.s), x.hf, x.hs⟩, h1, h2.chg, Sl2.ents_ok h2 x.nf, Sl8.ents_ok (M := x.m.ents) (Sl.Holds.weak h2 (less_app _ (Less.refl _))) x.ns⟩⟩
end Go.Proofs.YtbbmhkdfdgnkpaaGreatDoor

/-
  Of no statement by itself: what a plain row's proof opens its arguments with (keys, bytes, slices of bytes and of int).
  Conditions: each theorem's own.
-/
namespace Go.Proofs.YtbbmhkdfdgnkpaaGreatDoor
set_option maxRecDepth 10000
open Go.ChangeShapes Go.WideShapes Go.ChangeAt Go.RowKit
open Sl
set_option linter.unusedVariables false
theorem ownQ : ownKnob Tryz.prog.godebug = none := by kernel_rfl
theorem laidOutQ : laidOutB Tryz.prog = true := by kernel_rfl
theorem u8_of {z : Int} (h : (Lit.int .u8 z).wf = true) : U8 (BitVec.ofInt 8 z) = .int .u8 z := by
  have h0 : 0 ≤ z ∧ z ≤ 255 := by
    have h1 : (decide (0 ≤ z) && decide (z ≤ 255)) = true := h
    simpa using h1
  have h2 : ((BitVec.ofInt 8 z).toNat : Int) = z := by
    rw [BitVec.toNat_ofInt]
    omega
  unfold U8
  rw [h2]
def bits8 (zs : List Int) : List (BitVec 8) := zs.map (BitVec.ofInt 8)
theorem sl8_of {H : Type} {enc : TypeId × Value → H} {W : World} {fuel : Nat} {v : Value} {x : DataW H × List MemPlace} (h : DataW.trod enc Tryz.prog W 0 (fun _ => true) true fuel 22 [v] = some x) : ∃ k : Sl8, v = k.v ∧ k.ok W ∧ k.cap ≤ maxLen := by
  rcases open_ints (show Tryz.prog.underlying 22 = some (.slice 5) by kernel_rfl) (show Tryz.prog.underlying 5 = some (.int .u8) by kernel_rfl) (by kernel_rfl) h with ⟨hcs, _⟩ | ⟨x, l, c, zs, hcs, _, hl, hm, hz, _, hcell, hwz⟩
  · cases hcs
    exact ⟨⟨none, 0, []⟩, rfl, ⟨by simp, Reads.nil _ _⟩, by decide⟩
  · cases hcs
    simp only [if_true] at hz
    have hlen : (bits8 (zs.take l)).length = l := by simp [bits8]; omega
    refine ⟨⟨some x, c, bits8 (zs.take l)⟩, by simp [Sl8.v, hlen], ⟨by rw [hlen]; exact hl, ?_⟩, hm⟩
    intro i v hv
    have hi : i < l := by
      have := (List.getElem?_eq_some_iff.1 hv).1
      simpa [hlen] using this
    have hc := hcell i (by omega)
    obtain ⟨b, o, sp⟩ := x
    cases sp with
    | some s =>
      have hc := hcell 0 (by omega)
      simp only [World.cell?, Addr.add, if_true] at hc
      split at hc <;> simp at hc
    | none =>
      refine ⟨b, o, rfl, ?_⟩
      have e1 : zs.getD i 0 = zs[i]'(by omega) := by simp [List.getD, show i < zs.length by omega]
      have e2 := u8_of (hwz (zs[i]'(by omega)) (List.getElem_mem _))
      have e3 : v = .int .u8 (zs.getD i 0) := by
        simp only [bits8, List.map_map, List.getElem?_map, List.getElem?_take] at hv
        rw [if_pos hi, List.getElem?_eq_getElem (by omega)] at hv
        simp only [Option.map_some, Function.comp, Option.some.injEq] at hv
        rw [← hv, e2, e1]
      rw [e3]
      have e4 : (⟨b, o, none⟩ : Addr).add i = ⟨b, o + i, none⟩ := by
        unfold Addr.add
        split
        · subst i; rfl
        · rfl
      rw [e4] at hc
      exact hc
end Go.Proofs.YtbbmhkdfdgnkpaaGreatDoor

/-
  Of no statement by itself: the witness world of a card of mime's rows; that the encodings' table lies in its variable, out of what the card lists.
  Conditions: none.
-/
namespace Go.Proofs.YtbbmhkdfdgnkpaaGreatDoor
open Go.ChangeShapes Go.WideShapes Go.ChangeAt Go.RowKit
open Sl Mim
set_option linter.unusedVariables false
theorem laid_plain : ((Rows.mimeSplitsRow.laid).all fun x => x.2.handleName?.isNone) = true := by kernel_rfl
/-- The witness world meets the condition. -/
theorem wit_met (os : Os) (args : Array Value) : laidMetH Tryz.prog Rows.mimeSplitsRow.laid ((World.laidAll Tryz.prog os Rows.mimeSplitsRow.laid).forCall (fun _ _ => 0) ⟨#[], args, []⟩).memory := by
  rw [MakeChecks.laidMetH_plain _ _ _ laid_plain]
  exact laidMet_laidAll _ (by kernel_rfl) (by kernel_rfl)
theorem wit_shape (os : Os) : (World.laidAll Tryz.prog os Rows.mimeSplitsRow.laid).Shaped Tryz.prog := World.shaped_of_ZipB (by kernel_rfl) (by kernel_rfl)
theorem ro_of {W : World} {fuel : Nat} {cs : List Value} {s : List UInt8} {c : Int} {x : DataW Unit × List MemPlace} (h : DataW.trod (fun _ => ()) Tryz.prog W 0 (fun _ => true) false fuel 97 cs = some x) (hx : x.1 = .agg [.lit (.string s), .lit (.int .i64 c)]) : cs = [.string ⟨s.toArray⟩, .int .i64 c] := by
  obtain ⟨y0, y1, n, rfl, hl, g0, g1⟩ := trod_struct2 Tryz.underlying97 h
  have c9 : Tryz.prog.cellsOf 9 = 1 := by kernel_rfl
  have c3 : Tryz.prog.cellsOf 3 = 1 := by kernel_rfl
  have c2 : Tryz.prog.cellsOf 97 = 2 := by kernel_rfl
  dsimp only at g0 g1 hx
  rw [c9] at g0
  rw [c3] at g1
  rw [c2] at hl
  obtain ⟨s', q0, e0, _⟩ := DataW.trod_string (show Tryz.prog.underlying 9 = some .string by kernel_rfl) g0
  obtain ⟨z, q1, e1, _⟩ := DataW.trod_int (show Tryz.prog.underlying 3 = some (.int .i64) by kernel_rfl) g1
  rw [e0, e1] at hx
  simp only [DataW.agg.injEq, List.cons.injEq, DataW.lit.injEq, Lit.string.injEq, Lit.int.injEq, and_true, true_and] at hx
  obtain ⟨rfl, rfl⟩ := hx
  match cs, hl with
  | [a, b], _ =>
    simp at q0 q1
    rw [q0, q1]
theorem encOk_of_laid {W : World} (h : laidMetH Tryz.prog Rows.mimeSplitsRow.laid W) : EncOk W := by
  rw [MakeChecks.laidMetH_plain _ _ _ laid_plain] at h
  have h' : laidMet Tryz.prog (("unicode/utf8.acceptRanges", Rows.laid_unicode_utf8_acceptRanges) :: ("despatch/mime.encodings", Rows.laid_despatch_mime_encodings) :: [("unicode.CaseRanges", Rows.laid_unicode_CaseRanges), ("unicode/utf8.first", Rows.laid_unicode_utf8_first)]) W := h
  obtain ⟨ps, ⟨g1, t1, cs1, f1, p1, q1, _, _, _, _, ⟨g2, t2, cs2, f2, p2, q2, hg, ht, hvar, hd, _, _⟩, _⟩, _⟩ := h'
  have hg' : Tryz.prog.globalNamed "despatch/mime.encodings" = some 0 := by kernel_rfl
  obtain rfl := Option.some.inj (hg'.symm.trans hg)
  have ht' : (Tryz.prog.globals[0]?).map (·.type) = some 98 := by kernel_rfl
  obtain rfl := Option.some.inj (ht'.symm.trans ht)
  obtain ⟨xs, m, _, ex, hcl, hxl, hel⟩ := DataW.trod_array tbU hd
  have c2 : Tryz.prog.cellsOf 97 = 2 := by kernel_rfl
  have c12 : Tryz.prog.cellsOf 98 = 12 := by kernel_rfl
  rw [c12] at hcl
  simp only [c2] at hel
  have hx := congrArg Prod.fst ex
  dsimp only at hx
  unfold Rows.laid_despatch_mime_encodings at hx
  rw [DataW.agg.injEq] at hx
  match xs, hxl with
  | [x0, x1, x2, x3, x4, x5], _ =>
    simp only [List.map_cons, List.map_nil, List.cons.injEq, and_true] at hx
    obtain ⟨e0, e1, e2, e3, e4, e5⟩ := hx
    have r0 := ro_of (hel 0 (by decide)) e0.symm
    have r1 := ro_of (hel 1 (by decide)) e1.symm
    have r2 := ro_of (hel 2 (by decide)) e2.symm
    have r3 := ro_of (hel 3 (by decide)) e3.symm
    have r4 := ro_of (hel 4 (by decide)) e4.symm
    have r5 := ro_of (hel 5 (by decide)) e5.symm
    have hcs : cs2.toList = encT := by
      generalize cs2.toList = l at *
      match l, hcl with
      | [a0, a1, a2, a3, a4, a5, a6, a7, a8, a9, a10, a11], _ =>
        simp at r0 r1 r2 r3 r4 r5
        rw [r0.1, r0.2, r1.1, r1.2, r2.1, r2.2, r3.1, r3.2, r4.1, r4.2, r5.1, r5.2]
        rfl
    unfold World.var? at hvar
    rw [hg'] at hvar
    simp only [Option.bind_some] at hvar
    split at hvar
    · rename_i cs e fr hb
      refine ⟨e, fr, ?_⟩
      rw [hb, Option.some.inj hvar, ← hcs]
    · cases hvar
end Go.Proofs.YtbbmhkdfdgnkpaaGreatDoor
