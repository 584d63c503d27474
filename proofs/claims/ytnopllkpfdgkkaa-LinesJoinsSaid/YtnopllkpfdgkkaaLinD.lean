/-
  Of no statement by itself: what the landed lines.Split and Unstuff give.
  Conditions: each theorem's own.
-/
import Derived.Test.YtnopllkpfdgkkaaLinC
import Derived.Test.YtnopllkpfdgkkaaLinM
import Derived.Test.YtnopllkpfdgkkaaLinU
namespace Go.Proofs.Ytnopllkpfdgkkaa
open Sl Lin
theorem JL.upon {P : Program} {n : Nat} {w0 : World} {S : List Nat} {ops : Array Oper} {Q : Exit → Act → World → Prop} {l : List Oper} {E : Env} {M M' : List Ent} (hp : M.Perm M') (h : JL P n w0 S ops Q l E M') : JL P n w0 S ops Q l E M :=
  ⟨fun a w ha hw => h.go a w ha ⟨hw.chg, (hp.map Ent.b).nodup_iff.1 hw.nodup, fun e he => hw.all e (hp.mem_iff.2 he)⟩⟩
theorem JL.less {P : Program} {n : Nat} {w0 : World} {S : List Nat} {ops : Array Oper} {Q : Exit → Act → World → Prop} {l : List Oper} {E : Env} {M M' : List Ent} (hM : Less M' M) (h : JL P n w0 S ops Q l E M') : JL P n w0 S ops Q l E M :=
  ⟨fun a w ha hw => h.go a w ha (hw.weak hM)⟩
def accL (q : Acc) (rs : List Sl8) : SlL := match q with
  | none => ⟨none, 0, []⟩
  | some p => ⟨some ⟨p.1, 0, none⟩, p.2, rs⟩
theorem accL_v (q : Acc) (rs : List Sl8) : (accL q rs).v = accV q (rs.map Sl8.v).length := by
  cases q with
  | none => rfl
  | some p => show Value.slice _ rs.length _ = Value.slice _ (rs.map Sl8.v).length _; rw [List.length_map]; rfl
theorem accL_rs {q : Acc} {rs : List Sl8} (h : q = none → rs = []) : (accL q rs).rs = rs := by
  cases q with
  | none => exact (h rfl).symm
  | some p => rfl
theorem accL_ok {w0 w : World} {S : List Nat} {e : TypeId} {q : Acc} {rs : List Sl8} (hw : Holds w0 S (accE e q (rs.map Sl8.v) ++ flatE rs) w) (h0 : ∀ x ∈ rs, x.ad = none → x.l = []) : (accL q rs).ok w := by
  cases q with
  | none => exact ⟨Nat.le_refl _, Reads.nil _ _, fun y hy => by cases hy⟩
  | some p =>
    refine ownL_ok (e := e) (A := accE e (some p) (rs.map Sl8.v)) (wr := true) hw ?_ h0
    show Has (⟨p.1, Sl.Own e 1 (rs.map Sl8.v).length p.2 (rs.map Sl8.v), true⟩ :: flatE rs) _ _ _
    rw [List.length_map]
    exact .here
theorem flat_snoc {e : TypeId} (rs : List Sl8) (q : Acc) (l : List Bt) : Less (flatE (rs ++ [accS q l])) (flatE rs ++ accE e q (l.map U8)) := by
  unfold flatE
  rw [List.flatMap_append]
  refine less_app2 ?_ _
  show Less ((accS q l).ents ++ []) _
  rw [List.append_nil]
  exact accS_ents q l
theorem accV_cells (q : Acc) (k : Nat) : (accV q k).cells = #[accV q k] := by cases q <;> rfl
theorem accV_one (q : Acc) (k : Nat) : (accV q k).oneCell' = true := by cases q <;> rfl
theorem accV_v (q : Acc) (k : Nat) : ∃ ad sc m, accV q k = .slice ad m sc := by cases q <;> exact ⟨_, _, _, rfl⟩
theorem goes_asplit : Goes Try.prog 9 := ⟨_, Try.func9, rfl, by kernel_rfl⟩
theorem crlf_in : ∀ v ∈ ([U8 13, U8 10] : List Value), v.cells = #[v] := by
  intro v hv
  simp only [List.mem_cons, List.not_mem_nil, or_false] at hv
  rcases hv with rfl | rfl <;> rfl
set_option maxHeartbeats 16000000 in
theorem asplit_any (s : Sl8) (w : World) (hs : s.ok w) (hl : s.l.length ≤ 4000000) (hm : MaxOk w) : Calls Try.prog 9 [s.v].toArray w
    fun e w' => ∃ q : SlL × Sl8, e = .returned (.tuple #[q.1.v, q.2.v]) ∧ q.1.ls = (splB s.l).1 ∧ q.2.l = (splB s.l).2 ∧ Ext w w' ∧ q.1.ok w' ∧ q.2.ok w' := by
  refine enter (n := 26) Try.func9 rfl rfl rfl (Holds.start w []) ?_
  repeat (first | refine JL.q (by first | (apply OQ.move; exact rfl) | (apply OQ.assign; exact rfl) | (apply OQ.len; exact rfl; exact rfl)) rfl ?_ | refine JC.seq ?_ | refine JC.region ?_ | refine JC.block ?_ | refine JC.skip ?_ | refine JC.exit ?_ | refine JL.nil ?_ | refine JE.next ?_ | refine JE.blk_normal ?_ | refine JE.then_exit ?_ | refine JE.blk_hit ?_ | refine JE.blk_miss rfl ?_ | refine JE.then_ret ?_ | refine JE.blk_ret ?_ | refine JC.label ?_ | refine JL.gon rfl rfl ?_ | refine JL.gskip rfl rfl rfl rfl ?_ | refine JL.gskipU rfl rfl rfl rfl ?_)
  refine JC.loop (fun z : Sl8 × List Sl8 × Acc => [(0, z.1.v), (2, accV z.2.2 (z.2.1.map Sl8.v).length)]) (fun z => accE 22 z.2.2 (z.2.1.map Sl8.v) ++ flatE z.2.1) (fun z => z.1.l.length)
    (fun z => z.1.ok w ∧ (z.2.2 = none → z.2.1 = []) ∧ (∀ x ∈ z.2.1, x.ad = none → x.l = []) ∧ z.2.1.length + z.1.l.length ≤ s.l.length ∧ splB s.l = (z.2.1.map Sl8.l ++ (splB z.1.l).1, (splB z.1.l).2)) (s, [], none)
    ⟨hs, fun _ => rfl, fun x hx => by simp at hx, by simp, rfl⟩ (by repeat (first | exact SubE.nil | refine SubE.cons _ _ _ rfl ?_)) (Less.refl _) ?_
  rintro ⟨y, rs, q⟩ ⟨hy, hq, h0, hrl, hsp⟩
  dsimp only at hy hq h0 hrl hsp ⊢
  have hyl : y.l.length ≤ 4000000 := by omega
  repeat (first | refine JL.q (by first | (apply OQ.move; exact rfl) | (apply OQ.assign; exact rfl) | (apply OQ.len; exact rfl; exact rfl)) rfl ?_ | refine JC.seq ?_ | refine JC.region ?_ | refine JC.block ?_ | refine JC.skip ?_ | refine JC.exit ?_ | refine JL.nil ?_ | refine JE.next ?_ | refine JE.blk_normal ?_ | refine JE.then_exit ?_ | refine JE.blk_hit ?_ | refine JE.blk_miss rfl ?_ | refine JE.then_ret ?_ | refine JE.blk_ret ?_ | refine JC.label ?_ | refine JL.gon rfl rfl ?_ | refine JL.gskip rfl rfl rfl rfl ?_ | refine JL.gskipU rfl rfl rfl rfl ?_)
  refine JL.litL (xs := [.const (U8 13), .const (U8 10)]) (vs := [U8 13, U8 10]) Try.underlying22 u8e rfl rfl rfl rfl crlf_in rfl (by decide) (by decide) rfl fun bl _ => ?_
  refine JL.mark (r := [U8 13, U8 10]) (te := 5) Try.underlying22 Try.underlying5 rfl .here rfl ?_
  rcases cutI_spec y.l with ⟨hc, hno⟩ | ⟨i, hc, hi2, hat, hnb⟩
  · repeat (first | refine JL.q (by first | (apply OQ.callx (vs := [y.v, Sl8.v ⟨some ⟨bl, 0, none⟩, 2, [13, 10]⟩]); exact goes_cut; exact rfl; exact (fun w' hw' => cut_no y ⟨some ⟨bl, 0, none⟩, 2, [13, 10]⟩ w' (hy.holds hw' rfl) (frz_ok (l := [13, 10]) hw' .here (Nat.le_refl _)) rfl (by omega) (hm.ext hw'.chg) hc)) | (apply OQ.extract; exact rfl; exact rfl) | (apply OQ.not; exact rfl) | (apply OQ.move; exact rfl) | (apply OQ.assign; exact rfl) | (apply OQ.len; exact rfl; exact rfl)) rfl ?_ | refine JC.seq ?_ | refine JC.region ?_ | refine JC.block ?_ | refine JC.skip ?_ | refine JC.exit ?_ | refine JL.nil ?_ | refine JE.next ?_ | refine JE.blk_normal ?_ | refine JE.then_exit ?_ | refine JE.blk_hit ?_ | refine JE.blk_miss rfl ?_ | refine JE.then_ret ?_ | refine JE.blk_ret ?_ | refine JC.label ?_ | refine JL.gon rfl rfl ?_ | refine JL.gskip rfl rfl rfl rfl ?_ | refine JL.gskipU rfl rfl rfl rfl ?_)
    refine JC.cond_true rfl rfl ?_
    repeat (first | refine JL.q (by first | (apply OQ.move; exact rfl) | (apply OQ.assign; exact rfl) | (apply OQ.len; exact rfl; exact rfl)) rfl ?_ | refine JC.seq ?_ | refine JC.region ?_ | refine JC.block ?_ | refine JC.skip ?_ | refine JC.exit ?_ | refine JL.nil ?_ | refine JE.next ?_ | refine JE.blk_normal ?_ | refine JE.then_exit ?_ | refine JE.blk_hit ?_ | refine JE.blk_miss rfl ?_ | refine JE.then_ret ?_ | refine JE.blk_ret ?_ | refine JC.label ?_ | refine JL.gon rfl rfl ?_ | refine JL.gskip rfl rfl rfl rfl ?_ | refine JL.gskipU rfl rfl rfl rfl ?_)
    refine JL.callg (ι := { q : Acc // q = none → y.l = [] }) (fun q => accV q.1 y.l.length) (fun q => accE 5 q.1 (y.l.map U8)) goes_clone rfl rfl (fun q => accE_wr _ _ _) (fun w' hw' => (clone_any y w' (hy.holds hw' rfl) (by omega)).mono fun e w2 ⟨q, h1, h2, h3⟩ => ⟨⟨q, h2⟩, h1, h3⟩) ?_
    rintro ⟨q2, hq2⟩
    dsimp only
    repeat (first | refine JL.q (by first | (apply OQ.move; exact rfl) | (apply OQ.assign; exact rfl) | (apply OQ.len; exact rfl; exact rfl)) rfl ?_ | refine JC.seq ?_ | refine JC.region ?_ | refine JC.block ?_ | refine JC.skip ?_ | refine JC.exit ?_ | refine JL.nil ?_ | refine JE.next ?_ | refine JE.blk_normal ?_ | refine JE.then_exit ?_ | refine JE.blk_hit ?_ | refine JE.blk_miss rfl ?_ | refine JE.then_ret ?_ | refine JE.blk_ret ?_ | refine JC.label ?_ | refine JL.gon rfl rfl ?_ | refine JL.gskip rfl rfl rfl rfl ?_ | refine JL.gskipU rfl rfl rfl rfl ?_)
    refine JC.ret ?_
    repeat (first | refine JL.q (by first | (apply OQ.move; exact rfl) | (apply OQ.assign; exact rfl) | (apply OQ.len; exact rfl; exact rfl)) rfl ?_ | refine JC.seq ?_ | refine JC.region ?_ | refine JC.block ?_ | refine JC.skip ?_ | refine JC.exit ?_ | refine JL.nil ?_ | refine JE.next ?_ | refine JE.blk_normal ?_ | refine JE.then_exit ?_ | refine JE.blk_hit ?_ | refine JE.blk_miss rfl ?_ | refine JE.then_ret ?_ | refine JE.blk_ret ?_ | refine JC.label ?_ | refine JL.gon rfl rfl ?_ | refine JL.gskip rfl rfl rfl rfl ?_ | refine JL.gskipU rfl rfl rfl rfl ?_)
    refine JE.ret2 rfl (RV.tmp rfl) (RV.tmp rfl) ?_
    intro w' hw
    have hsn := splB_no hno
    rw [hsn] at hsp
    refine ⟨(accL q rs, accS q2 y.l), ?_, ?_, ?_, hw.chg, ?_, acc_ok hw⟩
    · show _ = Ending.returned (.tuple #[(accL q rs).v, (accS q2 y.l).v])
      rw [accL_v, accS_v]
    · show (accL q rs).rs.map Sl8.l = _
      rw [accL_rs hq, hsp, List.append_nil]
    · rw [accS_l hq2, hsp]
    · exact accL_ok (hw.weak (less_app _ (.drop _ _ _ (Less.refl _)))) h0
  · have hspa := splB_at hat hnb
    repeat (first | refine JL.q (by first | (apply OQ.callx (vs := [y.v, Sl8.v ⟨some ⟨bl, 0, none⟩, 2, [13, 10]⟩]); exact goes_cut; exact rfl; exact (fun w' hw' => cut_yes y ⟨some ⟨bl, 0, none⟩, 2, [13, 10]⟩ w' (hy.holds hw' rfl) (frz_ok (l := [13, 10]) hw' .here (Nat.le_refl _)) rfl (by omega) (hm.ext hw'.chg) hc hi2)) | (apply OQ.extract; exact rfl; exact rfl) | (apply OQ.not; exact rfl) | (apply OQ.move; exact rfl) | (apply OQ.assign; exact rfl) | (apply OQ.len; exact rfl; exact rfl)) rfl ?_ | refine JC.seq ?_ | refine JC.region ?_ | refine JC.block ?_ | refine JC.skip ?_ | refine JC.exit ?_ | refine JL.nil ?_ | refine JE.next ?_ | refine JE.blk_normal ?_ | refine JE.then_exit ?_ | refine JE.blk_hit ?_ | refine JE.blk_miss rfl ?_ | refine JE.then_ret ?_ | refine JE.blk_ret ?_ | refine JC.label ?_ | refine JL.gon rfl rfl ?_ | refine JL.gskip rfl rfl rfl rfl ?_ | refine JL.gskipU rfl rfl rfl rfl ?_)
    refine JC.cond_false rfl rfl ?_
    have hlc : (y.cut i).l.length = i := by show (y.l.take i).length = i; rw [List.length_take]; omega
    repeat (first | refine JL.q (by first | (apply OQ.move; exact rfl) | (apply OQ.assign; exact rfl) | (apply OQ.len; exact rfl; exact rfl)) rfl ?_ | refine JC.seq ?_ | refine JC.region ?_ | refine JC.block ?_ | refine JC.skip ?_ | refine JC.exit ?_ | refine JL.nil ?_ | refine JE.next ?_ | refine JE.blk_normal ?_ | refine JE.then_exit ?_ | refine JE.blk_hit ?_ | refine JE.blk_miss rfl ?_ | refine JE.then_ret ?_ | refine JE.blk_ret ?_ | refine JC.label ?_ | refine JL.gon rfl rfl ?_ | refine JL.gskip rfl rfl rfl rfl ?_ | refine JL.gskipU rfl rfl rfl rfl ?_)
    refine JL.callg (ι := { q : Acc // q = none → (y.cut i).l = [] }) (fun q => accV q.1 (y.cut i).l.length) (fun q => accE 5 q.1 ((y.cut i).l.map U8)) goes_clone rfl rfl (fun q => accE_wr _ _ _) (fun w' hw' => (clone_any (y.cut i) w' ((hy.holds hw' rfl).cut i) (by omega)).mono fun e w2 ⟨q, h1, h2, h3⟩ => ⟨⟨q, h2⟩, h1, h3⟩) ?_
    rintro ⟨q2, hq2⟩
    dsimp only
    refine JL.less (less_app2 (.drop _ _ _ (Less.refl _)) _) ?_
    refine JL.upon (M' := accE 22 q (rs.map Sl8.v) ++ (flatE rs ++ accE 5 q2 ((y.cut i).l.map U8))) (by rw [← List.append_assoc (accE 22 q _)]; exact List.perm_append_comm) ?_
    refine JL.lit1 (v := accV q2 (y.cut i).l.length) Try.underlying24 sle rfl rfl (accV_cells _ _) rfl fun bl2 _ => ?_
    refine JL.upon (M' := accE 22 q (rs.map Sl8.v) ++ (⟨bl2, Row 22 [accV q2 (y.cut i).l.length], true⟩ :: (flatE rs ++ accE 5 q2 ((y.cut i).l.map U8)))) List.perm_middle.symm ?_
    refine JL.appendQ (cs := [accV q2 (y.cut i).l.length]) (m := 1) (ad := some ⟨bl2, 0, none⟩) (sc := 1) q Try.underlying24 sle (fun h => by rw [hq h]; rfl) rfl rfl rfl (fun w' hw' => ?_) (fun v hv => by rw [List.mem_singleton.1 hv]; exact accV_one _ _) rfl (by rw [List.length_map]; omega) (by rw [List.length_map]; omega) rfl fun q3 hq3 => ?_
    · obtain ⟨o, ho, hA⟩ := (hw'.weak (less_app _ (Less.refl _))).get (b := bl2) (A := Row 22 [accV q2 (y.cut i).l.length]) (wr := true) .here
      exact Reads.block ho (Row.all _ hA)
    · have eM : rs.map Sl8.v ++ [accV q2 (y.cut i).l.length] = (rs ++ [accS q2 (y.cut i).l]).map Sl8.v := by
        rw [List.map_append, List.map_singleton, accS_v]
      rw [eM]
      repeat (first | refine JL.q (by first | (apply OQ.move; exact rfl) | (apply OQ.assign; exact rfl) | (apply OQ.len; exact rfl; exact rfl)) rfl ?_ | refine JC.seq ?_ | refine JC.region ?_ | refine JC.block ?_ | refine JC.skip ?_ | refine JC.exit ?_ | refine JL.nil ?_ | refine JE.next ?_ | refine JE.blk_normal ?_ | refine JE.then_exit ?_ | refine JE.blk_hit ?_ | refine JE.blk_miss rfl ?_ | refine JE.then_ret ?_ | refine JE.blk_ret ?_ | refine JC.label ?_ | refine JL.gon rfl rfl ?_ | refine JL.gskip rfl rfl rfl rfl ?_ | refine JL.gskipU rfl rfl rfl rfl ?_)
      refine JE.again (i := (y, rs, q)) (y.snd (i + 2), rs ++ [accS q2 (y.cut i).l], q3) ⟨hy.snd _ hi2, ?_, ?_, ?_, ?_⟩ ?_ (by repeat (first | exact SubE.nil | refine SubE.cons _ _ _ rfl ?_)) ?_
      · intro h
        have := hq3 h
        simp at this
      · intro x hx
        rcases List.mem_append.1 hx with hx | hx
        · exact h0 x hx
        · rw [List.mem_singleton.1 hx]; exact accS_none
      · show (rs ++ [_]).length + (y.l.drop (i + 2)).length ≤ _
        rw [List.length_append, List.length_drop, List.length_singleton]
        omega
      · show splB s.l = ((rs ++ [accS q2 (y.cut i).l]).map Sl8.l ++ (splB (y.l.drop (i + 2))).1, (splB (y.l.drop (i + 2))).2)
        rw [hsp, hspa, List.map_append, List.map_singleton, accS_l hq2, List.append_assoc]
        rfl
      · show (y.l.drop (i + 2)).length < y.l.length
        rw [List.length_drop]
        omega
      · exact less_app2 (.drop _ _ _ (flat_snoc rs q2 _)) _
/-- what is left to be read of bytes that came over a line, with what was read ahead of them -/
def unC (A r : List Lin.By) : List Lin.By × List Lin.By × Nat := match un1 (splB r).1 with
  | some p => (A ++ joinB p.1, joinB p.2 ++ (splB r).2, 0)
  | none => ([], [], 7)
theorem unC_start (r : List Lin.By) : unA r = unC [] r := by
  unfold unA unB unC
  cases un1 (splB r).1 <;> rfl
theorem unC_no {A r : List Lin.By} (h : noEnd r) : unC A r = ([], [], 7) := by
  unfold unC
  rw [splB_no h]
  rfl
theorem unC_point {A r : List Lin.By} {i : Nat} (h : endAt r i) (hn : ∀ j, j < i → ¬ endAt r j) (hp : r.take i = [46]) : unC A r = (A, r.drop (i + 2), 0) := by
  unfold unC
  rw [splB_at h hn, hp]
  have e : un1 ([46] :: (splB (r.drop (i + 2))).1) = some ([], (splB (r.drop (i + 2))).1) := by
    show (if ([46] : List Lin.By) = [46] then _ else _) = _
    rw [if_pos rfl]
  simp only [e]
  rw [splB_join]
  show (A ++ [], _, _) = _
  rw [List.append_nil]
theorem unC_line {A r : List Lin.By} {i : Nat} (h : endAt r i) (hn : ∀ j, j < i → ¬ endAt r j) (hp : ¬ r.take i = [46]) : unC A r = unC (A ++ unL (r.take i) ++ [13, 10]) (r.drop (i + 2)) := by
  unfold unC
  rw [splB_at h hn]
  have e : un1 (r.take i :: (splB (r.drop (i + 2))).1) = (un1 (splB (r.drop (i + 2))).1).map fun p => (unL (r.take i) :: p.1, p.2) := by
    show (if r.take i = [46] then _ else _) = _
    rw [if_neg hp]
  simp only [e]
  cases un1 (splB (r.drop (i + 2))).1 with
  | none => rfl
  | some p =>
    show (A ++ ((unL (r.take i) ++ [13, 10]) ++ joinB p.1), _, _) = _
    simp only [List.append_assoc]
theorem pre46 (l : List Lin.By) : preB l [46] = true ↔ l.head? = some 46 := by
  unfold preB
  cases l with
  | nil => simp
  | cons c l =>
    rw [Bool.and_eq_true, decide_eq_true_eq, decide_eq_true_eq]
    simp only [List.length_cons, List.length_nil, List.take_succ_cons, List.take_zero, List.head?_cons, Option.some.injEq, List.cons.injEq, and_true]
    exact ⟨fun h => h.2, fun h => ⟨by omega, h⟩⟩
theorem trim46 (x d : Sl8) (hd : d.l = [46]) : (trimS x d).l = unL x.l := by
  unfold trimS unL
  rw [hd]
  by_cases h : x.l.head? = some 46
  · rw [if_pos ((pre46 _).2 h), if_pos h]
    show x.l.drop 1 = _
    rw [List.drop_one]
  · rw [if_neg (fun e => h ((pre46 _).1 e)), if_neg h]
theorem unL_le (l : List Lin.By) : (unL l).length ≤ l.length := by unfold unL; split <;> simp
theorem goes_aunst : Goes Try.prog 16 := ⟨_, Try.func16, rfl, by kernel_rfl⟩
set_option maxHeartbeats 16000000 in
theorem aunst_any (s : Sl8) (w : World) (hs : s.ok w) (hl : s.l.length ≤ 4000000) (hm : MaxOk w) : Calls Try.prog 16 [s.v].toArray w
    fun e w' => ∃ q : Sl8 × Sl8, e = .returned (.tuple #[q.1.v, q.2.v, N (unA s.l).2.2]) ∧ q.1.l = (unA s.l).1 ∧ q.2.l = (unA s.l).2.1 ∧ Ext w w' ∧ q.1.ok w' ∧ q.2.ok w' := by
  refine enter (n := 35) Try.func16 rfl rfl rfl (Holds.start w []) ?_
  repeat (first | refine JL.q (by first | (apply OQ.move; exact rfl) | (apply OQ.assign; exact rfl) | (apply OQ.len; exact rfl; exact rfl)) rfl ?_ | refine JC.seq ?_ | refine JC.region ?_ | refine JC.block ?_ | refine JC.skip ?_ | refine JC.exit ?_ | refine JL.nil ?_ | refine JE.next ?_ | refine JE.blk_normal ?_ | refine JE.then_exit ?_ | refine JE.blk_hit ?_ | refine JE.blk_miss rfl ?_ | refine JE.then_ret ?_ | refine JE.blk_ret ?_ | refine JC.label ?_ | refine JL.gon rfl rfl ?_ | refine JL.gskip rfl rfl rfl rfl ?_ | refine JL.gskipU rfl rfl rfl rfl ?_)
  refine JC.loop (fun z : Sl8 × List Lin.By × Acc => [(0, z.1.v), (2, accV z.2.2 (z.2.1.map U8).length)]) (fun z => accE 5 z.2.2 (z.2.1.map U8)) (fun z => z.1.l.length)
    (fun z => z.1.ok w ∧ (z.2.2 = none → z.2.1 = []) ∧ z.2.1.length + z.1.l.length ≤ s.l.length ∧ unA s.l = unC z.2.1 z.1.l) (s, [], none)
    ⟨hs, fun _ => rfl, by simp, unC_start _⟩ (by repeat (first | exact SubE.nil | refine SubE.cons _ _ _ rfl ?_)) (Less.refl _) ?_
  rintro ⟨y, A, q⟩ ⟨hy, hq, hrl, hsp⟩
  dsimp only at hy hq hrl hsp ⊢
  have hyl : y.l.length ≤ 4000000 := by omega
  repeat (first | refine JL.q (by first | (apply OQ.move; exact rfl) | (apply OQ.assign; exact rfl) | (apply OQ.len; exact rfl; exact rfl)) rfl ?_ | refine JC.seq ?_ | refine JC.region ?_ | refine JC.block ?_ | refine JC.skip ?_ | refine JC.exit ?_ | refine JL.nil ?_ | refine JE.next ?_ | refine JE.blk_normal ?_ | refine JE.then_exit ?_ | refine JE.blk_hit ?_ | refine JE.blk_miss rfl ?_ | refine JE.then_ret ?_ | refine JE.blk_ret ?_ | refine JC.label ?_ | refine JL.gon rfl rfl ?_ | refine JL.gskip rfl rfl rfl rfl ?_ | refine JL.gskipU rfl rfl rfl rfl ?_)
  refine JL.litL (xs := [.const (U8 13), .const (U8 10)]) (vs := [U8 13, U8 10]) Try.underlying22 u8e rfl rfl rfl rfl crlf_in rfl (by decide) (by decide) rfl fun bl _ => ?_
  refine JL.mark (r := [U8 13, U8 10]) (te := 5) Try.underlying22 Try.underlying5 rfl .here rfl ?_
  rcases cutI_spec y.l with ⟨hc, hno⟩ | ⟨i, hc, hi2, hat, hnb⟩
  · rw [unC_no hno] at hsp
    repeat (first | refine JL.q (by first | (apply OQ.callx (vs := [y.v, Sl8.v ⟨some ⟨bl, 0, none⟩, 2, [13, 10]⟩]); exact goes_cut; exact rfl; exact (fun w' hw' => cut_no y ⟨some ⟨bl, 0, none⟩, 2, [13, 10]⟩ w' (hy.holds hw' rfl) (frz_ok (l := [13, 10]) hw' .here (Nat.le_refl _)) rfl (by omega) (hm.ext hw'.chg) hc)) | (apply OQ.extract; exact rfl; exact rfl) | (apply OQ.not; exact rfl) | (apply OQ.move; exact rfl) | (apply OQ.assign; exact rfl) | (apply OQ.len; exact rfl; exact rfl)) rfl ?_ | refine JC.seq ?_ | refine JC.region ?_ | refine JC.block ?_ | refine JC.skip ?_ | refine JC.exit ?_ | refine JL.nil ?_ | refine JE.next ?_ | refine JE.blk_normal ?_ | refine JE.then_exit ?_ | refine JE.blk_hit ?_ | refine JE.blk_miss rfl ?_ | refine JE.then_ret ?_ | refine JE.blk_ret ?_ | refine JC.label ?_ | refine JL.gon rfl rfl ?_ | refine JL.gskip rfl rfl rfl rfl ?_ | refine JL.gskipU rfl rfl rfl rfl ?_)
    refine JC.cond_true rfl rfl ?_
    repeat (first | refine JL.q (by first | (apply OQ.move; exact rfl) | (apply OQ.assign; exact rfl) | (apply OQ.len; exact rfl; exact rfl)) rfl ?_ | refine JC.seq ?_ | refine JC.region ?_ | refine JC.block ?_ | refine JC.skip ?_ | refine JC.exit ?_ | refine JL.nil ?_ | refine JE.next ?_ | refine JE.blk_normal ?_ | refine JE.then_exit ?_ | refine JE.blk_hit ?_ | refine JE.blk_miss rfl ?_ | refine JE.then_ret ?_ | refine JE.blk_ret ?_ | refine JC.label ?_ | refine JL.gon rfl rfl ?_ | refine JL.gskip rfl rfl rfl rfl ?_ | refine JL.gskipU rfl rfl rfl rfl ?_)
    refine JC.ret ?_
    repeat (first | refine JL.q (by first | (apply OQ.move; exact rfl) | (apply OQ.assign; exact rfl) | (apply OQ.len; exact rfl; exact rfl)) rfl ?_ | refine JC.seq ?_ | refine JC.region ?_ | refine JC.block ?_ | refine JC.skip ?_ | refine JC.exit ?_ | refine JL.nil ?_ | refine JE.next ?_ | refine JE.blk_normal ?_ | refine JE.then_exit ?_ | refine JE.blk_hit ?_ | refine JE.blk_miss rfl ?_ | refine JE.then_ret ?_ | refine JE.blk_ret ?_ | refine JC.label ?_ | refine JL.gon rfl rfl ?_ | refine JL.gskip rfl rfl rfl rfl ?_ | refine JL.gskipU rfl rfl rfl rfl ?_)
    rw [hsp]
    refine JE.ret3 rfl (RV.tmp rfl) (RV.tmp rfl) (RV.tmp rfl) ?_
    exact fun w' hw => ⟨(nilS, nilS), rfl, rfl, rfl, hw.chg, nilS_ok _, nilS_ok _⟩
  · have hlc : (y.cut i).l.length = i := by show (y.l.take i).length = i; rw [List.length_take]; omega
    have hcl : (y.cut i).l = y.l.take i := rfl
    by_cases h46 : y.l.take i = [46]
    · rw [unC_point hat hnb h46] at hsp
      repeat (first | refine JL.q (by first | (apply OQ.callx (vs := [y.v, Sl8.v ⟨some ⟨bl, 0, none⟩, 2, [13, 10]⟩]); exact goes_cut; exact rfl; exact (fun w' hw' => cut_yes y ⟨some ⟨bl, 0, none⟩, 2, [13, 10]⟩ w' (hy.holds hw' rfl) (frz_ok (l := [13, 10]) hw' .here (Nat.le_refl _)) rfl (by omega) (hm.ext hw'.chg) hc hi2)) | (apply OQ.extract; exact rfl; exact rfl) | (apply OQ.not; exact rfl) | (apply OQ.move; exact rfl) | (apply OQ.assign; exact rfl) | (apply OQ.len; exact rfl; exact rfl)) rfl ?_ | refine JC.seq ?_ | refine JC.region ?_ | refine JC.block ?_ | refine JC.skip ?_ | refine JC.exit ?_ | refine JL.nil ?_ | refine JE.next ?_ | refine JE.blk_normal ?_ | refine JE.then_exit ?_ | refine JE.blk_hit ?_ | refine JE.blk_miss rfl ?_ | refine JE.then_ret ?_ | refine JE.blk_ret ?_ | refine JC.label ?_ | refine JL.gon rfl rfl ?_ | refine JL.gskip rfl rfl rfl rfl ?_ | refine JL.gskipU rfl rfl rfl rfl ?_)
      refine JC.cond_false rfl rfl ?_
      repeat (first | refine JL.q (by first | (apply OQ.b2s (s := y.cut i); exact Try.underlying22; exact Try.underlying5; exact Try.underlying9; exact rfl; exact (fun w' hw' => (hy.holds hw' rfl).cut i)) | (apply OQ.eqS_t (r := [46]); exact rfl; exact rfl; exact h46) | (apply OQ.move; exact rfl) | (apply OQ.assign; exact rfl) | (apply OQ.len; exact rfl; exact rfl)) rfl ?_ | refine JC.seq ?_ | refine JC.region ?_ | refine JC.block ?_ | refine JC.skip ?_ | refine JC.exit ?_ | refine JL.nil ?_ | refine JE.next ?_ | refine JE.blk_normal ?_ | refine JE.then_exit ?_ | refine JE.blk_hit ?_ | refine JE.blk_miss rfl ?_ | refine JE.then_ret ?_ | refine JE.blk_ret ?_ | refine JC.label ?_ | refine JL.gon rfl rfl ?_ | refine JL.gskip rfl rfl rfl rfl ?_ | refine JL.gskipU rfl rfl rfl rfl ?_)
      refine JC.cond_true rfl rfl ?_
      have hdl : (y.snd (i + 2)).l = y.l.drop (i + 2) := rfl
      have hdn : (y.snd (i + 2)).l.length ≤ 4000000 := by rw [hdl, List.length_drop]; omega
      repeat (first | refine JL.q (by first | (apply OQ.move; exact rfl) | (apply OQ.assign; exact rfl) | (apply OQ.len; exact rfl; exact rfl)) rfl ?_ | refine JC.seq ?_ | refine JC.region ?_ | refine JC.block ?_ | refine JC.skip ?_ | refine JC.exit ?_ | refine JL.nil ?_ | refine JE.next ?_ | refine JE.blk_normal ?_ | refine JE.then_exit ?_ | refine JE.blk_hit ?_ | refine JE.blk_miss rfl ?_ | refine JE.then_ret ?_ | refine JE.blk_ret ?_ | refine JC.label ?_ | refine JL.gon rfl rfl ?_ | refine JL.gskip rfl rfl rfl rfl ?_ | refine JL.gskipU rfl rfl rfl rfl ?_)
      refine JL.callg (ι := { q : Acc // q = none → (y.snd (i + 2)).l = [] }) (fun q => accV q.1 (y.snd (i + 2)).l.length) (fun q => accE 5 q.1 ((y.snd (i + 2)).l.map U8)) goes_clone rfl rfl (fun q => accE_wr _ _ _) (fun w' hw' => (clone_any (y.snd (i + 2)) w' ((hy.holds hw' rfl).snd _ hi2) (by omega)).mono fun e w2 ⟨q, h1, h2, h3⟩ => ⟨⟨q, h2⟩, h1, h3⟩) ?_
      rintro ⟨q2, hq2⟩
      dsimp only
      repeat (first | refine JL.q (by first | (apply OQ.move; exact rfl) | (apply OQ.assign; exact rfl) | (apply OQ.len; exact rfl; exact rfl)) rfl ?_ | refine JC.seq ?_ | refine JC.region ?_ | refine JC.block ?_ | refine JC.skip ?_ | refine JC.exit ?_ | refine JL.nil ?_ | refine JE.next ?_ | refine JE.blk_normal ?_ | refine JE.then_exit ?_ | refine JE.blk_hit ?_ | refine JE.blk_miss rfl ?_ | refine JE.then_ret ?_ | refine JE.blk_ret ?_ | refine JC.label ?_ | refine JL.gon rfl rfl ?_ | refine JL.gskip rfl rfl rfl rfl ?_ | refine JL.gskipU rfl rfl rfl rfl ?_)
      refine JC.ret ?_
      repeat (first | refine JL.q (by first | (apply OQ.move; exact rfl) | (apply OQ.assign; exact rfl) | (apply OQ.len; exact rfl; exact rfl)) rfl ?_ | refine JC.seq ?_ | refine JC.region ?_ | refine JC.block ?_ | refine JC.skip ?_ | refine JC.exit ?_ | refine JL.nil ?_ | refine JE.next ?_ | refine JE.blk_normal ?_ | refine JE.then_exit ?_ | refine JE.blk_hit ?_ | refine JE.blk_miss rfl ?_ | refine JE.then_ret ?_ | refine JE.blk_ret ?_ | refine JC.label ?_ | refine JL.gon rfl rfl ?_ | refine JL.gskip rfl rfl rfl rfl ?_ | refine JL.gskipU rfl rfl rfl rfl ?_)
      refine JE.ret3 rfl (RV.tmp rfl) (RV.tmp rfl) (RV.tmp rfl) ?_
      intro w' hw
      refine ⟨(accS q A, accS q2 (y.snd (i + 2)).l), ?_, ?_, ?_, hw.chg, ?_, acc_ok hw⟩
      · rw [hsp]
        show _ = Ending.returned (.tuple #[(accS q A).v, (accS q2 (y.snd (i + 2)).l).v, _])
        rw [accS_v, accS_v, List.length_map]
        rfl
      · show (accS q A).l = _
        rw [accS_l hq, hsp]
      · show (accS q2 _).l = _
        rw [accS_l hq2, hsp]
        rfl
      · exact acc_ok (e := 5) (M := []) (by rw [List.append_nil]; exact hw.weak (less_app _ (.drop _ _ _ (Less.refl _))))
    · rw [unC_line hat hnb h46] at hsp
      repeat (first | refine JL.q (by first | (apply OQ.callx (vs := [y.v, Sl8.v ⟨some ⟨bl, 0, none⟩, 2, [13, 10]⟩]); exact goes_cut; exact rfl; exact (fun w' hw' => cut_yes y ⟨some ⟨bl, 0, none⟩, 2, [13, 10]⟩ w' (hy.holds hw' rfl) (frz_ok (l := [13, 10]) hw' .here (Nat.le_refl _)) rfl (by omega) (hm.ext hw'.chg) hc hi2)) | (apply OQ.extract; exact rfl; exact rfl) | (apply OQ.not; exact rfl) | (apply OQ.move; exact rfl) | (apply OQ.assign; exact rfl) | (apply OQ.len; exact rfl; exact rfl)) rfl ?_ | refine JC.seq ?_ | refine JC.region ?_ | refine JC.block ?_ | refine JC.skip ?_ | refine JC.exit ?_ | refine JL.nil ?_ | refine JE.next ?_ | refine JE.blk_normal ?_ | refine JE.then_exit ?_ | refine JE.blk_hit ?_ | refine JE.blk_miss rfl ?_ | refine JE.then_ret ?_ | refine JE.blk_ret ?_ | refine JC.label ?_ | refine JL.gon rfl rfl ?_ | refine JL.gskip rfl rfl rfl rfl ?_ | refine JL.gskipU rfl rfl rfl rfl ?_)
      refine JC.cond_false rfl rfl ?_
      repeat (first | refine JL.q (by first | (apply OQ.b2s (s := y.cut i); exact Try.underlying22; exact Try.underlying5; exact Try.underlying9; exact rfl; exact (fun w' hw' => (hy.holds hw' rfl).cut i)) | (apply OQ.eqS_f (r := [46]); exact rfl; exact rfl; exact h46) | (apply OQ.move; exact rfl) | (apply OQ.assign; exact rfl) | (apply OQ.len; exact rfl; exact rfl)) rfl ?_ | refine JC.seq ?_ | refine JC.region ?_ | refine JC.block ?_ | refine JC.skip ?_ | refine JC.exit ?_ | refine JL.nil ?_ | refine JE.next ?_ | refine JE.blk_normal ?_ | refine JE.then_exit ?_ | refine JE.blk_hit ?_ | refine JE.blk_miss rfl ?_ | refine JE.then_ret ?_ | refine JE.blk_ret ?_ | refine JC.label ?_ | refine JL.gon rfl rfl ?_ | refine JL.gskip rfl rfl rfl rfl ?_ | refine JL.gskipU rfl rfl rfl rfl ?_)
      refine JC.cond_false rfl rfl ?_
      repeat (first | refine JL.q (by first | (apply OQ.move; exact rfl) | (apply OQ.assign; exact rfl) | (apply OQ.len; exact rfl; exact rfl)) rfl ?_ | refine JC.seq ?_ | refine JC.region ?_ | refine JC.block ?_ | refine JC.skip ?_ | refine JC.exit ?_ | refine JL.nil ?_ | refine JE.next ?_ | refine JE.blk_normal ?_ | refine JE.then_exit ?_ | refine JE.blk_hit ?_ | refine JE.blk_miss rfl ?_ | refine JE.then_ret ?_ | refine JE.blk_ret ?_ | refine JC.label ?_ | refine JL.gon rfl rfl ?_ | refine JL.gskip rfl rfl rfl rfl ?_ | refine JL.gskipU rfl rfl rfl rfl ?_)
      refine JL.lit1 (v := U8 46) Try.underlying22 u8e rfl rfl rfl rfl fun bp _ => ?_
      refine JL.mark (r := [U8 46]) (te := 5) Try.underlying22 Try.underlying5 rfl .here rfl ?_
      have htl := trim46 (y.cut i) ⟨some ⟨bp, 0, none⟩, 1, [46]⟩ rfl
      have htn := unL_le (y.cut i).l
      rw [hlc] at htn
      refine JL.q (OQ.callx (vs := [(y.cut i).v, Sl8.v ⟨some ⟨bp, 0, none⟩, 1, [46]⟩]) goes_trim rfl (fun w' hw' => trim_any (y.cut i) ⟨some ⟨bp, 0, none⟩, 1, [46]⟩ w' ((hy.holds hw' rfl).cut i) (frz_ok (l := [46]) hw' .here (Nat.le_refl _)))) rfl ?_
      have htok : ∀ w', w'.heap.size = w'.heap.size → (y.cut i).ok w' → (trimS (y.cut i) ⟨some ⟨bp, 0, none⟩, 1, [46]⟩).ok w' := fun w' _ h => trimS_ok h
      generalize trimS (y.cut i) ⟨some ⟨bp, 0, none⟩, 1, [46]⟩ = x at htl htok ⊢
      rw [hcl] at htl htn
      rw [← htl] at htn hsp
      refine JL.upon (M' := accE 5 q (A.map U8) ++ [⟨bp, Frz 5 [U8 46], true⟩, ⟨bl, Frz 5 [U8 13, U8 10], true⟩]) (List.perm_append_comm (l₁ := ([⟨bp, Frz 5 [U8 46], true⟩, ⟨bl, Frz 5 [U8 13, U8 10], true⟩] : List Ent))) ?_
      refine JL.appendQ (cs := x.l.map U8) (m := x.l.length) (ad := x.ad) (sc := x.cap) q Try.underlying22 u8e (fun h => by rw [hq h]; rfl) rfl rfl (by rw [List.length_map]) (fun w' hw' => (htok w' rfl ((hy.holds hw' rfl).cut i)).reads) (all8U _) rfl (by rw [List.length_map]; omega) (by rw [List.length_map]; omega) rfl fun q3 hq3 => ?_
      rw [← List.map_append]
      repeat (first | refine JL.q (by first | (apply OQ.move; exact rfl) | (apply OQ.assign; exact rfl) | (apply OQ.len; exact rfl; exact rfl)) rfl ?_ | refine JC.seq ?_ | refine JC.region ?_ | refine JC.block ?_ | refine JC.skip ?_ | refine JC.exit ?_ | refine JL.nil ?_ | refine JE.next ?_ | refine JE.blk_normal ?_ | refine JE.then_exit ?_ | refine JE.blk_hit ?_ | refine JE.blk_miss rfl ?_ | refine JE.then_ret ?_ | refine JE.blk_ret ?_ | refine JC.label ?_ | refine JL.gon rfl rfl ?_ | refine JL.gskip rfl rfl rfl rfl ?_ | refine JL.gskipU rfl rfl rfl rfl ?_)
      refine JL.appendZ (r := [13, 10]) q3 Try.underlying22 Try.underlying9 u8e (fun h => by rw [List.map_append]; exact hq3 h) rfl rfl (by simp) (by rw [List.length_map, List.length_append]; show _ + 2 ≤ _; omega) rfl fun p4 => ?_
      rw [← List.map_append]
      repeat (first | refine JL.q (by first | (apply OQ.move; exact rfl) | (apply OQ.assign; exact rfl) | (apply OQ.len; exact rfl; exact rfl)) rfl ?_ | refine JC.seq ?_ | refine JC.region ?_ | refine JC.block ?_ | refine JC.skip ?_ | refine JC.exit ?_ | refine JL.nil ?_ | refine JE.next ?_ | refine JE.blk_normal ?_ | refine JE.then_exit ?_ | refine JE.blk_hit ?_ | refine JE.blk_miss rfl ?_ | refine JE.then_ret ?_ | refine JE.blk_ret ?_ | refine JC.label ?_ | refine JL.gon rfl rfl ?_ | refine JL.gskip rfl rfl rfl rfl ?_ | refine JL.gskipU rfl rfl rfl rfl ?_)
      refine JE.again (i := (y, A, q)) (y.snd (i + 2), A ++ x.l ++ [13, 10], some p4) ⟨hy.snd _ hi2, (fun h => by cases h), ?_, hsp⟩ ?_ (by repeat (first | exact SubE.nil | refine SubE.cons _ _ _ rfl ?_)) ?_
      · show (A ++ x.l ++ [13, 10]).length + (y.l.drop (i + 2)).length ≤ _
        rw [List.length_append, List.length_append, List.length_drop]
        show A.length + x.l.length + 2 + _ ≤ _
        omega
      · show (y.l.drop (i + 2)).length < y.l.length
        rw [List.length_drop]
        omega
      · exact less_pre _ _
end Go.Proofs.Ytnopllkpfdgkkaa
