/-
  Of no statement by itself: the texts FibC, FibD, LtR, LtS, LtA, LtB, LtC, LetL, LetK, LtD, ArmP, ArmE, ArmD, ArmI, ArmJ, ArmG, QuoB, Slgo, QuoC, TokC, TkA in one.
  Conditions: each theorem's own.
-/
import Derived.Test.YtbbmhkdfdgnkpaaGreatDoorDc
set_option linter.unusedSimpArgs false
set_option linter.unusedVariables false
/-
  Of no statement by itself: what the landed field's cutLine, tooLong and goOn give.
  Conditions: each theorem's own.
-/
namespace Go.Proofs.YtbbmhkdfdgnkpaaGreatDoor
set_option maxRecDepth 10000
open Sl Fld
theorem goes_fcut : Goes Tryz.prog 133 := ⟨_, Tryz.func133, rfl, by kernel_rfl⟩
theorem goes_flong : Goes Tryz.prog 132 := ⟨_, Tryz.func132, rfl, by kernel_rfl⟩
theorem goes_fgo : Goes Tryz.prog 157 := ⟨_, Tryz.func157, rfl, by kernel_rfl⟩
/-- the first line of a slice, and what is behind it -/
def lineS (s : Sl8) : Sl8 := trimS1 13 (s.fst (fi 10 s.l))
def restS (s : Sl8) : Sl8 := s.snd (fi 10 s.l + 1)
theorem lineS_ok {s : Sl8} {w : World} (h : s.ok w) : (lineS s).ok w := trimS1_ok (h.fst _)
theorem restS_ok {s : Sl8} {w : World} (h : s.ok w) (hl : fi 10 s.l < s.l.length) : (restS s).ok w := h.snd _ hl
theorem pre_take (l : List Fld.By) : l.take (fi 10 l) = pre10 l := by
  obtain ⟨t, ht⟩ := List.takeWhile_prefix (· != (10 : Fld.By)) (l := l)
  show l.take (pre10 l).length = pre10 l
  have ht : pre10 l ++ t = l := ht
  conv => lhs; rw [← ht]
  rw [pre10_of ht]
  exact List.take_left' rfl
where
  pre10_of {l t : List Fld.By} (h : pre10 l ++ t = l) : (pre10 (pre10 l ++ t)).length = (pre10 l).length := by rw [h]
theorem lineS_l (s : Sl8) : (lineS s).l = chop (pre10 s.l) := by
  have e : (s.fst (fi 10 s.l)).l = pre10 s.l := pre_take s.l
  unfold lineS trimS1 chop
  rw [e]
  by_cases h : (pre10 s.l).getLast? = some 13
  · rw [if_pos h, if_pos h]
    show (s.fst (fi 10 s.l)).l.take _ = _
    rw [e, List.dropLast_eq_take]
  · rw [if_neg h, if_neg h, e]
theorem cutS_some {s : Sl8} (h : fi 10 s.l < s.l.length) : cut s.l = some ((lineS s).l, (restS s).l) := by
  have h' : (pre10 s.l).length < s.l.length := h
  rw [lineS_l]
  exact if_pos h'
theorem cutS_none {s : Sl8} (h : ¬ fi 10 s.l < s.l.length) : cut s.l = none := if_neg h
theorem restS_len (s : Sl8) : (restS s).l.length = s.l.length - (fi 10 s.l + 1) := List.length_drop
theorem lineS_len (s : Sl8) : (lineS s).l.length ≤ fi 10 s.l := by
  rw [lineS_l]
  unfold chop
  split
  · rw [List.length_dropLast]
    show (pre10 s.l).length - 1 ≤ (pre10 s.l).length
    omega
  · exact Nat.le_refl _
def cutLV (s : Sl8) : Value := if fi 10 s.l < s.l.length then .tuple #[(lineS s).v, (restS s).v, .bool true] else .tuple #[nilS.v, nilS.v, .bool false]
set_option maxHeartbeats 4000000 in
theorem fcut_any (s : Sl8) (w : World) (hs : s.ok w) (hl : s.l.length ≤ 100000) : Calls Tryz.prog 133 [s.v].toArray w fun e w' => e = .returned (cutLV s) ∧ Ext w w' := by
  refine enter (n := 18) Tryz.func133 rfl rfl rfl (Holds.start w []) ?_
  repeat (first | refine JL.q (by first | (apply OQ.move; exact rfl) | (apply OQ.assign; exact rfl)) rfl ?_ | refine JC.seq ?_ | refine JC.region ?_ | refine JL.nil ?_ | refine JE.next ?_)
  refine JL.lit1 (v := U8 10) Tryz.underlying22 u8e rfl rfl rfl rfl fun bl _ => ?_
  have hq := fun w' (hw' : Holds w [] [⟨bl, Row 5 [U8 10], true⟩] w') => bcut_any s bl 1 10 w' (by omega) (hs.holds hw' rfl) (row_ok (l := [10]) hw' .here rfl (Nat.le_refl _))
  have hfi := fi_le 10 s.l
  unfold cutW at hq
  unfold cutLV
  by_cases h : fi 10 s.l < s.l.length
  · simp only [h, if_true] at hq ⊢
    repeat (first | refine JL.q (by first | (apply OQ.callx (vs := [s.v, .slice (some ⟨bl, 0, none⟩) 1 1]); exact goes_bcut; exact rfl; exact hq) | (apply OQ.extract; exact rfl; exact rfl) | (apply OQ.not; exact rfl) | (apply OQ.move; exact rfl) | (apply OQ.assign; exact rfl)) rfl ?_ | refine JC.seq ?_ | refine JC.region ?_ | refine JL.nil ?_ | refine JE.next ?_)
    refine JC.cond rfl (fun h => by cases h) (fun _ => ?_)
    repeat (first | refine JL.q (by (apply OQ.move; exact rfl)) rfl ?_ | refine JC.seq ?_ | refine JC.region ?_ | refine JC.skip ?_ | refine JE.next ?_)
    refine JL.lit1 (v := U8 13) Tryz.underlying22 u8e rfl rfl rfl rfl fun bl2 _ => ?_
    repeat (first | refine JL.q (by first | (apply OQ.callx (vs := [(s.fst (fi 10 s.l)).v, .slice (some ⟨bl2, 0, none⟩) 1 1]); exact goes_btrims; exact rfl; exact (fun w' hw' => btrims_any (s.fst (fi 10 s.l)) bl2 1 13 w' (by show (s.l.take _).length ≤ _; rw [List.length_take]; omega) ((hs.holds hw' rfl).fst _) (row_ok (l := [13]) hw' .here rfl (Nat.le_refl _)))) | (apply OQ.move; exact rfl) | (apply OQ.assign; exact rfl)) rfl ?_ | refine JL.nil ?_ | refine JE.next ?_)
    refine JC.ret ?_
    skip
    exact JE.ret3 rfl (RV.tmp rfl) (RV.tmp rfl) (RV.tmp rfl) fun w' hw => ⟨rfl, hw.chg⟩
  · simp only [h, if_false] at hq ⊢
    repeat (first | refine JL.q (by first | (apply OQ.callx (vs := [s.v, .slice (some ⟨bl, 0, none⟩) 1 1]); exact goes_bcut; exact rfl; exact hq) | (apply OQ.extract; exact rfl; exact rfl) | (apply OQ.not; exact rfl) | (apply OQ.move; exact rfl) | (apply OQ.assign; exact rfl)) rfl ?_ | refine JC.seq ?_ | refine JC.region ?_ | refine JL.nil ?_ | refine JE.next ?_)
    refine JC.cond rfl (fun _ => ?_) (fun h => by cases h)
    repeat (first | refine JL.q (by (apply OQ.assign; exact rfl)) rfl ?_ | refine JC.seq ?_ | refine JC.region ?_ | refine JL.nil ?_ | refine JE.next ?_)
    refine JC.ret ?_
    repeat (refine JE.then_ret ?_)
    exact JE.ret3 rfl (RV.tmp rfl) (RV.tmp rfl) (RV.tmp rfl) fun w' hw => ⟨rfl, hw.chg⟩
/-! ### heads that are too long -/
set_option maxHeartbeats 8000000 in
theorem flong_any (s : Sl8) (w : World) (hs : s.ok w) (hl : s.l.length ≤ 100000) : Calls Tryz.prog 132 [s.v].toArray w fun e w' => e = .returned (.bool (longB s.l)) ∧ Ext w w' := by
  refine enter (n := 23) Tryz.func132 rfl rfl rfl (Holds.start w []) ?_
  have hcap := hs.len
  unfold longB
  cases g : decide ((s.l.length : Int) ≤ 65536)
  case true =>
    have : decide (65536 < s.l.length) = false := decide_eq_false (by have := of_decide_eq_true g; omega)
    rw [this, Bool.false_and]
    repeat (first | refine JL.q (by first | (apply OQ.leqB (b := 65536); exact rfl; exact rfl; exact g) | (apply OQ.move; exact rfl) | (apply OQ.assign; exact rfl) | (apply OQ.len; exact rfl; exact rfl)) rfl ?_ | refine JC.seq ?_ | refine JC.region ?_ | refine JL.nil ?_ | refine JE.next ?_)
    refine JC.cond rfl (fun _ => ?_) (fun h => by cases h)
    repeat (first | refine JL.q (by (apply OQ.assign; exact rfl)) rfl ?_ | refine JC.seq ?_ | refine JC.region ?_ | refine JL.nil ?_ | refine JE.next ?_)
    refine JC.ret ?_
    repeat (refine JE.then_ret ?_)
    exact JE.ret1 rfl (RV.tmp rfl) fun w' hw => ⟨rfl, hw.chg⟩
  have hlt : 65536 ≤ s.l.length := by have := of_decide_eq_false g; omega
  have : decide (65536 < s.l.length) = true := decide_eq_true (by have := of_decide_eq_false g; omega)
  rw [this, Bool.true_and]
  repeat (first | refine JL.q (by first | (apply OQ.leqB (b := 65536); exact rfl; exact rfl; exact g) | (apply OQ.move; exact rfl) | (apply OQ.assign; exact rfl) | (apply OQ.len; exact rfl; exact rfl)) rfl ?_ | refine JC.seq ?_ | refine JC.region ?_ | refine JL.nil ?_ | refine JE.next ?_)
  refine JC.cond rfl (fun h => by cases h) (fun _ => ?_)
  repeat (first | refine JL.q (by first | (apply OQ.fst (s := s) (m := 65536); exact Tryz.underlying22; exact u8s; exact rfl; exact rfl; exact hlt; exact hcap) | (apply OQ.move; exact rfl) | (apply OQ.assign; exact rfl)) rfl ?_ | refine JC.seq ?_ | refine JC.region ?_ | refine JC.block ?_ | refine JC.skip ?_ | refine JL.nil ?_ | refine JE.next ?_)
  refine JC.loop (fun x : Sl8 => [(0, x.v)]) (fun _ => []) (fun x => x.l.length) (fun x => x.ok w ∧ x.l.length ≤ 100000 ∧ (hend (s.l.take 65536)).isNone = (hend x.l).isNone) (s.fst 65536) ⟨hs.fst _, by show (s.l.take _).length ≤ _; rw [List.length_take]; omega, rfl⟩ (by repeat (first | exact SubE.nil | refine SubE.cons _ _ _ rfl ?_)) (Less.refl _) ?_
  rintro x ⟨hx, hxl, he⟩
  rw [he]
  have hq := fun w' (hw' : Holds w [] [] w') => fcut_any x w' (hx.holds hw' rfl) hxl
  unfold cutLV at hq
  by_cases h : fi 10 x.l < x.l.length
  · simp only [h, if_true] at hq
    have hc := cutS_some h
    have hro := restS_ok hx h
    have hrl := restS_len x
    repeat (first | refine JL.q (by first | (apply OQ.callx (vs := [x.v]); exact goes_fcut; exact rfl; exact hq) | (apply OQ.extract; exact rfl; exact rfl) | (apply OQ.not; exact rfl) | (apply OQ.move; exact rfl) | (apply OQ.assign; exact rfl)) rfl ?_ | refine JC.seq ?_ | refine JC.region ?_ | refine JC.block ?_ | refine JL.nil ?_ | refine JE.next ?_)
    refine JC.cond rfl (fun h => by cases h) (fun _ => ?_)
    cases hz : decide (((lineS x).l.length : Int) = 0)
    · have hne : (lineS x).l ≠ [] := fun k => by
        have := of_decide_eq_false hz
        rw [k] at this
        exact this rfl
      repeat (first | refine JL.q (by first | (apply OQ.eqB (b := 0); exact rfl; exact rfl; exact hz) | (apply OQ.move; exact rfl) | (apply OQ.len; exact rfl; exact rfl)) rfl ?_ | refine JC.seq ?_ | refine JC.region ?_ | refine JC.skip ?_ | refine JL.nil ?_ | refine JE.next ?_)
      refine JC.cond rfl (fun h => by cases h) (fun _ => ?_)
      repeat (first | refine JL.q (by first | (apply OQ.move; exact rfl) | (apply OQ.assign; exact rfl)) rfl ?_ | refine JC.region ?_ | refine JC.skip ?_ | refine JL.nil ?_ | refine JE.next ?_ | refine JE.blk_normal ?_)
      refine JE.again (i := x) (restS x) ⟨hro, by omega, ?_⟩ (by omega) (by repeat (first | exact SubE.nil | refine SubE.cons _ _ _ rfl ?_)) (Less.refl _)
      rw [hend_go hc hne]
      cases hend (restS x).l <;> rfl
    · have hne : (lineS x).l = [] := List.eq_nil_of_length_eq_zero (by have := of_decide_eq_true hz; omega)
      rw [hne] at hc
      rw [hend_end hc]
      repeat (first | refine JL.q (by first | (apply OQ.eqB (b := 0); exact rfl; exact rfl; exact hz) | (apply OQ.move; exact rfl) | (apply OQ.len; exact rfl; exact rfl)) rfl ?_ | refine JC.seq ?_ | refine JC.region ?_ | refine JC.skip ?_ | refine JL.nil ?_ | refine JE.next ?_)
      refine JC.cond rfl (fun _ => ?_) (fun h => by cases h)
      repeat (first | refine JL.q (by (apply OQ.assign; exact rfl)) rfl ?_ | refine JC.seq ?_ | refine JC.region ?_ | refine JL.nil ?_ | refine JE.next ?_)
      refine JC.ret ?_
      repeat (first | refine JE.then_ret ?_ | refine JE.blk_ret ?_)
      exact JE.ret1 rfl (RV.tmp rfl) fun w' hw => ⟨rfl, hw.chg⟩
  · simp only [h, if_false] at hq
    rw [hend_none (cutS_none h)]
    repeat (first | refine JL.q (by first | (apply OQ.callx (vs := [x.v]); exact goes_fcut; exact rfl; exact hq) | (apply OQ.extract; exact rfl; exact rfl) | (apply OQ.not; exact rfl) | (apply OQ.move; exact rfl) | (apply OQ.assign; exact rfl)) rfl ?_ | refine JC.seq ?_ | refine JC.region ?_ | refine JC.block ?_ | refine JL.nil ?_ | refine JE.next ?_)
    refine JC.cond rfl (fun _ => ?_) (fun h => by cases h)
    repeat (first | refine JL.q (by (apply OQ.assign; exact rfl)) rfl ?_ | refine JC.seq ?_ | refine JC.region ?_ | refine JL.nil ?_ | refine JE.next ?_)
    refine JC.ret ?_
    repeat (first | refine JE.then_ret ?_ | refine JE.blk_ret ?_)
    exact JE.ret1 rfl (RV.tmp rfl) fun w' hw => ⟨rfl, hw.chg⟩
/-! ### lines that go on -/
def goV (o : Option (List Fld.By × List Fld.By)) (y : Sl8) : Value := match o with
  | some p => .tuple #[Z p.1, y.v, .bool true]
  | none => .tuple #[Z [], nilS.v, .bool false]
structure GS where
  x : Sl8
  a : List Fld.By
  q : Acc
set_option maxHeartbeats 16000000 in
theorem fgo_any (s : Sl8) (w : World) (hs : s.ok w) (hl : s.l.length ≤ 100000) : Calls Tryz.prog 157 [s.v].toArray w fun e w' => ∃ y : { y : Sl8 // (∀ w1, s.ok w1 → y.ok w1) ∧ ∀ p, conts s.l = some p → y.l = p.2 }, e = .returned (goV (conts s.l) y.1) ∧ Ext w w' := by
  refine enter (n := 33) Tryz.func157 rfl rfl rfl (Holds.start w []) ?_
  repeat (first | refine JL.q (by (apply OQ.assign; exact rfl)) rfl ?_ | refine JC.seq ?_ | refine JC.region ?_ | refine JC.block ?_ | refine JL.nil ?_ | refine JE.next ?_)
  refine JC.loop (fun g : GS => [(0, g.x.v), (5, accV g.q g.a.length)]) (fun g => accE 5 g.q (g.a.map U8) ++ []) (fun g => g.x.l.length) (fun g => (∀ w1, s.ok w1 → g.x.ok w1) ∧ g.a.length + g.x.l.length ≤ 100000 ∧ (g.q = none → g.a = []) ∧ conts s.l = (conts g.x.l).map fun p => (g.a ++ p.1, p.2)) ⟨s, [], none⟩ ⟨fun _ h => h, by simpa using hl, fun _ => rfl, by cases conts s.l <;> rfl⟩ (by repeat (first | exact SubE.nil | refine SubE.cons _ _ _ rfl ?_)) (Less.refl _) ?_
  rintro ⟨x, A, q⟩ ⟨hxa, hxl, hq0, hcs⟩
  dsimp only at hxa hxl hq0 hcs ⊢
  have hx := hxa w hs
  rw [hcs]
  have hcap := hx.len
  cases g1 : decide ((0 : Int) < (x.l.length : Int))
  case false =>
    have hx0 : x.l = [] := List.eq_nil_of_length_eq_zero (by have := of_decide_eq_false g1; omega)
    rw [conts_no (.inl hx0)] at hcs ⊢
    repeat (first | refine JL.q (by first | (apply OQ.gtrB (b := 0); exact rfl; exact rfl; exact g1) | (apply OQ.pick_f; exact rfl; exact rfl) | (apply OQ.move; exact rfl) | (apply OQ.len; exact rfl; exact rfl)) rfl ?_ | refine JC.seq ?_ | refine JC.region ?_ | refine JL.nil ?_ | refine JE.next ?_ | refine JL.gskip rfl rfl rfl rfl ?_)
    refine JC.cond rfl (fun h => by cases h) (fun _ => ?_)
    repeat (first | refine JL.q (by first | (apply OQ.to; exact (OQ.b2s (s := accS q A) Tryz.underlying22 Tryz.underlying5 Tryz.underlying9 (congrArg some (accS_v q A).symm) (fun w' hw' => acc_ok hw')); exact (congrArg Z (accS_l hq0))) | (apply OQ.move; exact rfl) | (apply OQ.assign; exact rfl)) rfl ?_ | refine JC.seq ?_ | refine JC.region ?_ | refine JC.exit ?_ | refine JL.nil ?_ | refine JE.next ?_ | refine JE.then_exit ?_ | refine JE.blk_hit ?_)
    refine JC.ret ?_
    skip
    refine JE.ret3 rfl (RV.tmp rfl) (RV.tmp rfl) (RV.tmp rfl) fun w' hw => ⟨⟨x, hxa, fun p hp => ?_⟩, ?_, hw.chg⟩
    · have hp : some (A ++ [], x.l) = some p := hp
      cases hp
      rfl
    · show _ = Ending.returned (.tuple #[Z (A ++ []), x.v, .bool true])
      rw [List.append_nil]
  have hpos : 0 < x.l.length := by have := of_decide_eq_true g1; omega
  obtain ⟨bx, jx, eX, cX⟩ := hx.reads.at (by simpa using hpos)
  have cx := cX 0 _ (map_at U8 0 hpos)
  have vx : x.v = .slice (some ⟨bx, jx, none⟩) x.l.length x.cap := by rw [← eX]; rfl
  have hi0 := fun {n : Nat} {E : Env} {C : World → Prop} {dst : Option Tmp} {ty : TypeId} {pos : String} {aft : Array Edge} {g : Option (Nat × Bool)} {a b : Operand} (ha : ev E a = some x.v) (hb : ev E b = some (N 0)) => OQ.idxS1 (P := Tryz.prog) (n := n) (E := E) (C := C) (dst := dst) (ty := ty) (pos := pos) (aft := aft) (g := g) (x := a) (y := b) (i := 0) Tryz.underlying22 u8s (vx ▸ ha) hb hpos
  have cB := fun w' => fblank_any (x.l.getD 0 0) w'
  cases g2 : bl (x.l.getD 0 0)
  case false =>
    rw [conts_no (.inr g2)] at hcs ⊢
    repeat (first | refine JL.q (by first | (apply OQ.gtrB (b := 0); exact rfl; exact rfl; exact g1) | (apply hi0; exact rfl; exact rfl) | (apply OQ.load_old; exact u8c; exact rfl; exact (block_lt_of_cell cx); exact (by simp); exact cx) | (apply OQ.callb (vs := [U8 (x.l.getD 0 0)]); exact goes_fblank; exact rfl; exact cB; exact g2) | (apply OQ.pick_t; exact rfl; exact rfl) | (apply OQ.move; exact rfl) | (apply OQ.len; exact rfl; exact rfl)) rfl ?_ | refine JC.seq ?_ | refine JC.region ?_ | refine JL.nil ?_ | refine JE.next ?_ | refine JL.gon rfl rfl ?_)
    refine JC.cond rfl (fun h => by cases h) (fun _ => ?_)
    repeat (first | refine JL.q (by first | (apply OQ.to; exact (OQ.b2s (s := accS q A) Tryz.underlying22 Tryz.underlying5 Tryz.underlying9 (congrArg some (accS_v q A).symm) (fun w' hw' => acc_ok hw')); exact (congrArg Z (accS_l hq0))) | (apply OQ.move; exact rfl) | (apply OQ.assign; exact rfl)) rfl ?_ | refine JC.seq ?_ | refine JC.region ?_ | refine JC.exit ?_ | refine JL.nil ?_ | refine JE.next ?_ | refine JE.then_exit ?_ | refine JE.blk_hit ?_)
    refine JC.ret ?_
    skip
    refine JE.ret3 rfl (RV.tmp rfl) (RV.tmp rfl) (RV.tmp rfl) fun w' hw => ⟨⟨x, hxa, fun p hp => ?_⟩, ?_, hw.chg⟩
    · have hp : some (A ++ [], x.l) = some p := hp
      cases hp
      rfl
    · show _ = Ending.returned (.tuple #[Z (A ++ []), x.v, .bool true])
      rw [List.append_nil]
  have hb2 : bl (x.l.getD 0 0) = true ∧ x.l ≠ [] := ⟨g2, fun k => by rw [k] at hpos; exact absurd hpos (by decide)⟩
  repeat (first | refine JL.q (by first | (apply OQ.gtrB (b := 0); exact rfl; exact rfl; exact g1) | (apply hi0; exact rfl; exact rfl) | (apply OQ.load_old; exact u8c; exact rfl; exact (block_lt_of_cell cx); exact (by simp); exact cx) | (apply OQ.callb (vs := [U8 (x.l.getD 0 0)]); exact goes_fblank; exact rfl; exact cB; exact g2) | (apply OQ.pick_t; exact rfl; exact rfl) | (apply OQ.move; exact rfl) | (apply OQ.len; exact rfl; exact rfl)) rfl ?_ | refine JC.seq ?_ | refine JC.region ?_ | refine JL.nil ?_ | refine JE.next ?_ | refine JL.gon rfl rfl ?_)
  refine JC.cond rfl (fun _ => ?_) (fun h => by cases h)
  have hq := fun w' (hw' : Holds w [] (accE 5 q (A.map U8) ++ []) w') => fcut_any x w' (hx.holds hw' rfl) (by omega)
  unfold cutLV at hq
  by_cases h : fi 10 x.l < x.l.length
  · simp only [h, if_true] at hq
    have hc := cutS_some h
    have hro := restS_ok hx h
    have hrl := restS_len x
    have hll := lineS_len x
    have hlo := lineS_ok hx
    rw [conts_some hb2 hc] at hcs
    repeat (first | refine JL.q (by first | (apply OQ.callx (vs := [x.v]); exact goes_fcut; exact rfl; exact hq) | (apply OQ.extract; exact rfl; exact rfl) | (apply OQ.not; exact rfl) | (apply OQ.move; exact rfl) | (apply OQ.assign; exact rfl)) rfl ?_ | refine JC.seq ?_ | refine JC.region ?_ | refine JC.block ?_ | refine JC.skip ?_ | refine JL.nil ?_ | refine JE.next ?_)
    refine JC.cond rfl (fun h => by cases h) (fun _ => ?_)
    repeat (first | refine JL.q (by (apply OQ.move; exact rfl)) rfl ?_ | refine JC.seq ?_ | refine JC.region ?_ | refine JC.skip ?_ | refine JE.next ?_)
    refine JL.appendQ (cs := (lineS x).l.map U8) (m := (lineS x).l.length) (ad := (lineS x).ad) (sc := (lineS x).cap) q Tryz.underlying22 u8e (fun h => by rw [hq0 h]; rfl) (by rw [List.length_map]; rfl) rfl (by rw [List.length_map]) (fun w' hw' => (hlo.holds hw' rfl).reads) (all8U _) rfl (by rw [List.length_map]; omega) (by rw [List.length_map]; omega) rfl fun q3 hq3 => ?_
    rw [← List.map_append]
    repeat (first | refine JL.q (by first | (apply OQ.move; exact rfl) | (apply OQ.assign; exact rfl)) rfl ?_ | refine JC.region ?_ | refine JL.nil ?_ | refine JE.next ?_ | refine JE.blk_normal ?_)
    refine JE.again (i := GS.mk x A q) (GS.mk (restS x) (A ++ (lineS x).l) q3) ⟨fun w1 h1 => restS_ok (hxa w1 h1) h, ?_, ?_, ?_⟩ (by dsimp only; omega) ?_ (Less.refl _)
    · dsimp only
      rw [List.length_append]
      omega
    · intro h
      have := hq3 h
      rw [← List.map_append] at this
      simpa using this
    · dsimp only
      rw [conts_some hb2 hc]
      cases conts (restS x).l with
      | none => rfl
      | some p => simp
    · dsimp only
      rw [List.length_map]
      exact (by repeat (first | exact SubE.nil | refine SubE.cons _ _ _ rfl ?_))
  · simp only [h, if_false] at hq
    rw [conts_none hb2 (cutS_none h)] at hcs ⊢
    repeat (first | refine JL.q (by first | (apply OQ.callx (vs := [x.v]); exact goes_fcut; exact rfl; exact hq) | (apply OQ.extract; exact rfl; exact rfl) | (apply OQ.not; exact rfl) | (apply OQ.move; exact rfl) | (apply OQ.assign; exact rfl)) rfl ?_ | refine JC.seq ?_ | refine JC.region ?_ | refine JC.block ?_ | refine JC.skip ?_ | refine JL.nil ?_ | refine JE.next ?_)
    refine JC.cond rfl (fun _ => ?_) (fun h => by cases h)
    repeat (first | refine JL.q (by (apply OQ.assign; exact rfl)) rfl ?_ | refine JC.seq ?_ | refine JC.region ?_ | refine JL.nil ?_ | refine JE.next ?_)
    refine JC.ret ?_
    repeat (first | refine JE.then_ret ?_ | refine JE.blk_ret ?_)
    refine JE.ret3 rfl (RV.tmp rfl) (RV.tmp rfl) (RV.tmp rfl) fun w' hw => ⟨⟨nilS, fun w1 _ => nilS_ok w1, fun p hp => ?_⟩, rfl, hw.chg⟩
    cases hp
end Go.Proofs.YtbbmhkdfdgnkpaaGreatDoor

/-
  Of no statement by itself: what the landed field's readField and Read give.
  Conditions: each theorem's own.
-/
namespace Go.Proofs.YtbbmhkdfdgnkpaaGreatDoor
set_option maxRecDepth 10000
open Sl Fld
theorem goes_frf : Goes Tryz.prog 134 := ⟨_, Tryz.func134, rfl, by kernel_rfl⟩
theorem fieldZ : zc Tryz.prog 51 = some [Z [], Z []] := by kernel_rfl
section
variable {n : Nat} {E : Env} {C : World → Prop} {dst : Option Tmp} {ty : TypeId} {pos : String} {aft : Array Edge} {g : Option (Nat × Bool)} {x y : Operand}
theorem OQ.buildF0 : OQ Tryz.prog n E C ⟨dst, .build 51 #[], ty, pos, aft, g⟩ (.agg (pc ([], [])).toArray) := OQ.pure rfl rfl (by kernel_rfl)
end
def rfV (o : Except Nat (Pr × List Fld.By)) (y : Sl8) : Value := match o with
  | .ok p => .tuple #[.agg (pc p.1).toArray, y.v, N 0]
  | .error e => .tuple #[.agg (pc ([], [])).toArray, nilS.v, N e]
set_option maxHeartbeats 16000000 in
theorem frf_any (s : Sl8) (k : Nat) (w : World) (hs : s.ok w) (hl : s.l.length ≤ 100000) : Calls Tryz.prog 134 [s.v, N k].toArray w fun e w' => ∃ y : { y : Sl8 // (∀ w1, s.ok w1 → y.ok w1) ∧ ∀ p, rf k s.l = .ok p → y.l = p.2 }, e = .returned (rfV (rf k s.l) y.1) ∧ Ext w w' := by
  refine enter (n := 65) Tryz.func134 rfl rfl rfl (Holds.start w []) ?_
  repeat (first | refine JC.seq ?_ | refine JC.region ?_)
  refine JL.alloc fieldZ rfl fun b4 _ => ?_
  repeat (first | refine JL.q (by first | (apply OQ.move; exact rfl) | (apply OQ.assign; exact rfl)) rfl ?_ | refine JC.seq ?_ | refine JC.region ?_ | refine JL.nil ?_ | refine JE.next ?_)
  have hq := fun w' (hw' : Holds w [] [⟨b4, Row 51 [Z [], Z []], true⟩] w') => fcut_any s w' (hs.holds hw' rfl) hl
  unfold cutLV at hq
  by_cases h : fi 10 s.l < s.l.length
  case neg =>
    simp only [h, if_false] at hq
    have hR : rf k s.l = .error 3 := by unfold rf; rw [cutS_none h]
    rw [hR]
    repeat (first | refine JL.q (by first | (apply OQ.callx (vs := [s.v]); exact goes_fcut; exact rfl; exact hq) | (apply OQ.extract; exact rfl; exact rfl) | (apply OQ.not; exact rfl) | (apply OQ.move; exact rfl) | (apply OQ.assign; exact rfl)) rfl ?_ | refine JC.seq ?_ | refine JC.region ?_ | refine JL.nil ?_ | refine JE.next ?_)
    refine JC.cond rfl (fun _ => ?_) (fun h => by cases h)
    repeat (first | refine JL.q (by (apply OQ.buildF0)) rfl ?_ | refine JC.seq ?_ | refine JC.region ?_)
    refine JL.store_all (cs := pc ([], [])) fieldS rfl rfl rfl rfl .here rfl ?_
    repeat (first | refine JL.q (by (apply OQ.assign; exact rfl)) rfl ?_ | refine JL.nil ?_ | refine JE.next ?_)
    refine JC.ret ?_
    repeat (refine JE.then_ret ?_)
    exact JE.ret3 rfl (RV.cell_agg fieldA fieldS rfl .here rfl Row.all) (RV.tmp rfl) (RV.tmp rfl) fun w' hw => ⟨⟨nilS, fun w1 _ => nilS_ok w1, fun p hp => by cases hp⟩, rfl, hw.chg⟩
  simp only [h, if_true] at hq
  have hc := cutS_some h
  have hro := fun w1 h1 => restS_ok (s := s) (w := w1) h1 h
  have hlo := fun w1 h1 => lineS_ok (s := s) (w := w1) h1
  have hrl := restS_len s
  have hll := lineS_len s
  have hR : rf k s.l = rfL k (lineS s).l (restS s).l := by unfold rf; rw [hc]
  rw [hR]
  unfold rfL
  clear hR
  generalize lineS s = L at hq hc hlo hll ⊢
  generalize restS s = T at hq hc hro hrl ⊢
  repeat (first | refine JL.q (by first | (apply OQ.callx (vs := [s.v]); exact goes_fcut; exact rfl; exact hq) | (apply OQ.extract; exact rfl; exact rfl) | (apply OQ.not; exact rfl) | (apply OQ.move; exact rfl) | (apply OQ.assign; exact rfl)) rfl ?_ | refine JC.seq ?_ | refine JC.region ?_ | refine JL.nil ?_ | refine JE.next ?_)
  refine JC.cond rfl (fun h => by cases h) (fun _ => ?_)
  clear hq
  have cK := fun w' => cutw_any L.l 58 w' (by omega)
  unfold cutV at cK
  by_cases h58 : fi 58 L.l < L.l.length
  case neg =>
    simp only [h58, if_false] at cK
    have h1 : fi 58 L.l = L.l.length := by
      have := fi_le 58 L.l
      omega
    rw [if_pos (Or.inl h1)]
    repeat (first | refine JL.q (by first | (apply OQ.b2s (s := L); exact Tryz.underlying22; exact Tryz.underlying5; exact Tryz.underlying9; exact rfl; exact (fun w' hw' => (hlo w hs).holds hw' rfl)) | (apply OQ.callx (vs := [Z L.l, Z [58]]); exact goes_cutw; exact rfl; exact (fun w' _ => cK w')) | (apply OQ.extract; exact rfl; exact rfl) | (apply OQ.not; exact rfl) | (apply OQ.pick_t; exact rfl; exact rfl) | (apply OQ.move; exact rfl) | (apply OQ.assign; exact rfl)) rfl ?_ | refine JC.seq ?_ | refine JC.region ?_ | refine JC.skip ?_ | refine JL.nil ?_ | refine JE.next ?_ | refine JL.gskip rfl rfl rfl rfl ?_)
    refine JC.cond rfl (fun _ => ?_) (fun h => by cases h)
    repeat (first | refine JL.q (by (apply OQ.buildF0)) rfl ?_ | refine JC.seq ?_ | refine JC.region ?_)
    refine JL.store_all (cs := pc ([], [])) fieldS rfl rfl rfl rfl .here rfl ?_
    repeat (first | refine JL.q (by (apply OQ.assign; exact rfl)) rfl ?_ | refine JL.nil ?_ | refine JE.next ?_)
    refine JC.ret ?_
    repeat (refine JE.then_ret ?_)
    exact JE.ret3 rfl (RV.cell_agg fieldA fieldS rfl .here rfl Row.all) (RV.tmp rfl) (RV.tmp rfl) fun w' hw => ⟨⟨nilS, fun w1 _ => nilS_ok w1, fun p hp => by cases hp⟩, rfl, hw.chg⟩
  simp only [h58, if_true] at cK
  have hne : ¬ fi 58 L.l = L.l.length := fun e => by omega
  have hnl : (L.l.take (fi 58 L.l)).length < 9223372036854775808 := by rw [List.length_take]; omega
  have hfl : (L.l.drop (fi 58 L.l + 1)).length ≤ L.l.length := by rw [List.length_drop]; omega
  generalize L.l.drop (fi 58 L.l + 1) = F at cK hfl ⊢
  generalize L.l.take (fi 58 L.l) = nm at cK hnl ⊢
  have cN := fun w' => fname_any nm w' hnl
  cases h2 : nameB nm
  case false =>
    rw [if_pos (Or.inr (by decide))]
    repeat (first | refine JL.q (by first | (apply OQ.b2s (s := L); exact Tryz.underlying22; exact Tryz.underlying5; exact Tryz.underlying9; exact rfl; exact (fun w' hw' => (hlo w hs).holds hw' rfl)) | (apply OQ.callx (vs := [Z L.l, Z [58]]); exact goes_cutw; exact rfl; exact (fun w' _ => cK w')) | (apply OQ.extract; exact rfl; exact rfl) | (apply OQ.callb (vs := [Z nm]); exact goes_fname; exact rfl; exact cN; exact h2) | (apply OQ.not; exact rfl) | (apply OQ.pick_f; exact rfl; exact rfl) | (apply OQ.move; exact rfl) | (apply OQ.assign; exact rfl)) rfl ?_ | refine JC.seq ?_ | refine JC.region ?_ | refine JC.skip ?_ | refine JL.nil ?_ | refine JE.next ?_ | refine JL.gon rfl rfl ?_)
    refine JC.cond rfl (fun _ => ?_) (fun h => by cases h)
    repeat (first | refine JL.q (by (apply OQ.buildF0)) rfl ?_ | refine JC.seq ?_ | refine JC.region ?_)
    refine JL.store_all (cs := pc ([], [])) fieldS rfl rfl rfl rfl .here rfl ?_
    repeat (first | refine JL.q (by (apply OQ.assign; exact rfl)) rfl ?_ | refine JL.nil ?_ | refine JE.next ?_)
    refine JC.ret ?_
    repeat (refine JE.then_ret ?_)
    exact JE.ret3 rfl (RV.cell_agg fieldA fieldS rfl .here rfl Row.all) (RV.tmp rfl) (RV.tmp rfl) fun w' hw => ⟨⟨nilS, fun w1 _ => nilS_ok w1, fun p hp => by cases hp⟩, rfl, hw.chg⟩
  rw [if_neg (by rintro (h | h); exact hne h; exact h rfl)]
  repeat (first | refine JL.q (by first | (apply OQ.b2s (s := L); exact Tryz.underlying22; exact Tryz.underlying5; exact Tryz.underlying9; exact rfl; exact (fun w' hw' => (hlo w hs).holds hw' rfl)) | (apply OQ.callx (vs := [Z L.l, Z [58]]); exact goes_cutw; exact rfl; exact (fun w' _ => cK w')) | (apply OQ.extract; exact rfl; exact rfl) | (apply OQ.callb (vs := [Z nm]); exact goes_fname; exact rfl; exact cN; exact h2) | (apply OQ.not; exact rfl) | (apply OQ.pick_f; exact rfl; exact rfl) | (apply OQ.move; exact rfl) | (apply OQ.assign; exact rfl)) rfl ?_ | refine JC.seq ?_ | refine JC.region ?_ | refine JC.skip ?_ | refine JL.nil ?_ | refine JE.next ?_ | refine JL.gon rfl rfl ?_)
  refine JC.cond rfl (fun h => by cases h) (fun _ => ?_)
  clear cK cN
  cases h3 : decide ((k : Int) = 200)
  case true =>
    rw [if_pos (by have := of_decide_eq_true h3; omega)]
    repeat (first | refine JL.q (by first | (apply OQ.eqB (b := 200); exact rfl; exact rfl; exact h3) | (apply OQ.move; exact rfl)) rfl ?_ | refine JC.seq ?_ | refine JC.region ?_ | refine JC.skip ?_ | refine JL.nil ?_ | refine JE.next ?_)
    refine JC.cond rfl (fun _ => ?_) (fun h => by cases h)
    repeat (first | refine JL.q (by (apply OQ.buildF0)) rfl ?_ | refine JC.seq ?_ | refine JC.region ?_)
    refine JL.store_all (cs := pc ([], [])) fieldS rfl rfl rfl rfl .here rfl ?_
    repeat (first | refine JL.q (by (apply OQ.assign; exact rfl)) rfl ?_ | refine JL.nil ?_ | refine JE.next ?_)
    refine JC.ret ?_
    repeat (refine JE.then_ret ?_)
    exact JE.ret3 rfl (RV.cell_agg fieldA fieldS rfl .here rfl Row.all) (RV.tmp rfl) (RV.tmp rfl) fun w' hw => ⟨⟨nilS, fun w1 _ => nilS_ok w1, fun p hp => by cases hp⟩, rfl, hw.chg⟩
  rw [if_neg (by have := of_decide_eq_false h3; omega)]
  repeat (first | refine JL.q (by first | (apply OQ.eqB (b := 200); exact rfl; exact rfl; exact h3) | (apply OQ.move; exact rfl)) rfl ?_ | refine JC.seq ?_ | refine JC.region ?_ | refine JC.skip ?_ | refine JL.nil ?_ | refine JE.next ?_)
  refine JC.cond rfl (fun h => by cases h) (fun _ => ?_)
  repeat (first | refine JL.q (by (apply OQ.move; exact rfl)) rfl ?_ | refine JC.seq ?_ | refine JC.region ?_ | refine JC.skip ?_ | refine JE.next ?_)
  refine JL.call (ι := { y : Sl8 // (∀ w1, T.ok w1 → y.ok w1) ∧ ∀ p, conts T.l = some p → y.l = p.2 }) (vs := [T.v]) (fun y => goV (conts T.l) y.1) (fun _ => [⟨b4, Row 51 [Z [], Z []], true⟩]) goes_fgo rfl rfl (fun w' hw' => (fgo_any T w' ((hro w hs).holds hw' rfl) (by omega)).mono fun e w2 ⟨y, k1, k2⟩ => ⟨y, k1, hw'.ext k2⟩) ?_
  rintro ⟨y, hy1, hy2⟩
  dsimp only
  have hcl := conts_len T.l.length T.l (Nat.le_refl _)
  cases hv : conts T.l with
  | none =>
    dsimp only [goV]
    repeat (first | refine JL.q (by first | (apply OQ.extract; exact rfl; exact rfl) | (apply OQ.not; exact rfl) | (apply OQ.move; exact rfl) | (apply OQ.assign; exact rfl)) rfl ?_ | refine JC.seq ?_ | refine JC.region ?_ | refine JL.nil ?_ | refine JE.next ?_)
    refine JC.cond rfl (fun _ => ?_) (fun h => by cases h)
    repeat (first | refine JL.q (by (apply OQ.buildF0)) rfl ?_ | refine JC.seq ?_ | refine JC.region ?_)
    refine JL.store_all (cs := pc ([], [])) fieldS rfl rfl rfl rfl .here rfl ?_
    repeat (first | refine JL.q (by (apply OQ.assign; exact rfl)) rfl ?_ | refine JL.nil ?_ | refine JE.next ?_)
    refine JC.ret ?_
    repeat (refine JE.then_ret ?_)
    exact JE.ret3 rfl (RV.cell_agg fieldA fieldS rfl .here rfl Row.all) (RV.tmp rfl) (RV.tmp rfl) fun w' hw => ⟨⟨nilS, fun w1 _ => nilS_ok w1, fun p hp => by cases hp⟩, rfl, hw.chg⟩
  | some vr =>
    obtain ⟨vs, r'⟩ := vr
    have hyl := hy2 _ hv
    have hcl2 := (hcl _ hv).2
    dsimp only [goV] at hyl hcl2 ⊢
    have hvl : F.length + vs.length < 9223372036854775808 := by omega
    have cT := fun w' => trimw_any (F ++ vs) w' (by rw [List.length_append]; exact hvl)
    have cV := fun w' => fvalue_any (trim (F ++ vs)) w'
    have hvt := valB_trim (F ++ vs)
    generalize trim (F ++ vs) = V at cT cV hvt ⊢
    repeat (first | refine JL.q (by first | (apply OQ.extract; exact rfl; exact rfl) | (apply OQ.not; exact rfl) | (apply OQ.move; exact rfl) | (apply OQ.assign; exact rfl)) rfl ?_ | refine JC.seq ?_ | refine JC.region ?_ | refine JL.nil ?_ | refine JE.next ?_)
    refine JC.cond rfl (fun h => by cases h) (fun _ => ?_)
    repeat (first | refine JL.q (by first | (apply OQ.addS; exact rfl; exact rfl; exact hvl) | (apply OQ.callx (vs := [Z (F ++ vs), Z [32, 9]]); exact goes_trimw; exact rfl; exact (fun w' _ => cT w')) | (apply OQ.move; exact rfl) | (apply OQ.assign; exact rfl)) rfl ?_ | refine JC.seq ?_ | refine JC.region ?_ | refine JC.skip ?_ | refine JL.nil ?_ | refine JE.next ?_)
    cases h4 : decide ((8192 : Int) < (V.length : Int))
    case true =>
      rw [if_pos (by have := of_decide_eq_true h4; omega)]
      repeat (first | refine JL.q (by first | (apply OQ.lenS; exact Tryz.underlying9; exact rfl) | (apply OQ.gtrB (b := 8192); exact rfl; exact rfl; exact h4)) rfl ?_ | refine JL.nil ?_ | refine JE.next ?_)
      refine JC.cond rfl (fun _ => ?_) (fun h => by cases h)
      repeat (first | refine JL.q (by (apply OQ.buildF0)) rfl ?_ | refine JC.seq ?_ | refine JC.region ?_)
      refine JL.store_all (cs := pc ([], [])) fieldS rfl rfl rfl rfl .here rfl ?_
      repeat (first | refine JL.q (by (apply OQ.assign; exact rfl)) rfl ?_ | refine JL.nil ?_ | refine JE.next ?_)
      refine JC.ret ?_
      repeat (refine JE.then_ret ?_)
      exact JE.ret3 rfl (RV.cell_agg fieldA fieldS rfl .here rfl Row.all) (RV.tmp rfl) (RV.tmp rfl) fun w' hw => ⟨⟨nilS, fun w1 _ => nilS_ok w1, fun p hp => by cases hp⟩, rfl, hw.chg⟩
    rw [if_neg (by have := of_decide_eq_false h4; omega)]
    repeat (first | refine JL.q (by first | (apply OQ.lenS; exact Tryz.underlying9; exact rfl) | (apply OQ.gtrB (b := 8192); exact rfl; exact rfl; exact h4)) rfl ?_ | refine JL.nil ?_ | refine JE.next ?_)
    refine JC.cond rfl (fun h => by cases h) (fun _ => ?_)
    rw [hvt (by have := of_decide_eq_false h4; omega)] at cV
    cases h5 : V.all sok
    case false =>
      rw [if_pos (by decide)]
      repeat (first | refine JL.q (by first | (apply OQ.callb (vs := [Z V]); exact goes_fvalueA; exact rfl; exact cV; exact h5) | (apply OQ.not; exact rfl) | (apply OQ.move; exact rfl)) rfl ?_ | refine JC.seq ?_ | refine JC.region ?_ | refine JC.skip ?_ | refine JL.nil ?_ | refine JE.next ?_)
      refine JC.cond rfl (fun _ => ?_) (fun h => by cases h)
      repeat (first | refine JL.q (by (apply OQ.buildF0)) rfl ?_ | refine JC.seq ?_ | refine JC.region ?_)
      refine JL.store_all (cs := pc ([], [])) fieldS rfl rfl rfl rfl .here rfl ?_
      repeat (first | refine JL.q (by (apply OQ.assign; exact rfl)) rfl ?_ | refine JL.nil ?_ | refine JE.next ?_)
      refine JC.ret ?_
      repeat (refine JE.then_ret ?_)
      exact JE.ret3 rfl (RV.cell_agg fieldA fieldS rfl .here rfl Row.all) (RV.tmp rfl) (RV.tmp rfl) fun w' hw => ⟨⟨nilS, fun w1 _ => nilS_ok w1, fun p hp => by cases hp⟩, rfl, hw.chg⟩
    rw [if_neg (by decide)]
    repeat (first | refine JL.q (by first | (apply OQ.callb (vs := [Z V]); exact goes_fvalueA; exact rfl; exact cV; exact h5) | (apply OQ.not; exact rfl) | (apply OQ.move; exact rfl)) rfl ?_ | refine JC.seq ?_ | refine JC.region ?_ | refine JC.skip ?_ | refine JL.nil ?_ | refine JE.next ?_)
    refine JC.cond rfl (fun h => by cases h) (fun _ => ?_)
    repeat (first | refine JL.q (by first | (apply OQ.buildF; exact rfl; exact rfl) | (apply OQ.move; exact rfl)) rfl ?_ | refine JC.seq ?_ | refine JC.region ?_ | refine JC.skip ?_ | refine JE.next ?_)
    refine JL.store_all (cs := pc (nm, V)) fieldS rfl rfl rfl rfl .here rfl ?_
    repeat (first | refine JL.q (by (apply OQ.assign; exact rfl)) rfl ?_ | refine JL.nil ?_ | refine JE.next ?_)
    refine JC.ret ?_
    skip
    exact JE.ret3 rfl (RV.cell_agg fieldA fieldS rfl .here rfl Row.all) (RV.tmp rfl) (RV.tmp rfl) fun w' hw => ⟨⟨y, fun w1 h1 => hy1 w1 (hro w1 h1), fun p hp => by cases hp; exact hyl⟩, rfl, hw.chg⟩
theorem OQ.lenQ {P : Program} {n : Nat} {E : Env} {C : World → Prop} {dst : Option Tmp} {t ty e : TypeId} {pos : String} {aft : Array Edge} {g : Option (Nat × Bool)} {x : Operand} {q : Acc} {k : Nat} (hu : P.underlying t = some (.slice e)) (hq : q = none → k = 0) (hx : ev E x = some (accV q k)) : OQ P n E C ⟨dst, .call ⟨.builtin .len, #[x], #[t]⟩, ty, pos, aft, g⟩ (N k) := by
  cases q with
  | none =>
    rw [hq rfl]
    rw [hq rfl] at hx
    exact OQ.len hu hx
  | some p => exact OQ.len hu hx
theorem less_nilr {A B : List Ent} (h : Less A B) : Less A (B ++ []) := by rw [List.append_nil]; exact h
structure RS where
  x : Sl8
  fs : List Pr
  q : Acc
set_option maxHeartbeats 32000000 in
theorem freadN_any (s : Sl8) (w : World) (hs : s.ok w) (hl : s.l.length ≤ 70000) : Calls Tryz.prog 95 [s.v].toArray w fun e w' =>
    ∃ q : L9 (readB s.l), e = .returned (.tuple #[q.f.v, q.s.v, N (codeR (readB s.l))]) ∧ Holds w [] (q.s.ents ++ q.f.ents) w' := by
  refine enter (n := 43) Tryz.func95 rfl rfl rfl (Holds.start w []) ?_
  have cL := fun w' (hw' : Holds w [] [] w') => flong_any s w' (hs.holds hw' rfl) (by omega)
  have hlong := long_is s.l
  cases hB : longB s.l
  case true =>
    have hR : readB s.l = .error 4 := by unfold readB; rw [if_pos (hlong.2 hB)]
    rw [hR]
    rw [hB] at cL
    repeat (first | refine JL.q (by first | (apply OQ.callx (vs := [s.v]); exact goes_flong; exact rfl; exact cL) | (apply OQ.move; exact rfl) | (apply OQ.assign; exact rfl)) rfl ?_ | refine JC.seq ?_ | refine JC.region ?_ | refine JL.nil ?_ | refine JE.next ?_)
    refine JC.cond rfl (fun _ => ?_) (fun h => by cases h)
    repeat (first | refine JL.q (by (apply OQ.assign; exact rfl)) rfl ?_ | refine JC.seq ?_ | refine JC.region ?_ | refine JL.nil ?_ | refine JE.next ?_)
    refine JC.ret ?_
    repeat (refine JE.then_ret ?_)
    exact JE.ret3 rfl (RV.tmp rfl) (RV.tmp rfl) (RV.tmp rfl) fun w' hw => ⟨⟨nil2, nilS, rfl, rfl, fun _ => rfl, fun _ => rfl⟩, rfl, Sl.Holds.weak hw (.nil _)⟩
  have hR : readB s.l = rd 0 s.l := by unfold readB; rw [if_neg (fun h => by rw [hlong.1 h] at hB; cases hB)]
  rw [hR]
  rw [hB] at cL
  repeat (first | refine JL.q (by first | (apply OQ.callx (vs := [s.v]); exact goes_flong; exact rfl; exact cL) | (apply OQ.move; exact rfl) | (apply OQ.assign; exact rfl)) rfl ?_ | refine JC.seq ?_ | refine JC.region ?_ | refine JL.nil ?_ | refine JE.next ?_)
  refine JC.cond rfl (fun h => by cases h) (fun _ => ?_)
  clear cL hlong hB hR
  repeat (first | refine JC.block ?_ | refine JC.skip ?_ | refine JE.next ?_)
  refine JC.loop (fun g : RS => [(0, g.x.v), (2, accV g.q g.fs.length)]) (fun g => accP 51 g.q g.fs ++ []) (fun g => g.x.l.length) (fun g => g.x.ok w ∧ g.x.l.length ≤ 70000 ∧ g.fs.length ≤ 200 ∧ (g.q = none → g.fs = []) ∧ rd 0 s.l = (rd g.fs.length g.x.l).map fun p => (g.fs ++ p.1, p.2)) ⟨s, [], none⟩ ⟨hs, hl, Nat.zero_le _, fun _ => rfl, by show rd 0 s.l = (rd 0 s.l).map _; cases rd 0 s.l <;> rfl⟩ (by repeat (first | exact SubE.nil | refine SubE.cons _ _ _ rfl ?_)) (Less.refl _) ?_
  rintro ⟨x, fs, q⟩ ⟨hx, hxl, hfl, hq0, hrd⟩
  dsimp only at hx hxl hfl hq0 hrd ⊢
  have hq00 : q = none → fs.length = 0 := fun h => by rw [hq0 h]; rfl
  refine JC.block ?_
  refine JC.mid2 (ι := Unit) (fun _ => [(0, x.v), (2, accV q fs.length)]) (fun _ => accP 51 q fs ++ []) (fun _ => ∀ r, cut x.l ≠ some ([], r)) ?_ ?_
  · have hq := fun w' (hw' : Holds w [] (accP 51 q fs ++ []) w') => fcut_any x w' (hx.holds hw' rfl) (by omega)
    unfold cutLV at hq
    by_cases h : fi 10 x.l < x.l.length
    · simp only [h, if_true] at hq
      have hc := cutS_some h
      have hro := restS_ok hx h
      have hrl := restS_len x
      generalize lineS x = L at hq hc
      generalize restS x = T at hq hc hro hrl
      cases h0 : decide ((L.l.length : Int) = 0)
      · repeat (first | refine JL.q (by first | (apply OQ.callx (vs := [x.v]); exact goes_fcut; exact rfl; exact hq) | (apply OQ.extract; exact rfl; exact rfl) | (apply OQ.eqB (b := 0); exact rfl; exact rfl; exact h0) | (apply OQ.pick_t; exact rfl; exact rfl) | (apply OQ.move; exact rfl) | (apply OQ.assign; exact rfl) | (apply OQ.len; exact rfl; exact rfl)) rfl ?_ | refine JC.seq ?_ | refine JC.region ?_ | refine JL.nil ?_ | refine JE.next ?_ | refine JL.gon rfl rfl ?_)
        refine JC.cond rfl (fun h => by cases h) (fun _ => ?_)
        repeat (refine JC.skip ?_)
        refine JE.mid () (fun r hr => ?_) (by repeat (first | exact SubE.nil | refine SubE.cons _ _ _ rfl ?_)) (Less.refl _)
        rw [hc] at hr
        have h1 : L.l = [] := (Prod.mk.inj (Option.some.inj hr)).1
        exact of_decide_eq_false h0 (by rw [h1]; rfl)
      · have hL0 : L.l = [] := List.eq_nil_of_length_eq_zero (by have := of_decide_eq_true h0; omega)
        rw [hL0] at hc
        have hfin : rd fs.length x.l = .ok ([], T.l) := rd_end hc
        rw [hfin] at hrd
        repeat (first | refine JL.q (by first | (apply OQ.callx (vs := [x.v]); exact goes_fcut; exact rfl; exact hq) | (apply OQ.extract; exact rfl; exact rfl) | (apply OQ.eqB (b := 0); exact rfl; exact rfl; exact h0) | (apply OQ.pick_t; exact rfl; exact rfl) | (apply OQ.move; exact rfl) | (apply OQ.assign; exact rfl) | (apply OQ.len; exact rfl; exact rfl)) rfl ?_ | refine JC.seq ?_ | refine JC.region ?_ | refine JL.nil ?_ | refine JE.next ?_ | refine JL.gon rfl rfl ?_)
        refine JC.cond rfl (fun _ => ?_) (fun h => by cases h)
        repeat (first | refine JL.q (by (apply OQ.move; exact rfl)) rfl ?_ | refine JC.seq ?_ | refine JC.region ?_)
        refine JL.callg (ι := { q : Acc // q = none → T.l = [] }) (fun q => accV q.1 T.l.length) (fun q => accE 5 q.1 (T.l.map U8)) goes_clone rfl rfl (fun q => accE_wr _ _ _) (fun w' hw' => (clone_any T w' (hro.holds hw' rfl) (by omega)).mono fun e w2 ⟨q, h1, h2, h3⟩ => ⟨⟨q, h2⟩, h1, h3⟩) ?_
        rintro ⟨q2, hq2⟩
        dsimp only
        repeat (first | refine JL.q (by (apply OQ.assign; exact rfl)) rfl ?_ | refine JL.nil ?_ | refine JE.next ?_)
        refine JC.ret ?_
        repeat (first | refine JE.then_ret ?_ | refine JE.blk_ret ?_)
        refine JE.ret3 rfl (RV.tmp rfl) (RV.tmp rfl) (RV.tmp rfl) fun w' hw => ⟨⟨accLp q fs, accS q2 T.l, ?_, ?_, accLpnone9, accSnone9⟩, ?_, ?_⟩
        · rw [hrd]
          show (accLp q fs).l = fs ++ []
          rw [accLp_l hq0, List.append_nil]
        · rw [hrd]
          exact accS_l hq2
        · show Ending.returned (.tuple #[accV q fs.length, accV q2 T.l.length, N 0]) = Ending.returned (.tuple #[(accLp q fs).v, (accS q2 T.l).v, N (codeR (rd 0 s.l))])
          rw [hrd, accLp_v, accS_v]
          rfl
        · exact Sl.Holds.weak hw (less_two accSents9 (less_nilr accLpents9))
    · simp only [h, if_false] at hq
      have hc := cutS_none h
      repeat (first | refine JL.q (by first | (apply OQ.callx (vs := [x.v]); exact goes_fcut; exact rfl; exact hq) | (apply OQ.extract; exact rfl; exact rfl) | (apply OQ.pick_f; exact rfl; exact rfl) | (apply OQ.move; exact rfl) | (apply OQ.assign; exact rfl)) rfl ?_ | refine JC.seq ?_ | refine JC.region ?_ | refine JL.nil ?_ | refine JE.next ?_ | refine JL.gskip rfl rfl rfl rfl ?_)
      refine JC.cond rfl (fun h => by cases h) (fun _ => ?_)
      repeat (refine JC.skip ?_)
      refine JE.mid () (fun r hr => ?_) (by repeat (first | exact SubE.nil | refine SubE.cons _ _ _ rfl ?_)) (Less.refl _)
      rw [hc] at hr
      cases hr
  · rintro ⟨⟩ hns
    rw [rd_step hns] at hrd
    repeat (first | refine JL.q (by first | (apply OQ.lenQ; exact Tryz.underlying39; exact hq00; exact rfl) | (apply OQ.move; exact rfl)) rfl ?_ | refine JC.seq ?_ | refine JC.region ?_)
    refine JL.call (ι := { y : Sl8 // (∀ w1, x.ok w1 → y.ok w1) ∧ ∀ p, rf fs.length x.l = .ok p → y.l = p.2 }) (vs := [x.v, N fs.length]) (fun y => rfV (rf fs.length x.l) y.1) (fun _ => accP 51 q fs ++ []) goes_frf rfl rfl (fun w' hw' => (frf_any x fs.length w' (hx.holds hw' rfl) (by omega)).mono fun e w2 ⟨y, k1, k2⟩ => ⟨y, k1, hw'.ext k2⟩) ?_
    rintro ⟨y, hy1, hy2⟩
    dsimp only
    cases hf : rf fs.length x.l with
    | error e =>
      rw [hf] at hrd
      have he := rf_err hf
      have hne : decide ((e : Int) = 0) = false := decide_eq_false (by omega)
      dsimp only [rfV]
      repeat (refine JL.q (by first | (apply OQ.extract; exact rfl; exact rfl) | (apply OQ.move; exact rfl)) rfl ?_)
      refine JL.alloc fieldZ rfl fun b8 _ => ?_
      refine JL.store_all (cs := pc ([], [])) fieldS rfl rfl rfl rfl .here rfl ?_
      repeat (first | refine JL.q (by first | (apply OQ.neB (b := 0); exact rfl; exact rfl; exact hne) | (apply OQ.move; exact rfl) | (apply OQ.assign; exact rfl)) rfl ?_ | refine JC.seq ?_ | refine JC.region ?_ | refine JL.nil ?_ | refine JE.next ?_)
      refine JC.cond rfl (fun _ => ?_) (fun h => by cases h)
      repeat (first | refine JL.q (by first | (apply OQ.move; exact rfl) | (apply OQ.assign; exact rfl)) rfl ?_ | refine JC.seq ?_ | refine JC.region ?_ | refine JL.nil ?_ | refine JE.next ?_)
      refine JC.ret ?_
      repeat (first | refine JE.then_ret ?_ | refine JE.blk_ret ?_)
      refine JE.ret3 rfl (RV.tmp rfl) (RV.tmp rfl) (RV.tmp rfl) fun w' hw => ⟨⟨nil2, nilS, by rw [hrd]; rfl, by rw [hrd]; rfl, fun _ => rfl, fun _ => rfl⟩, ?_, Sl.Holds.weak hw (.nil _)⟩
      show Ending.returned (.tuple #[nil2.v, nilS.v, N e]) = Ending.returned (.tuple #[nil2.v, nilS.v, N (codeR (rd 0 s.l))])
      rw [hrd]
      rfl
    | ok pr =>
      obtain ⟨p, r'⟩ := pr
      rw [hf] at hrd
      obtain ⟨hlt, hk⟩ := rf_ok hf
      have hyl := hy2 _ hf
      dsimp only [rfV] at hyl hlt hrd ⊢
      repeat (refine JL.q (by first | (apply OQ.extract; exact rfl; exact rfl) | (apply OQ.move; exact rfl)) rfl ?_)
      refine JL.alloc fieldZ rfl fun b8 _ => ?_
      refine JL.store_all (cs := pc p) fieldS rfl rfl rfl rfl .here rfl ?_
      repeat (first | refine JL.q (by first | (apply OQ.neB (a := 0) (b := 0); exact rfl; exact rfl; exact rfl) | (apply OQ.move; exact rfl) | (apply OQ.assign; exact rfl)) rfl ?_ | refine JC.seq ?_ | refine JC.region ?_ | refine JL.nil ?_ | refine JE.next ?_)
      refine JC.cond rfl (fun h => by cases h) (fun _ => ?_)
      repeat (first | refine JL.q (by first | (apply OQ.load_agg (cs := pc p); exact fieldA; exact fieldS; exact rfl; exact .here; exact rfl; exact Row.all) | (apply OQ.move; exact rfl)) rfl ?_ | refine JC.seq ?_ | refine JC.region ?_ | refine JC.skip ?_ | refine JE.next ?_)
      refine JL.litA (cs := pc p) Tryz.underlying39 fieldI rfl (by decide) (by decide) rfl rfl rfl fun bl _ => ?_
      refine JL.appendP (p := p) (L := fs) (M0 := []) q Tryz.underlying39 fieldI hq0 rfl rfl rfl (by omega) (by omega) rfl fun b' cap' => ?_
      repeat (first | refine JL.q (by first | (apply OQ.move; exact rfl) | (apply OQ.assign; exact rfl)) rfl ?_ | refine JC.region ?_ | refine JL.nil ?_ | refine JE.next ?_ | refine JE.blk_normal ?_)
      have eN : (fs ++ [p]).length = fs.length + 1 := List.length_append
      have hyn : y.l.length = r'.length := by rw [hyl]
      refine JE.again (i := RS.mk x fs q) (RS.mk y (fs ++ [p]) (some (b', cap'))) ⟨hy1 w hx, ?_, ?_, (fun h => by cases h), ?_⟩ ?_ (by repeat (first | exact SubE.nil | refine SubE.cons _ _ _ rfl ?_)) (Less.refl _)
      · dsimp only
        omega
      · dsimp only
        omega
      · dsimp only
        rw [hrd, eN, hyl]
        cases rd (fs.length + 1) r' with
        | error e => rfl
        | ok z =>
          show Except.ok (fs ++ p :: z.1, z.2) = Except.ok (fs ++ [p] ++ z.1, z.2)
          rw [List.append_assoc]
          rfl
      · dsimp only
        omega
end Go.Proofs.YtbbmhkdfdgnkpaaGreatDoor

/-
  Of no statement by itself: what the landed letter's Read gives.
  Conditions: the theorem's own.
-/
namespace Go.Proofs.YtbbmhkdfdgnkpaaGreatDoor
set_option maxRecDepth 10000
open Sl Fld
theorem goes_lfread : Goes Tryz.prog 95 := ⟨_, Tryz.func95, rfl, by kernel_rfl⟩
theorem letAR : aggT Tryz.prog 41 = true := by kernel_rfl
theorem letSR : szT Tryz.prog 41 = some 2 := by kernel_rfl
theorem letZR : zc Tryz.prog 41 = some [.slice none 0 0, .slice none 0 0] := by kernel_rfl
theorem OQ.build_MR {n : Nat} {E : Env} {C : World → Prop} {dst : Option Tmp} {ty : TypeId} {pos : String} {aft : Array Edge} {g : Option (Nat × Bool)} {x y : Operand} {f : Sl2} {s : Sl8} (hx : ev E x = some f.v) (hy : ev E y = some s.v) : OQ Tryz.prog n E C ⟨dst, .build 41 #[(0, x), (1, y)], ty, pos, aft, g⟩ (.agg ([f.v, s.v] : List Value).toArray) := by
  refine OQ.run fun k hk w _ => ?_
  have h1 := hk.eval hx
  have h2 := hk.eval hy
  have h3 := run_build (P := Tryz.prog) w 41 #[(0, f.v), (1, s.v)] #[f.v, s.v] (by unfold Sl2.v Sl8.v; kernel_rfl)
  simp [execOp, h1, h2, Sem.run_bind, h3]
/-- layer 11's Read -/
def readL11 (m : List Fld.By) : Except Nat (List Pr × List Fld.By) := if 2097152 < m.length then .error 4 else readB m
set_option maxHeartbeats 8000000 in
theorem lread_any (s : Sl8) (w : World) (hs : s.ok w) (hl : s.l.length ≤ 70000) : Calls Tryz.prog 66 [s.v].toArray w fun e w' =>
    ∃ q : L9 (readL11 s.l), e = .returned (.tuple #[.agg #[q.f.v, q.s.v], N (codeR (readL11 s.l))]) ∧ Holds w [] (q.s.ents ++ q.f.ents) w' := by
  refine enter (n := 21) Tryz.func66 rfl rfl rfl (Holds.start w []) ?_
  repeat (first | refine JC.seq ?_ | refine JC.region ?_)
  refine JL.alloc letZR rfl fun b2 _ => ?_
  repeat (first | refine JL.q (by first | (apply OQ.move; exact rfl) | (apply OQ.assign; exact rfl) | (apply OQ.len; exact rfl; exact rfl)) rfl ?_ | refine JC.seq ?_ | refine JC.region ?_ | refine JL.nil ?_ | refine JE.next ?_)
  have h1 : decide ((2097152 : Int) < (s.l.length : Int)) = false := decide_eq_false (by omega)
  have hR : readL11 s.l = readB s.l := if_neg (by omega)
  rw [hR]
  repeat (first | refine JL.q (by (apply OQ.gtrB (b := 2097152); exact rfl; exact rfl; exact h1)) rfl ?_ | refine JL.nil ?_ | refine JE.next ?_)
  refine JC.cond_false rfl rfl ?_
  repeat (first | refine JL.q (by (apply OQ.move; exact rfl)) rfl ?_ | refine JC.seq ?_ | refine JC.region ?_ | refine JC.skip ?_ | refine JE.next ?_)
  refine JL.callg (ι := L9 (readB s.l)) (vs := [s.v]) (fun q => .tuple #[q.f.v, q.s.v, N (codeR (readB s.l))]) (fun q => q.s.ents ++ q.f.ents) goes_lfread rfl rfl (fun q => q.wr) (fun w' hw' => freadN_any s w' (hs.holds hw' rfl) hl) ?_
  intro q
  repeat (first | refine JL.q (by first | (apply OQ.extract; exact rfl; exact rfl) | (apply OQ.move; exact rfl) | (apply OQ.assign; exact rfl)) rfl ?_ | refine JC.seq ?_ | refine JC.region ?_ | refine JL.nil ?_ | refine JE.next ?_)
  repeat (refine JL.q (by first | (apply OQ.build_MR; exact rfl; exact rfl) | (apply OQ.move; exact rfl)) rfl ?_)
  refine JL.perm (M' := [⟨b2, Row 41 [.slice none 0 0, .slice none 0 0], true⟩] ++ (q.s.ents ++ q.f.ents)) ?_ List.perm_append_comm
  refine JL.store_all (cs := [q.f.v, q.s.v]) letSR rfl rfl rfl rfl .here rfl ?_
  repeat (first | refine JL.q (by (apply OQ.assign; exact rfl)) rfl ?_ | refine JL.nil ?_ | refine JE.next ?_)
  refine JC.ret ?_
  exact JE.ret2 rfl (RV.cell_agg letAR letSR rfl .here rfl Row.all) (RV.tmp rfl) fun w' hw => ⟨⟨q.f, q.s, q.hf, q.hs, q.nf, q.ns⟩, rfl, hw.weak (.drop _ _ _ (Less.refl _))⟩
end Go.Proofs.YtbbmhkdfdgnkpaaGreatDoor

/-
  Of no statement by itself: the first of a list's pairs for which something holds, and a list without those for which it does, pair by pair; no program.
  Conditions: none.
-/
namespace Go.Proofs.YtbbmhkdfdgnkpaaGreatDoor
open Sl
namespace Fld
def ixP (p : Pr → Bool) (l : List Pr) : Nat := (l.takeWhile fun c => !p c).length
def ixV (p : Pr → Bool) (l : List Pr) : Int := if ixP p l < l.length then (ixP p l : Int) else -1
theorem ixP_cons (p : Pr → Bool) (c : Pr) (l : List Pr) : ixP p (c :: l) = if p c then 0 else ixP p l + 1 := by
  unfold ixP
  rw [List.takeWhile_cons]
  cases p c <;> simp
theorem ixP_no {p : Pr → Bool} {c : Pr} (h : p c = false) (l : List Pr) : ixP p (c :: l) = ixP p l + 1 := by rw [ixP_cons, h]; rfl
theorem ixP_hit {p : Pr → Bool} {c : Pr} (h : p c = true) (l : List Pr) : ixP p (c :: l) = 0 := by rw [ixP_cons, h]; rfl
theorem ixP_nil (p : Pr → Bool) : ixP p [] = 0 := rfl
theorem ixV_yes {p : Pr → Bool} {l : List Pr} (h : ixP p l < l.length) : ixV p l = (ixP p l : Int) := if_pos h
theorem ixV_no {p : Pr → Bool} {l : List Pr} (h : ¬ ixP p l < l.length) : ixV p l = -1 := if_neg h
/-! ### a mail's fields -/
theorem head_all (n : List By) (l : List Pr) : (allB n l).headD [] = if ixP (fun c => sameB c.1 n) l < l.length then (l.getD (ixP (fun c => sameB c.1 n) l) ([], [])).2 else [] := by
  induction l with
  | nil => rfl
  | cons c l ih =>
    rw [all_cons]
    cases h : sameB c.1 n
    · rw [if_neg (by decide), ixP_no (p := fun c : Pr => sameB c.1 n) h, ih]
      simp
    · rw [if_pos rfl, ixP_hit (p := fun c : Pr => sameB c.1 n) h]
      simp
theorem none_all (n : List By) (l : List Pr) : (!(allB n l).isEmpty) = decide (ixP (fun c => sameB c.1 n) l < l.length) := by
  induction l with
  | nil => rfl
  | cons c l ih =>
    rw [all_cons]
    cases h : sameB c.1 n
    · rw [if_neg (by decide), ixP_no (p := fun c : Pr => sameB c.1 n) h, ih]
      simp
    · rw [if_pos rfl, ixP_hit (p := fun c : Pr => sameB c.1 n) h]
      simp
end Fld
end Go.Proofs.YtbbmhkdfdgnkpaaGreatDoor

/-
  Of no statement by itself: letter's closure named, and package slices at fields: IndexFunc, Clone, DeleteFunc, Insert (where there is room, or at the end).
  Conditions: each theorem's own.
-/
namespace Go.Proofs.YtbbmhkdfdgnkpaaGreatDoor
set_option maxRecDepth 10000
open Sl Fld
theorem goes_named : Goes Tryz.prog 89 := ⟨_, Tryz.func89, rfl, by kernel_rfl⟩
theorem goes_named1 : Goes Tryz.prog 120 := ⟨_, Tryz.func120, rfl, by kernel_rfl⟩
theorem goes_ixfun : Goes Tryz.prog 88 := ⟨_, Tryz.func88, rfl, by kernel_rfl⟩
/-- a name lies in a block -/
def NameAt (bn : Nat) (nm : List Bt) (w : World) : Prop := ∃ o, w.heap[bn]? = some o ∧ Row 9 [Z nm] o
abbrev namedV (bn : Nat) : Value := .func (.func 120) #[] [Pt bn 0].toArray
def Low (c : Pr) : Prop := c.1.length < 9223372036854775808
set_option maxHeartbeats 4000000 in
theorem named1_any (c : Pr) (bn : Nat) (nm : List Bt) (w : World) (hc : Low c) (hw : NameAt bn nm w) : Calls Tryz.prog 120 [.agg (pc c).toArray, Pt bn 0].toArray w fun e w' => e = .returned (.bool (sameB c.1 nm)) ∧ Ext w w' := by
  obtain ⟨o, ho, hA⟩ := hw
  refine enter (n := 8) Tryz.func120 rfl rfl rfl (Holds.seen (S := []) ho hA) ?_
  have cs := fun w' => fsame_any c.1 nm w' hc
  cases h1 : sameB c.1 nm
  all_goals
    refine JC.seq (JC.region (JL.box (r := pc c) rfl rfl rfl fun b1 _ => ?_))
    repeat (first | refine JL.q (by first | (apply OQ.load; exact strC; exact rfl; exact .here; exact (Row.cell (v := Z c.1) rfl)) | (apply OQ.load; exact strC; exact rfl; exact (.there .here); exact (Row.cell (v := Z nm) rfl)) | (apply OQ.callb (vs := [Z c.1, Z nm]); exact goes_fsame; exact rfl; exact cs; exact h1) | (apply OQ.assign; exact rfl) | (apply OQ.fld; exact rfl; exact rfl; exact rfl; exact (by decide); exact rfl)) rfl ?_ | refine JC.seq ?_ | refine JC.region ?_ | refine JL.nil ?_ | refine JE.next ?_)
    refine JC.ret ?_
    skip
    exact JE.ret1 rfl (RV.tmp rfl) fun w' hw => ⟨rfl, hw.chg⟩
theorem fun_named (bn : Nat) (nm : List Bt) : FunP Tryz.prog (NameAt bn nm) Low (namedV bn) (fun c => sameB c.1 nm) :=
  ⟨120, [Pt bn 0], rfl, goes_named1, fun c w hc hw => named1_any c bn nm w hc hw⟩
theorem named_any (nm : List Bt) (w : World) : Calls Tryz.prog 89 [Z nm].toArray w fun e w' => ∃ bn : Nat, e = .returned (namedV bn) ∧ Holds w [] [⟨bn, Row 9 [Z nm], true⟩] w' := by
  refine enter (n := 4) Tryz.func89 rfl rfl rfl (Holds.start w []) ?_
  refine JC.seq (JC.region (JL.box (r := [Z nm]) rfl rfl rfl fun b1 _ => ?_))
  repeat (first | refine JL.q (by first | (apply OQ.mkF (caps := [Pt b1 0]); exact rfl) | (apply OQ.assign; exact rfl)) rfl ?_ | refine JC.seq ?_ | refine JC.region ?_ | refine JL.nil ?_ | refine JE.next ?_)
  refine JC.ret ?_
  skip
  exact JE.ret1 rfl (RV.tmp rfl) fun w' hw => ⟨b1, rfl, hw⟩
theorem nameAt {w0 w : World} {S : List Nat} {M : List Ent} {bn : Nat} {nm : List Bt} {wr : Bool} (hw : Holds w0 S M w) (hM : Has M bn (Row 9 [Z nm]) wr) : NameAt bn nm w := hw.get hM
theorem NameAt.ext {bn : Nat} {nm : List Bt} {w w' : World} (h : NameAt bn nm w) (hx : Ext w w') : NameAt bn nm w' := by
  obtain ⟨o, ho, hA⟩ := h
  exact ⟨o, (hx.block bn (Array.getElem?_eq_some_iff.1 ho).1 (by simp)).trans ho, hA⟩
set_option maxHeartbeats 8000000 in
theorem ixfun_any {C : World → Prop} {D : Pr → Prop} (s : Sl2) (fv : Value) (p : Pr → Bool) (w : World) (hs : s.ok w) (hF : FunP Tryz.prog C D fv p) (hC : ∀ w', Ext w w' → C w') (hD : ∀ c ∈ s.l, D c) (hl : s.l.length < 9223372036854775807) :
    Calls Tryz.prog 88 [s.v, fv].toArray w fun e w' => e = .returned (.int .i64 (ixV p s.l)) ∧ Ext w w' := by
  refine enter (n := 19) Tryz.func88 rfl rfl rfl (Holds.start w []) ?_
  repeat (first | refine JL.q (by first | (apply OQ.len; exact Tryz.underlying39; exact rfl) | (apply OQ.move; exact rfl) | (apply OQ.assign; exact rfl)) rfl ?_ | refine JC.seq ?_ | refine JC.region ?_ | refine JC.block ?_ | refine JL.nil ?_ | refine JE.next ?_)
  refine JC.loop (fun i : Nat => [(0, s.v), (1, fv), (7, N s.l.length), (8, N i)]) (fun _ => []) (fun i => s.l.length - i) (fun i => i ≤ s.l.length ∧ ixP p s.l = i + ixP p (s.l.drop i)) 0 ⟨Nat.zero_le _, by simp⟩ (by repeat (first | exact SubE.nil | refine SubE.cons _ _ _ rfl ?_)) (Less.refl _) ?_
  rintro i ⟨hi, hp⟩
  repeat (first | refine JL.q (by (apply OQ.lssN; exact rfl; exact rfl)) rfl ?_ | refine JC.seq ?_ | refine JC.region ?_ | refine JL.nil ?_ | refine JE.next ?_)
  refine JC.cond rfl (fun h => ?_) (fun h => ?_)
  · have hi' : i < s.l.length := of_decide_eq_true h
    clear h hi
    obtain ⟨ba, ja, eA, la, ca1, ca2⟩ := hs.at hi'
    have vA : s.v = .slice (some ⟨ba, ja, none⟩) s.l.length s.cap := by rw [← eA]; rfl
    have cA := pair_cells ca1 ca2
    have hDi : D (s.l.getD i ([], [])) := hD _ (mem_getD hi')
    rw [drop_pr hi'] at hp
    generalize s.l.getD i ([], []) = c at hp cA hDi
    rw [vA]
    cases h1 : p c
    · rw [ixP_no h1] at hp
      repeat (first | refine JL.q (by first | (apply OQ.idxS; exact Tryz.underlying39; exact fieldS; exact rfl; exact rfl; exact hi') | (apply OQ.load_agg_old (cs := pc c); exact fieldA; exact rfl; exact fieldS; exact la; exact (by simp); exact cA) | (apply OQ.callP; exact hF; exact hDi; exact (fun w' hw' => hC w' hw'.chg); exact rfl; exact rfl; exact h1) | (apply OQ.move; exact rfl) | (apply OQ.assign; exact rfl)) rfl ?_ | refine JC.seq ?_ | refine JC.region ?_ | refine JC.block ?_ | refine JC.skip ?_ | refine JL.nil ?_ | refine JE.next ?_)
      refine JC.cond rfl (fun h => by cases h) (fun _ => ?_)
      repeat (first | refine JL.q (by first | (apply OQ.move; exact rfl) | (apply OQ.addN; exact rfl; exact rfl; exact (by (try simp only []); omega))) rfl ?_ | refine JC.region ?_ | refine JC.skip ?_ | refine JL.nil ?_ | refine JE.next ?_ | refine JE.blk_normal ?_)
      rw [← vA]
      exact JE.again (i := i) (i + 1) ⟨hi', by omega⟩ (by omega) (by repeat (first | exact SubE.nil | refine SubE.cons _ _ _ rfl ?_)) (Less.refl _)
    · rw [ixP_hit h1, Nat.add_zero] at hp
      have hv : ixV p s.l = (i : Int) := by rw [ixV_yes (by omega), hp]
      rw [hv]
      repeat (first | refine JL.q (by first | (apply OQ.idxS; exact Tryz.underlying39; exact fieldS; exact rfl; exact rfl; exact hi') | (apply OQ.load_agg_old (cs := pc c); exact fieldA; exact rfl; exact fieldS; exact la; exact (by simp); exact cA) | (apply OQ.callP; exact hF; exact hDi; exact (fun w' hw' => hC w' hw'.chg); exact rfl; exact rfl; exact h1) | (apply OQ.move; exact rfl) | (apply OQ.assign; exact rfl)) rfl ?_ | refine JC.seq ?_ | refine JC.region ?_ | refine JC.block ?_ | refine JC.skip ?_ | refine JL.nil ?_ | refine JE.next ?_)
      refine JC.cond rfl (fun _ => ?_) (fun h => by cases h)
      repeat (first | refine JL.q (by first | (apply OQ.move; exact rfl) | (apply OQ.assign; exact rfl)) rfl ?_ | refine JC.seq ?_ | refine JC.region ?_ | refine JL.nil ?_ | refine JE.next ?_)
      refine JC.ret ?_
      repeat (first | refine JE.then_ret ?_ | refine JE.blk_ret ?_)
      exact JE.ret1 rfl (RV.tmp rfl) fun w' hw => ⟨rfl, hw.chg⟩
  · have hi' : ¬ i < s.l.length := of_decide_eq_false h
    clear h
    rw [List.drop_eq_nil_of_le (by omega), ixP_nil] at hp
    rw [ixV_no (by omega)]
    repeat (first | refine JL.q (by (apply OQ.assign; exact rfl)) rfl ?_ | refine JC.seq ?_ | refine JC.region ?_ | refine JC.exit ?_ | refine JL.nil ?_ | refine JE.next ?_ | refine JE.then_exit ?_ | refine JE.blk_hit ?_)
    refine JC.ret ?_
    skip
    exact JE.ret1 rfl (RV.tmp rfl) fun w' hw => ⟨rfl, hw.chg⟩
end Go.Proofs.YtbbmhkdfdgnkpaaGreatDoor

/-
  Of no statement by itself: package slices at fields: DeleteFunc; Insert of one field at the end, or where there is room.
  Conditions: each theorem's own.
-/
namespace Go.Proofs.YtbbmhkdfdgnkpaaGreatDoor
set_option maxRecDepth 10000
open Sl Fld
structure DelT where
  j : Nat
  o : List Pr
  X : List Pr
end Go.Proofs.YtbbmhkdfdgnkpaaGreatDoor

/-
  Of no statement by itself: package slices at fields: Insert of one field at the end, or where there is room.
  Conditions: each theorem's own.
-/
namespace Go.Proofs.YtbbmhkdfdgnkpaaGreatDoor
set_option maxRecDepth 10000
open Sl Fld
end Go.Proofs.YtbbmhkdfdgnkpaaGreatDoor

/-
  Of no statement by itself: what despatchlaw11's great gives; what letter's Write owes for speaks (letWrite), and what speaks then gives.
  Conditions: each theorem's own.
-/
namespace Go.Proofs.YtbbmhkdfdgnkpaaGreatDoor
set_option maxRecDepth 10000
open Sl Fld
end Go.Proofs.YtbbmhkdfdgnkpaaGreatDoor

/-
  Of no statement by itself: what letter's functions owe (LetterOk); over it: what despatchlaw11's speaks gives.
  Conditions: LetterOk, and each theorem's own.
-/
namespace Go.Proofs.YtbbmhkdfdgnkpaaGreatDoor
set_option maxRecDepth 10000
open Sl Fld
/-- a mail as an answer -/
structure Lt (A : List Pr) (B : List Bt) where
  f : Sl2
  s : Sl8
  hf : f.l = A
  hs : s.l = B
  nf : f.ad = none → f.l = []
  ns : s.ad = none → s.l = []
def Lt.v {A : List Pr} {B : List Bt} (z : Lt A B) : Value := .agg #[z.f.v, z.s.v]
def Lt.ents {A : List Pr} {B : List Bt} (z : Lt A B) : List Ent := z.f.ents ++ z.s.ents
theorem Lt.wr {A : List Pr} {B : List Bt} (z : Lt A B) : ∀ e ∈ z.ents, e.wr = true := fun e he => by
  rcases List.mem_append.1 he with h | h
  · exact z.f.ents_wr e h
  · exact z.s.ents_wr e h
structure LetterOk : Prop where
  get : ∀ (f : Sl2) (s : Sl8) (nm : List Bt) (w : World), f.ok w → s.ok w → small2 f → f.l.length ≤ 301 → s.l.length ≤ 3000 → nm.length ≤ 200 → Calls Tryz.prog 64 [.agg #[f.v, s.v], Z nm].toArray w fun e w' => e = .returned (.tuple #[Z ((allB nm f.l).headD []), .bool (!(allB nm f.l).isEmpty)]) ∧ Ext w w'
  write : ∀ (f : Sl2) (s : Sl8) (w : World), f.ok w → s.ok w → small2 f → f.l.length ≤ 300 → s.l.length ≤ 3000 → (∀ p ∈ f.l, p.2.length ≤ 9000) → Calls Tryz.prog 42 [.agg #[f.v, s.v]].toArray w fun e w' => ∃ y : { y : Sl8 // y.l = writeO f.l s.l }, e = .returned (.tuple #[y.1.v, N (writeK f.l s.l)]) ∧ Ext w w' ∧ y.1.ok w'
section
variable {n : Nat} {E : Env} {C : World → Prop} {dst : Option Tmp} {ty : TypeId} {pos : String} {aft : Array Edge} {g : Option (Nat × Bool)} {x y : Operand}
end
end Go.Proofs.YtbbmhkdfdgnkpaaGreatDoor

/-
  Of no statement by itself: what the landed letter's Get, All and Drop give.
  Conditions: each theorem's own.
-/
namespace Go.Proofs.YtbbmhkdfdgnkpaaGreatDoor
set_option maxRecDepth 10000
open Sl Fld
theorem low_of {f : Sl2} (hz : small2 f) : ∀ c ∈ f.l, Low c := fun c hc => (hz c hc).1
set_option maxHeartbeats 16000000 in
theorem lget_any (f : Sl2) (s : Sl8) (nm : List Bt) (w : World) (hf : f.ok w) (hz : small2 f) (hl : f.l.length ≤ 1000000) : Calls Tryz.prog 64 [.agg #[f.v, s.v], Z nm].toArray w fun e w' => e = .returned (.tuple #[Z ((allB nm f.l).headD []), .bool (!(allB nm f.l).isEmpty)]) ∧ Ext w w' := by
  rw [head_all, none_all]
  refine enter (n := 20) Tryz.func64 rfl rfl rfl (Holds.start w []) ?_
  refine JC.seq (JC.region (JL.box (r := [f.v, s.v]) rfl rfl rfl fun b2 _ => ?_))
  repeat (first | refine JL.q (by (apply OQ.assign; exact rfl)) rfl ?_ | refine JC.seq ?_ | refine JL.nil ?_ | refine JE.next ?_)
  have ci : ∀ (M : List Ent) (bn : Nat) (w' : World), Holds w [] (⟨bn, Row 9 [Z nm], true⟩ :: M) w' → Calls Tryz.prog 88 [f.v, namedV bn].toArray w' fun e w'' => e = .returned (.int .i64 (ixV (fun c => sameB c.1 nm) f.l)) ∧ Ext w' w'' := fun M bn w' hw' =>
    ixfun_any (C := NameAt bn nm) (D := Low) f (namedV bn) _ w' (hf.holds hw' rfl) (fun_named bn nm) (fun w'' hx => (nameAt hw' .here).ext hx) (low_of hz) (by omega)
  let vs : Nat → Nat → Value := fun j x => match j with
    | 0 => Pt b2 0
    | 1 => f.v
    | 2 => Z nm
    | 3 => namedV x
    | _ => .int .i64 (ixV (fun c => sameB c.1 nm) f.l)
  let Ms : Nat → Nat → List Ent := fun j x => match j with
    | 3 => [⟨x, Row 9 [Z nm], true⟩]
    | 6 => [⟨b2, Row 41 [f.v, s.v], true⟩]
    | _ => []
  refine JC.growR (g := ⟨[(1, Z nm), (2, Pt b2 0)], 7, vs, Ms, (fun j => match j with | 1 => [(0, 7)] | 3 => [(2, 9)] | 4 => [(1, 8), (3, 10)] | 5 => [(4, 11)] | _ => []), (fun j => match j with | 1 => [6] | 4 => [3] | _ => []), (fun _ => []), (fun _ => none), fun _ => [], fun _ _ _ => True⟩) [(5, 6)] [6] mixT (by repeat (first | exact SubE.nil | refine SubE.cons _ _ _ rfl ?_)) (fun _ _ => .nil) (Less.refl _) (by kernel_rfl) (by kernel_rfl) (by kernel_rfl) ?_ ?_
  · refine ⟨?_, ?_, ?_, ?_, ?_, ?_, trivial⟩
    · (intro x EF MF Q kk; exact JL.q (OQ.fldx (o := 0) rfl rfl rfl (by decide) rfl rfl) rfl (JL.nil (kk default nofun)))
    · (intro x EF MF Q kk; exact JL.q (OQ.load fsC rfl .here (Row.cell (v := f.v) rfl)) rfl (JL.nil (kk default nofun)))
    · (intro x EF MF Q kk; exact JL.q (OQ.move rfl) rfl (JL.nil (kk default nofun)))
    · (intro x EF MF Q kk; exact JL.callg (ι := Nat) (vs := [Z nm]) (fun bn => namedV bn) (fun bn => [⟨bn, Row 9 [Z nm], true⟩]) goes_named rfl rfl (fun bn e he => by rw [List.mem_singleton.1 he]) (fun w' _ => named_any nm w') fun bn => JL.nil (kk bn nofun))
    · (intro x EF MF Q kk; exact JL.q (OQ.callx (vs := [f.v, namedV (x 3)]) goes_ixfun rfl (ci _ (x 3))) rfl (JL.nil (kk default nofun)))
    · (intro x EF MF Q kk; exact JL.q (OQ.assign rfl) rfl (JL.nil (kk default nofun)))
  intro x hx
  show JE _ _ _ _ _ [(6, .int .i64 (ixV (fun c => sameB c.1 nm) f.l)), (1, Z nm), (2, Pt b2 0)] [⟨b2, Row 41 [f.v, s.v], true⟩]
  clear ci hx x vs Ms
  by_cases hx : ixP (fun c => sameB c.1 nm) f.l < f.l.length
  · rw [if_pos hx, decide_eq_true hx, ixV_yes hx]
    have h0 : decide (((ixP (fun c => sameB c.1 nm) f.l : Nat) : Int) < 0) = false := decide_eq_false (by omega)
    obtain ⟨ba, ja, eA, la, ca1, ca2⟩ := hf.at hx
    have vA : f.v = .slice (some ⟨ba, ja, none⟩) f.l.length f.cap := by rw [← eA]; rfl
    generalize ixP (fun c => sameB c.1 nm) f.l = i at *
    rw [vA]
    repeat (first | refine JL.q (by first | (apply OQ.lssB (b := 0); exact rfl; exact rfl; exact h0) | (apply OQ.move; exact rfl)) rfl ?_ | refine JC.seq ?_ | refine JC.region ?_ | refine JL.nil ?_ | refine JE.next ?_)
    refine JC.cond rfl (fun h => by cases h) (fun _ => ?_)
    repeat (first | refine JL.q (by first | (apply OQ.load; exact fsC; exact rfl; exact .here; exact (Row.cell (v := .slice (some ⟨ba, ja, none⟩) f.l.length f.cap) rfl)) | (apply OQ.idxS; exact Tryz.underlying39; exact fieldS; exact rfl; exact rfl; exact hx) | (apply OQ.load_old; exact strC; exact rfl; exact la; exact (by simp); exact ca2) | (apply OQ.move; exact rfl) | (apply OQ.assign; exact rfl) | (apply OQ.fld; exact rfl; exact rfl; exact rfl; exact (by decide); exact rfl)) rfl ?_ | refine JC.seq ?_ | refine JC.region ?_ | refine JC.skip ?_ | refine JL.nil ?_ | refine JE.next ?_)
    refine JC.ret ?_
    skip
    exact JE.ret2 rfl (RV.tmp rfl) (RV.tmp rfl) fun w' hw => ⟨rfl, hw.chg⟩
  · rw [if_neg hx, decide_eq_false hx, ixV_no hx]
    have h0 : decide ((-1 : Int) < 0) = true := rfl
    repeat (first | refine JL.q (by first | (apply OQ.lssB (b := 0); exact rfl; exact rfl; exact h0) | (apply OQ.move; exact rfl)) rfl ?_ | refine JC.seq ?_ | refine JC.region ?_ | refine JL.nil ?_ | refine JE.next ?_)
    refine JC.cond rfl (fun _ => ?_) (fun h => by cases h)
    repeat (first | refine JL.q (by (apply OQ.assign; exact rfl)) rfl ?_ | refine JC.seq ?_ | refine JC.region ?_ | refine JL.nil ?_ | refine JE.next ?_)
    refine JC.ret ?_
    repeat (refine JE.then_ret ?_)
    exact JE.ret2 rfl (RV.tmp rfl) (RV.tmp rfl) fun w' hw => ⟨rfl, hw.chg⟩
structure AllT where
  i : Nat
  o : List (List Bt)
  q : Acc
end Go.Proofs.YtbbmhkdfdgnkpaaGreatDoor

/-
  Of no statement by itself: signs of groups of three, bytes of groups of four signs, lines by groups of 76: pure, in the shape in which code goes through groups.
  Conditions: none but each lemma's own.
-/
namespace Go.Proofs.YtbbmhkdfdgnkpaaGreatDoor
namespace Arm
/-- what F gives of each group of k -/
def fl (k : Nat) (F : List By → List By) (l : List By) : List By := (List.range ((l.length + k - 1) / k)).flatMap fun j => F ((l.drop (k * j)).take k)
theorem fl_nil {k : Nat} (hk : 0 < k) (F : List By → List By) : fl k F [] = [] := by
  unfold fl
  rw [List.length_nil, Nat.div_eq_of_lt (by omega)]; rfl
theorem fl_step {k : Nat} (hk : 0 < k) (F : List By → List By) {l : List By} (h : l ≠ []) : fl k F l = F (l.take k) ++ fl k F (l.drop k) := by
  have hp := List.length_pos_iff.2 h
  have e : (l.length + k - 1) / k = ((l.drop k).length + k - 1) / k + 1 := by
    rw [List.length_drop]
    by_cases hle : l.length ≤ k
    · rw [Nat.sub_eq_zero_of_le hle, Nat.zero_add, Nat.div_eq_of_lt (show k - 1 < k by omega)]
      exact Nat.div_eq_of_lt_le (by omega) (by omega)
    · rw [show l.length + k - 1 = (l.length - k + k - 1) + k by omega, Nat.add_div_right _ hk]
  unfold fl
  rw [e, List.range_succ_eq_map, List.flatMap_cons, List.flatMap_map, Nat.mul_zero, List.drop_zero]
  congr 2
  funext j
  rw [List.drop_drop, show k * j.succ = k + k * j by rw [Nat.mul_succ]; omega]
/-! ### signs -/
def pad3 (g : List By) : List By := [g.getD 0 0, g.getD 1 0, g.getD 2 0]
def val3 (g : List By) : Nat := (g.getD 0 0).toNat * 65536 + (g.getD 1 0).toNat * 256 + (g.getD 2 0).toNat
def sgn (g : List By) (i : Nat) : By := if g.length < i then 61 else sg (val3 g / 2 ^ (6 * (3 - i)) % 64)
def sig4 (g : List By) : List By := [sgn g 0, sgn g 1, sgn g 2, sgn g 3]
theorem sig4_is {g : List By} (h0 : g ≠ []) (h3 : g.length ≤ 3) : sig4 g = encB g := by
  match g, h0, h3 with
  | [a], _, _ =>
    have ha := a.isLt
    simp only [sig4, sgn, val3, List.length_cons, List.length_nil, List.getD_cons_zero, List.getD_cons_succ, List.getD_nil, encB]
    simp only [show ¬ (0 + 1 < 0) by omega, show ¬ (0 + 1 < 1) by omega, show (0 + 1 < 2) by omega, show (0 + 1 < 3) by omega, if_true, if_false]
    rw [show (a.toNat * 65536 + (0 : By).toNat * 256 + (0 : By).toNat) / 2 ^ (6 * (3 - 0)) % 64 = a.toNat / 4 by simp; omega,
      show (a.toNat * 65536 + (0 : By).toNat * 256 + (0 : By).toNat) / 2 ^ (6 * (3 - 1)) % 64 = a.toNat % 4 * 16 by simp; omega]
  | [a, b], _, _ =>
    have ha := a.isLt
    have hb := b.isLt
    simp only [sig4, sgn, val3, List.length_cons, List.length_nil, List.getD_cons_zero, List.getD_cons_succ, List.getD_nil, encB]
    simp only [show ¬ (0 + 1 + 1 < 0) by omega, show ¬ (0 + 1 + 1 < 1) by omega, show ¬ (0 + 1 + 1 < 2) by omega, show (0 + 1 + 1 < 3) by omega, if_true, if_false]
    rw [show (a.toNat * 65536 + b.toNat * 256 + (0 : By).toNat) / 2 ^ (6 * (3 - 0)) % 64 = a.toNat / 4 by simp; omega,
      show (a.toNat * 65536 + b.toNat * 256 + (0 : By).toNat) / 2 ^ (6 * (3 - 1)) % 64 = a.toNat % 4 * 16 + b.toNat / 16 by simp; omega,
      show (a.toNat * 65536 + b.toNat * 256 + (0 : By).toNat) / 2 ^ (6 * (3 - 2)) % 64 = b.toNat % 16 * 4 by simp; omega]
  | [a, b, c], _, _ =>
    have ha := a.isLt
    have hb := b.isLt
    have hc := c.isLt
    rw [encB3]
    simp only [sig4, sgn, val3, List.length_cons, List.length_nil, List.getD_cons_zero, List.getD_cons_succ, List.getD_nil, encB]
    simp only [show ¬ (0 + 1 + 1 + 1 < 0) by omega, show ¬ (0 + 1 + 1 + 1 < 1) by omega, show ¬ (0 + 1 + 1 + 1 < 2) by omega, show ¬ (0 + 1 + 1 + 1 < 3) by omega, if_false]
    rw [show (a.toNat * 65536 + b.toNat * 256 + c.toNat) / 2 ^ (6 * (3 - 0)) % 64 = a.toNat / 4 by simp; omega,
      show (a.toNat * 65536 + b.toNat * 256 + c.toNat) / 2 ^ (6 * (3 - 1)) % 64 = a.toNat % 4 * 16 + b.toNat / 16 by simp; omega,
      show (a.toNat * 65536 + b.toNat * 256 + c.toNat) / 2 ^ (6 * (3 - 2)) % 64 = b.toNat % 16 * 4 + c.toNat / 64 by simp; omega,
      show (a.toNat * 65536 + b.toNat * 256 + c.toNat) / 2 ^ (6 * (3 - 3)) % 64 = c.toNat % 64 by simp; omega]
theorem fl_enc (l : List By) : fl 3 sig4 l = encB l := by
  refine by3 (p := fun l => fl 3 sig4 l = encB l) (by rw [fl_nil (by decide)]; rfl) (fun a => ?_) (fun a b => ?_) (fun a b c r h => ?_) l
  · rw [fl_step (by decide) _ (by simp), show [a].drop 3 = [] from rfl, fl_nil (by decide), show [a].take 3 = [a] from rfl, sig4_is (by simp) (by simp), List.append_nil]
  · rw [fl_step (by decide) _ (by simp), show [a, b].drop 3 = [] from rfl, fl_nil (by decide), show [a, b].take 3 = [a, b] from rfl, sig4_is (by simp) (by simp), List.append_nil]
  · rw [fl_step (by decide) _ (by simp), show (a :: b :: c :: r).drop 3 = r from rfl, h, show (a :: b :: c :: r).take 3 = [a, b, c] from rfl, sig4_is (by simp) (by simp), encB3, encB3]
    rfl
theorem sgn_bits (g : List By) (i : Nat) : (((((g.getD 0 0).setWidth 32 <<< 16) ||| ((g.getD 1 0).setWidth 32 <<< 8)) ||| (g.getD 2 0).setWidth 32) >>> i &&& 63#32).toNat = val3 g / 2 ^ i % 64 := by
  unfold val3
  generalize g.getD 0 0 = a, g.getD 1 0 = b, g.getD 2 0 = c
  have ha := a.isLt
  have hb := b.isLt
  have hc := c.isLt
  rw [BitVec.toNat_and, BitVec.toNat_ushiftRight, BitVec.toNat_or, BitVec.toNat_or, BitVec.toNat_shiftLeft, BitVec.toNat_shiftLeft, BitVec.toNat_setWidth, BitVec.toNat_setWidth, BitVec.toNat_setWidth]
  rw [Nat.mod_eq_of_lt (show a.toNat < 2 ^ 32 by omega), Nat.mod_eq_of_lt (show b.toNat < 2 ^ 32 by omega), Nat.mod_eq_of_lt (show c.toNat < 2 ^ 32 by omega)]
  rw [Nat.mod_eq_of_lt (show a.toNat <<< 16 < 2 ^ 32 by rw [Nat.shiftLeft_eq]; omega), Nat.mod_eq_of_lt (show b.toNat <<< 8 < 2 ^ 32 by rw [Nat.shiftLeft_eq]; omega)]
  have e1 : a.toNat <<< 16 ||| b.toNat <<< 8 = (a.toNat * 256 + b.toNat) <<< 8 := by
    rw [← Nat.shiftLeft_add_eq_or_of_lt (by rw [Nat.shiftLeft_eq]; omega)]
    simp only [Nat.shiftLeft_eq]; omega
  rw [e1, ← Nat.shiftLeft_add_eq_or_of_lt (by omega)]
  rw [show (63#32).toNat = 2 ^ 6 - 1 from rfl, Nat.and_two_pow_sub_one_eq_mod, Nat.shiftRight_eq_div_pow, Nat.shiftLeft_eq]
  rw [show (a.toNat * 256 + b.toNat) * 2 ^ 8 + c.toNat = a.toNat * 65536 + b.toNat * 256 + c.toNat by omega]
/-! ### bytes -/
/-- a sign's number: nought for what is none -/
def pl (c : By) : Nat := ((List.range 64).find? fun i => sgL.getD i 0 == c).getD 0
theorem pl_sg : ∀ m : Fin 64, pl (sg m.val) = m.val := by decide +kernel
theorem sg_61' : ∀ m : Fin 64, ¬ sg m.val = 61#8 := by decide +kernel
theorem sg_61 {m : Nat} (h : m < 64) : ¬ sg m = 61#8 := sg_61' ⟨m, h⟩
theorem pl_lt (c : By) : pl c < 64 := by
  unfold pl
  cases h : (List.range 64).find? fun i => sgL.getD i 0 == c with
  | none => decide
  | some i => simpa using List.mem_of_find?_eq_some h
/-- the number that the first i signs of a group tell -/
def acc (g : List By) : Nat → Nat
  | 0 => 0
  | i + 1 => acc g i + pl (g.getD i 0) * 2 ^ (6 * (3 - i))
def lead (g : List By) : Nat := (g.takeWhile (· != 61)).length
def dec4 (g : List By) : List By := (List.range (lead g - 1)).map fun i => BitVec.ofNat 8 (acc g (lead g) / 2 ^ (8 * (2 - i)))
theorem acc_ok (g : List By) {i : Nat} (hi : i ≤ 4) : acc g i < 2 ^ 24 ∧ acc g i % 2 ^ (6 * (4 - i)) = 0 := by
  have p0 := pl_lt (g.getD 0 0)
  have p1 := pl_lt (g.getD 1 0)
  have p2 := pl_lt (g.getD 2 0)
  have p3 := pl_lt (g.getD 3 0)
  match i, hi with
  | 0, _ => simp [acc]
  | 1, _ => simp only [acc]; omega
  | 2, _ => simp only [acc]; omega
  | 3, _ => simp only [acc]; omega
  | 4, _ => simp only [acc]; omega
theorem acc_bits (g : List By) {i : Nat} (hi : i < 4) : BitVec.ofNat 32 (acc g i) ||| (BitVec.ofNat 32 (pl (g.getD i 0)) <<< (6 * (3 - i))) = BitVec.ofNat 32 (acc g (i + 1)) := by
  obtain ⟨h1, h2⟩ := acc_ok g (i := i) (by omega)
  have h3 := (acc_ok g (i := i + 1) (by omega)).1
  have hp := pl_lt (g.getD i 0)
  have he : 2 ^ (6 * (4 - i)) = 64 * 2 ^ (6 * (3 - i)) := by rw [show 6 * (4 - i) = 6 + 6 * (3 - i) by omega, Nat.pow_add]
  have hlt : pl (g.getD i 0) * 2 ^ (6 * (3 - i)) < 2 ^ (6 * (4 - i)) := by rw [he]; exact Nat.mul_lt_mul_of_pos_right hp (Nat.two_pow_pos _)
  have hle : 2 ^ (6 * (4 - i)) ≤ 2 ^ 24 := Nat.pow_le_pow_right (by decide) (by omega)
  apply BitVec.eq_of_toNat_eq
  rw [BitVec.toNat_or, BitVec.toNat_shiftLeft, BitVec.toNat_ofNat, BitVec.toNat_ofNat, BitVec.toNat_ofNat, Nat.mod_eq_of_lt (show acc g i < 2 ^ 32 by omega), Nat.mod_eq_of_lt (show pl (g.getD i 0) < 2 ^ 32 by omega), Nat.mod_eq_of_lt (show acc g (i + 1) < 2 ^ 32 by omega)]
  rw [Nat.shiftLeft_eq, Nat.mod_eq_of_lt (show pl (g.getD i 0) * 2 ^ (6 * (3 - i)) < 2 ^ 32 by omega)]
  have hb : acc g i = (acc g i / 2 ^ (6 * (4 - i))) <<< (6 * (4 - i)) := by
    rw [Nat.shiftLeft_eq]
    have := Nat.div_add_mod (acc g i) (2 ^ (6 * (4 - i)))
    rw [h2, Nat.mul_comm] at this
    omega
  rw [hb, ← Nat.shiftLeft_add_eq_or_of_lt hlt, ← hb]
  rfl
theorem byte_bits {n k : Nat} (h : n < 2 ^ 32) : (BitVec.ofNat 32 n >>> k).setWidth 8 = BitVec.ofNat 8 (n / 2 ^ k) := by
  apply BitVec.eq_of_toNat_eq
  rw [BitVec.toNat_setWidth, BitVec.toNat_ushiftRight, BitVec.toNat_ofNat, BitVec.toNat_ofNat, Nat.mod_eq_of_lt h, Nat.shiftRight_eq_div_pow]
theorem range3 : List.range 3 = [0, 1, 2] := rfl
theorem dec4_3 {p q r s : Nat} (hp : p < 64) (hq : q < 64) (hr : r < 64) (hs : s < 64) : dec4 [sg p, sg q, sg r, sg s] = [BitVec.ofNat 8 (p * 4 + q / 16), BitVec.ofNat 8 (q % 16 * 16 + r / 4), BitVec.ofNat 8 (r % 4 * 64 + s)] := by
  have e : lead [sg p, sg q, sg r, sg s] = 4 := by
    simp [lead, List.takeWhile_cons, sg_61 hp, sg_61 hq, sg_61 hr, sg_61 hs]
  unfold dec4
  rw [e]
  simp only [acc, List.getD_cons_zero, List.getD_cons_succ, pl_sg ⟨p, hp⟩, pl_sg ⟨q, hq⟩, pl_sg ⟨r, hr⟩, pl_sg ⟨s, hs⟩, range3, List.map_cons, List.map_nil, Nat.add_one_sub_one]
  congr 1
  · apply BitVec.eq_of_toNat_eq; simp only [BitVec.toNat_ofNat]; omega
  congr 1
  · apply BitVec.eq_of_toNat_eq; simp only [BitVec.toNat_ofNat]; omega
  congr 1
  · apply BitVec.eq_of_toNat_eq; simp only [BitVec.toNat_ofNat]; omega
theorem dec4_2 {p q r : Nat} (hp : p < 64) (hq : q < 64) (hr : r < 64) : dec4 [sg p, sg q, sg r, 61] = [BitVec.ofNat 8 (p * 4 + q / 16), BitVec.ofNat 8 (q % 16 * 16 + r / 4)] := by
  have e : lead [sg p, sg q, sg r, 61] = 3 := by
    simp [lead, List.takeWhile_cons, sg_61 hp, sg_61 hq, sg_61 hr]
  unfold dec4
  rw [e]
  simp only [acc, List.getD_cons_zero, List.getD_cons_succ, pl_sg ⟨p, hp⟩, pl_sg ⟨q, hq⟩, pl_sg ⟨r, hr⟩, show List.range (3 - 1) = [0, 1] from rfl, List.map_cons, List.map_nil]
  congr 1
  · apply BitVec.eq_of_toNat_eq; simp only [BitVec.toNat_ofNat]; omega
  congr 1
  · apply BitVec.eq_of_toNat_eq; simp only [BitVec.toNat_ofNat]; omega
theorem dec4_1 {p q : Nat} (hp : p < 64) (hq : q < 64) : dec4 [sg p, sg q, 61, 61] = [BitVec.ofNat 8 (p * 4 + q / 16)] := by
  have e : lead [sg p, sg q, 61, 61] = 2 := by
    simp [lead, List.takeWhile_cons, sg_61 hp, sg_61 hq]
  unfold dec4
  rw [e]
  simp only [acc, List.getD_cons_zero, List.getD_cons_succ, pl_sg ⟨p, hp⟩, pl_sg ⟨q, hq⟩, show List.range (2 - 1) = [0] from rfl, List.map_cons, List.map_nil]
  congr 1
  · apply BitVec.eq_of_toNat_eq; simp only [BitVec.toNat_ofNat]; omega
theorem fl_dec (l : List By) : fl 4 dec4 (encB l) = l := by
  refine by3 (p := fun l => fl 4 dec4 (encB l) = l) (by rw [encB, fl_nil (by decide)]) (fun a => ?_) (fun a b => ?_) (fun a b c r h => ?_) l
  · have ha := a.isLt
    rw [encB, fl_step (by decide) _ (by simp)]
    simp only [List.take_succ_cons, List.take_nil, List.drop_succ_cons, List.drop_nil, List.take_zero, List.drop_zero]
    rw [dec4_1 (by omega) (by omega), fl_nil (by decide), of8 (show _ = a.toNat by omega)]; rfl
  · have ha := a.isLt
    have hb := b.isLt
    rw [encB, fl_step (by decide) _ (by simp)]
    simp only [List.take_succ_cons, List.take_nil, List.drop_succ_cons, List.drop_nil, List.take_zero, List.drop_zero]
    rw [dec4_2 (by omega) (by omega) (by omega), fl_nil (by decide), of8 (show _ = a.toNat by omega), of8 (show _ = b.toNat by omega)]; rfl
  · have ha := a.isLt
    have hb := b.isLt
    have hc := c.isLt
    rw [encB3, fl_step (by decide) _ (by simp)]
    simp only [List.take_succ_cons, List.take_nil, List.drop_succ_cons, List.drop_nil, List.take_zero, List.drop_zero]
    rw [dec4_3 (by omega) (by omega) (by omega) (by omega), h, of8 (show _ = a.toNat by omega), of8 (show _ = b.toNat by omega), of8 (show _ = c.toNat by omega)]; rfl
theorem dec_yes {s : List By} (h : encB (fl 4 dec4 s) = s) : decB s = some (fl 4 dec4 s) := decB_iff.2 h
theorem dec_no {s : List By} (h : ¬ encB (fl 4 dec4 s) = s) : decB s = none := decB_none fun l hl => h (by rw [← hl, fl_dec])
/-! ### lines -/
end Arm
end Go.Proofs.YtbbmhkdfdgnkpaaGreatDoor

/-
  Of no statement by itself: what the reference's Encode (layer 6) gives.
  Conditions: each theorem's own.
-/
namespace Go.Proofs.YtbbmhkdfdgnkpaaGreatDoor
set_option maxRecDepth 10000
open Sl Arm
theorem take_one {α : Type} (l : List α) (d : α) {j : Nat} (h : j < l.length) : l.take (j + 1) = l.take j ++ [l.getD j d] := by
  rw [List.take_add_one, List.getD_eq_getElem?_getD, List.getElem?_eq_getElem h]; rfl
end Go.Proofs.YtbbmhkdfdgnkpaaGreatDoor

/-
  Of no statement by itself: what the reference's Decode, Lines and Read (layer 6) give.
  Conditions: each theorem's own.
-/
namespace Go.Proofs.YtbbmhkdfdgnkpaaGreatDoor
set_option maxRecDepth 10000
open Sl Arm
section
variable {P : Program} {n : Nat} {E : Env} {C : World → Prop} {dst : Option Tmp} {ty t t' : TypeId} {pos : String} {aft : Array Edge} {g : Option (Nat × Bool)} {x y : Operand}
end
def ecode (o : Option (List Arm.By)) : Nat := match o with | some _ => 0 | none => 3
theorem own_ents {e : TypeId} {b cap : Nat} {Y : List Bt} : Less (Sl8.ents ⟨some ⟨b, 0, none⟩, cap, Y⟩) [⟨b, Sl.Own e 1 Y.length cap (Y.map U8), true⟩] :=
  .keep _ _ _ _ _ _ (fun o h => ⟨Sl.Own.cells o h, by obtain ⟨_, _, _, _, h4⟩ := h; exact h4, rfl⟩) (.nil _)
theorem bare_take (l : List Arm.By) {i : Nat} (h : i < l.length) : bare (l.take (i + 1)) = bare (l.take i) ++ (if Arm.blank (l.getD i 0) then [] else [l.getD i 0]) := by
  rw [take_one l 0 h, bare_append]
  congr 1
  generalize l.getD i 0 = c
  cases h : Arm.blank c <;> simp [bare, h]
theorem bare_len (l : List Arm.By) : (bare l).length ≤ l.length := List.length_filter_le ..
end Go.Proofs.YtbbmhkdfdgnkpaaGreatDoor

/-
  Of no statement by itself: armor's addSigns, encoded and Encode.
  Conditions: each theorem's own.
-/
namespace Go.Proofs.YtbbmhkdfdgnkpaaGreatDoor
set_option maxRecDepth 10000
open Sl Arm
theorem goes_addSigns : Goes Tryz.prog 113 := ⟨_, Tryz.func113, rfl, by kernel_rfl⟩
theorem goes_encoded : Goes Tryz.prog 81 := ⟨_, Tryz.func81, rfl, by kernel_rfl⟩
theorem goes_aenc : Goes Tryz.prog 141 := ⟨_, Tryz.func141, rfl, by kernel_rfl⟩
theorem pad3_is {g : List Arm.By} (h : g.length ≤ 3) : ([0, 0, 0] : List Arm.By).take 0 ++ g.take (min g.length 3) ++ ([0, 0, 0] : List Arm.By).drop (0 + min g.length 3) = pad3 g := by
  match g, h with
  | [], _ => rfl
  | [a], _ => rfl
  | [a, b], _ => rfl
  | [a, b, c], _ => rfl
theorem sig4_take (g : List Arm.By) {i : Nat} (h : i < 4) : (sig4 g).take (i + 1) = (sig4 g).take i ++ [sgn g i] := by
  match i, h with
  | 0, _ => rfl
  | 1, _ => rfl
  | 2, _ => rfl
  | 3, _ => rfl
theorem part_block {s : Sl8} {w : World} (hs : s.ok w) {k j : Nat} (h : (s.part k j).l ≠ []) {a : Addr} (ha : (s.part k j).ad = some a) : a.block < w.heap.size := (part_ok hs k j).lt h a ha
theorem all8B (l : List Bt) : ∀ v ∈ l.map U8, v.oneCell' = true := by
  intro v hv
  obtain ⟨x, _, rfl⟩ := List.mem_map.1 hv
  rfl
theorem sg_at {v : BitVec 32} {m : Nat} (h : v.toNat = m) (hm : m < 64) : v.toNat < sgL.length ∧ sgL.getD v.toNat 0 = sg m := by
  subst h
  exact ⟨hm, rfl⟩
set_option maxHeartbeats 8000000 in
theorem addSigns_any (b k cap : Nat) (xs : List Bt) (g : Sl8) (w : World) (hg : g.ok w) (h3 : g.l.length ≤ 3) (hne : g.l ≠ [] → ∀ a, g.ad = some a → a.block ≠ b) {o : Obj} (ho : w.heap[b]? = some o) (hA : Sl.Own 5 1 k cap (xs.map U8) o) (hk : k ≤ 1000000000) :
    Calls Tryz.prog 113 [.slice (some ⟨b, 0, none⟩) k cap, g.v].toArray w fun e w' => ∃ q : Nat × Nat, e = .returned (.slice (some ⟨q.1, 0, none⟩) (k + 4) q.2) ∧ Holds w [b] [⟨q.1, Sl.Own 5 1 (k + 4) q.2 ((xs ++ sig4 g.l).map U8), true⟩] w' := by
  refine enter (n := 46) Tryz.func113 rfl rfl rfl (Holds.one ho hA) ?_
  have hrd : ∀ {M : List Ent} w', Holds w [b] M w' → Reads w' g.ad (g.l.map U8) := fun w' hw' => hw'.reads hg.reads (fun h a ha => by simpa using hne (by simpa using h) a ha)
  repeat (first | refine JL.q (by (apply OQ.assign; exact rfl)) rfl ?_ | refine JC.seq ?_ | refine JC.region ?_ | refine JL.nil ?_ | refine JE.next ?_)
  refine JL.alloc (r := ([0, 0, 0] : List Arm.By).map U8) (by kernel_rfl) rfl fun c _ => ?_
  repeat (first | refine JL.q (by first | (apply OQ.slA; exact Tryz.underlying172; exact u8s; exact rfl) | (apply OQ.move; exact rfl)) rfl ?_ | refine JC.seq ?_ | refine JC.region ?_ | refine JL.nil ?_ | refine JE.next ?_)
  refine JL.copy (r' := (pad3 g.l).map U8) (cs := g.l.map U8) (M' := [⟨c, Row 172 ((pad3 g.l).map U8), true⟩, ⟨b, Sl.Own 5 1 k cap (xs.map U8), true⟩]) Tryz.underlying22 u8s rfl rfl .here (by simp) (fun w' hw' => hrd w' hw') (all8B _) (by simp; omega) (by rw [← List.map_take, ← List.map_drop, ← List.map_take, ← List.map_append, ← List.map_append, pad3_is h3]) rfl ?_
  repeat (first | refine JL.q (by first | (apply OQ.load; exact u8c; exact rfl; exact .here; exact (Row.cell (v := U8 (g.l.getD 0 0)) rfl)) | (apply OQ.load; exact u8c; exact rfl; exact .here; exact (Row.cell (v := U8 (g.l.getD 1 0)) rfl)) | (apply OQ.load; exact u8c; exact rfl; exact .here; exact (Row.cell (v := U8 (g.l.getD 2 0)) rfl)) | (apply OQ.move; exact rfl) | (apply OQ.assign; exact rfl) | (apply OQ.or32; exact rfl; exact rfl) | (apply OQ.shl32; exact rfl; exact rfl) | (apply OQ.conv8_32; exact rfl; exact rfl; exact rfl) | (apply OQ.idxA0; exact rfl; exact rfl; exact rfl; exact rfl; exact (by (try simp only []); omega))) rfl ?_ | refine JC.seq ?_ | refine JC.region ?_ | refine JC.block ?_ | refine JL.nil ?_ | refine JE.next ?_)
  have hn := sgn_bits g.l
  generalize (((g.l.getD 0 0).setWidth 32 <<< 16) ||| ((g.l.getD 1 0).setWidth 32 <<< 8)) ||| (g.l.getD 2 0).setWidth 32 = nn at hn ⊢
  have hsg : ∀ i, i < 4 → ¬ g.l.length < i → (nn >>> (6 * (3 - i)) &&& 63#32).toNat < sgL.length ∧ sgL.getD (nn >>> (6 * (3 - i)) &&& 63#32).toNat 0 = sgn g.l i := fun i _ hlen => by
    have := sg_at (hn (6 * (3 - i))) (Nat.mod_lt _ (by decide))
    refine ⟨this.1, this.2.trans ?_⟩
    rw [sgn, if_neg hlen]
  have hfl : ∀ i, g.l.length < i → sgn g.l i = 61 := fun i h => by rw [sgn, if_pos h]
  clear hn
  skip
  refine JC.loop (fun q : Nat × Nat × Nat => [(0, .slice (some ⟨q.2.1, 0, none⟩) (k + q.1) q.2.2), (1, g.v), (6, U32 nn), (24, N q.1)])
    (fun q => [⟨q.2.1, Sl.Own 5 1 (k + q.1) q.2.2 ((xs ++ (sig4 g.l).take q.1).map U8), true⟩])
    (fun q => 4 - q.1) (fun q => q.1 ≤ 4) (0, b, cap) (by show 0 ≤ 4; omega) (by repeat (first | exact SubE.nil | refine SubE.cons _ _ _ rfl ?_)) (.drop _ _ _ (.keep _ _ _ _ _ _ (fun o h => by simpa using h) (.nil _))) ?_
  rintro ⟨i, b', cap'⟩ hi
  simp only at hi
  dsimp only
  repeat (first | refine JL.q (by (apply OQ.lssN; exact rfl; exact rfl)) rfl ?_ | refine JC.seq ?_ | refine JC.region ?_ | refine JL.nil ?_ | refine JE.next ?_)
  refine JC.cond rfl (fun h => ?_) (fun h => ?_)
  · have hi' : i < 4 := of_decide_eq_true h
    clear h hi
    have eS := sig4_take g.l hi'
    have hs := hsg i hi'
    generalize (sig4 g.l).take i = T at eS ⊢
    repeat (first | refine JL.q (by first | (apply OQ.move; exact rfl) | (apply OQ.assign; exact rfl) | (apply OQ.len; exact rfl; exact rfl) | (apply OQ.gtrN; exact rfl; exact rfl)) rfl ?_ | refine JC.seq ?_ | refine JC.region ?_ | refine JC.block ?_ | refine JC.skip ?_ | refine JL.nil ?_ | refine JE.next ?_)
    refine JC.cond rfl (fun h => ?_) (fun h => ?_)
    · have hlt : g.l.length < i := of_decide_eq_true h
      clear h
      rw [hfl i hlt] at eS
      repeat (first | refine JL.q (by (apply OQ.move; exact rfl)) rfl ?_ | refine JC.seq ?_ | refine JC.region ?_)
      refine JL.push1 (xs := (xs ++ T).map U8) (v := U8 61) (fun b'' cap'' => [⟨b'', Sl.Own 5 1 (k + i + 1) cap'' ((xs ++ T).map U8 ++ [U8 61]), true⟩]) Tryz.underlying22 u8e rfl rfl rfl rfl (fun _ => rfl) (by intro _ _; repeat (first | exact Repl.here | apply Repl.there)) (by omega) (by omega) rfl rfl fun bl b'' cap'' => ?_
      repeat (first | refine JL.q (by first | (apply OQ.move; exact rfl) | (apply OQ.assign; exact rfl) | (apply OQ.addN; exact rfl; exact rfl; exact (by (try simp only []); omega))) rfl ?_ | refine JC.region ?_ | refine JC.exit ?_ | refine JL.nil ?_ | refine JE.next ?_ | refine JE.then_exit ?_ | refine JE.blk_hit ?_)
      refine JE.again (i := (i, b', cap')) (i + 1, b'', cap'') (by show i + 1 ≤ 4; omega) (by show 4 - (i + 1) < 4 - i; omega) (by repeat (first | exact SubE.nil | refine SubE.cons _ _ _ rfl ?_)) (.keep _ _ _ _ _ _ (fun o h => ?_) (.nil _))
      dsimp only
      rw [eS, ← List.append_assoc, List.map_append]
      exact h
    · have hlt : ¬ g.l.length < i := of_decide_eq_false h
      clear h
      obtain ⟨hs1, hs2⟩ := hs hlt
      rw [← hs2] at eS
      repeat (first | refine JL.q (by first | (apply OQ.and32 (b := 63#32); exact rfl; exact rfl) | (apply OQ.idxZ (l := sgL); exact Tryz.underlying9; exact rfl; exact rfl; exact hs1) | (apply OQ.move; exact rfl) | (apply OQ.shr32; exact rfl; exact rfl) | (apply OQ.subN; exact rfl; exact rfl; exact (by (try simp only []); omega); exact (by (try simp only []); omega)) | (apply OQ.mulN; exact rfl; exact rfl; exact (by (try simp only []); omega))) rfl ?_ | refine JC.region ?_ | refine JC.skip ?_ | refine JE.next ?_)
      refine JL.push1 (xs := (xs ++ T).map U8) (fun b'' cap'' => [⟨b'', Sl.Own 5 1 (k + i + 1) cap'' ((xs ++ T).map U8 ++ [U8 (sgL.getD (nn >>> (6 * (3 - i)) &&& 63#32).toNat 0)]), true⟩]) Tryz.underlying22 u8e rfl rfl rfl rfl (fun _ => rfl) (by intro _ _; repeat (first | exact Repl.here | apply Repl.there)) (by omega) (by omega) rfl rfl fun bl b'' cap'' => ?_
      repeat (first | refine JL.q (by first | (apply OQ.move; exact rfl) | (apply OQ.assign; exact rfl) | (apply OQ.addN; exact rfl; exact rfl; exact (by (try simp only []); omega))) rfl ?_ | refine JC.region ?_ | refine JL.nil ?_ | refine JE.next ?_ | refine JE.blk_normal ?_)
      refine JE.again (i := (i, b', cap')) (i + 1, b'', cap'') (by show i + 1 ≤ 4; omega) (by show 4 - (i + 1) < 4 - i; omega) (by repeat (first | exact SubE.nil | refine SubE.cons _ _ _ rfl ?_)) (.keep _ _ _ _ _ _ (fun o h => ?_) (.nil _))
      dsimp only
      rw [eS, ← List.append_assoc, List.map_append]
      exact h
  · have hi' : ¬ i < 4 := of_decide_eq_false h
    obtain rfl : i = 4 := by omega
    clear h hi hi'
    repeat (first | refine JL.q (by first | (apply OQ.move; exact rfl) | (apply OQ.assign; exact rfl)) rfl ?_ | refine JC.seq ?_ | refine JC.region ?_ | refine JC.exit ?_ | refine JL.nil ?_ | refine JE.next ?_ | refine JE.then_exit ?_ | refine JE.blk_hit ?_)
    refine JC.ret (JE.ret1 rfl (RV.tmp rfl) ?_)
    exact fun w' hw => ⟨(b', cap'), rfl, hw⟩
theorem armU : szT Tryz.prog 22 = some 1 := by kernel_rfl
theorem armC : scal Tryz.prog 22 = true := by kernel_rfl
theorem row_cells {e : TypeId} {l : List Value} : ∀ o, Row e l o → o.isCells = true := by rintro o rfl; rfl
theorem own_cells {e : TypeId} {k cap : Nat} {l : List Value} : ∀ o, Sl.Own e 1 k cap l o → o.isCells = true := by rintro o ⟨_, rfl, _⟩; rfl
theorem snoc4 (s : Sl8) (k : Nat) (pre : List Nat) (j : Nat) : (pre ++ [j]).flatMap (fun j => sig4 (s.part k j).l) = pre.flatMap (fun j => sig4 (s.part k j).l) ++ sig4 (s.part k j).l := by simp
set_option maxHeartbeats 8000000 in
theorem encoded_any (s : Sl8) (w : World) (hs : s.ok w) (hl : s.l.length ≤ 100000) : Calls Tryz.prog 81 [s.v].toArray w
    fun e w' => ∃ x : Sl8, e = .returned x.v ∧ Ans x (encB s.l) ∧ Holds w [] x.ents w' := by
  have hp3 : parts s 3 ≤ 100000 := by unfold parts; omega
  refine enterM (n := 18) Tryz.func81 rfl rfl rfl (Holds.start w []) ?_
  repeat (first | refine JL.q (by first | (apply OQ.move; exact rfl) | (apply OQ.assign; exact rfl) | (apply OQ.len; exact rfl; exact rfl) | (apply OQ.addN; exact rfl; exact rfl; exact (by (try simp only []); omega)) | (apply OQ.mulN; exact rfl; exact rfl; exact (by (try simp only []); omega)) | (apply OQ.quoN; exact rfl; exact rfl; exact (by (try simp only []); omega); exact (by (try simp only []); omega))) rfl ?_ | refine JC.seq ?_ | refine JC.region ?_ | refine JL.nil ?_ | refine JE.next ?_)
  refine JL.make0 (c := (s.l.length / 3 + 1) * 4) Tryz.underlying22 u8e rfl rfl (by omega) rfl fun b _ => ?_
  refine JL.alloc (r := [.slice none 0 0]) (by kernel_rfl) rfl fun tb _ => ?_
  refine JL.store_eq (r' := [.slice (some ⟨b, 0, none⟩) 0 ((s.l.length / 3 + 1) * 4)]) (M' := [⟨tb, Row 22 [.slice (some ⟨b, 0, none⟩) 0 ((s.l.length / 3 + 1) * 4)], true⟩, ⟨b, Sl.Own 5 1 0 ((s.l.length / 3 + 1) * 4) [], true⟩]) armU rfl rfl rfl rfl .here (by decide) rfl ?_
  repeat (first | refine JL.q (by (apply OQ.move; exact rfl)) rfl ?_ | refine JC.seq ?_ | refine JC.region ?_ | refine JL.nil ?_ | refine JE.next ?_)
  refine JL.callg (ι := Nat × Nat) (fun q => .func (.func 114) #[] #[Pt q.1 0, Pt q.2 0]) (fun q => [⟨q.2, Row 3 [N 3], true⟩, ⟨q.1, Row 22 [s.v], true⟩]) goes_groups rfl rfl (by rintro q e he; simp at he; rcases he with rfl | rfl <;> rfl) (fun w' _ => groups_any s 3 w') ?_
  rintro ⟨b1, b2⟩
  dsimp only
  repeat (first | refine JC.block ?_ | refine JL.nil ?_ | refine JE.next ?_)
  refine JC.range (ι := Nat × Nat × List Nat) (fun j => (s.part 3 j).v) [b1, b2] (fun xs => xs = List.range (parts s 3)) (fun _ => True) (parts s 3)
    (fun q => [⟨b2, Row 3 [N 3], false⟩, ⟨b1, Row 22 [s.v], false⟩, ⟨tb, Row 22 [.slice (some ⟨q.1, 0, none⟩) (4 * q.2.2.length) q.2.1], true⟩, ⟨q.1, Sl.Own 5 1 (4 * q.2.2.length) q.2.1 ((q.2.2.flatMap fun j => sig4 (s.part 3 j).l).map U8), true⟩])
    (fun pre q => q.2.2 = pre) rfl (enters_of Tryz.func114 (by kernel_rfl) rfl) ?hseq ?hcell ?hL (b, (s.l.length / 3 + 1) * 4, []) rfl ?hM rfl rfl ?hbody ?hdone
  case hseq =>
    intro W hW
    obtain ⟨o1, h1, h1'⟩ := hW.get (b := b1) (A := Row 22 [s.v]) (wr := true) (by repeat (first | exact Has.here | apply Has.there))
    obtain ⟨o2, h2, h2'⟩ := hW.get (b := b2) (A := Row 3 [N 3]) (wr := true) (by repeat (first | exact Has.here | apply Has.there))
    exact groups_stops s 3 b1 b2 (by decide) hs.len (by omega) W h1 (Row.cell rfl _ h1') h2 (Row.cell rfl _ h2')
  case hcell =>
    rintro q e he o hA
    simp only [List.mem_cons, List.not_mem_nil, or_false] at he
    rcases he with rfl | rfl | rfl | rfl
    · exact row_cells o hA
    · exact row_cells o hA
    · exact row_cells o hA
    · exact own_cells o hA
  case hL =>
    intro q k hk
    simp only [List.mem_cons, List.not_mem_nil, or_false] at hk
    rcases hk with rfl | rfl
    · exact .inr ⟨_, (by repeat (first | exact Has.here | apply Has.there))⟩
    · exact .inr ⟨_, (by repeat (first | exact Has.here | apply Has.there))⟩
  case hM =>
    intro w' hw'
    exact hw'.weak2 (.keep _ _ _ _ _ _ _ (fun _ h => h) (by simp) (.keep _ _ _ _ _ _ _ (fun _ h => h) (by simp) (.keep _ _ _ _ _ _ _ (fun _ h => h) (by simp) (.keep _ _ _ _ _ _ _ (fun _ h => h) (by simp) (.nil _)))))
  case hbody =>
    rintro l pre j ⟨b', cap', pre'⟩ w1 rfl hlt hx hge
    dsimp only at hlt hge ⊢
    repeat (first | refine JL.q (by first | (apply OQ.load; exact armC; exact rfl; exact (by repeat (first | exact Has.here | apply Has.there)); exact (Row.cell rfl)) | (apply OQ.move; exact rfl)) rfl ?_ | refine JR.block ?_ | refine JR.region rfl (by first | with_reducible exact lo_roundQ | with_reducible exact lo_then lo_roundQ | with_reducible exact lo_blk lo_roundQ | with_reducible exact lo_then (lo_blk lo_roundQ) | with_reducible exact lo_roundX | with_reducible exact lo_then lo_roundX | with_reducible exact lo_blk lo_roundX | with_reducible exact lo_then (lo_blk lo_roundX) | with_reducible exact lo_then (lo_then (lo_blk lo_roundX))) ?_)
    refine JL.call (ι := Nat × Nat) (fun q => .slice (some ⟨q.1, 0, none⟩) (4 * pre'.length + 4) q.2) (fun q => [⟨b2, Row 3 [N 3], false⟩, ⟨b1, Row 22 [s.v], false⟩, ⟨tb, Row 22 [.slice (some ⟨b', 0, none⟩) (4 * pre'.length) cap'], true⟩, ⟨q.1, Sl.Own 5 1 (4 * pre'.length + 4) q.2 ((pre'.flatMap (fun j => sig4 (s.part 3 j).l) ++ sig4 (s.part 3 j).l).map U8), true⟩]) goes_addSigns rfl rfl ?_ ?_
    · intro w' hw'
      obtain ⟨o, ho, hA⟩ := hw'.get (b := b') (wr := true) (A := Sl.Own 5 1 (4 * pre'.length) cap' ((pre'.flatMap fun j => sig4 (s.part 3 j).l).map U8)) (by repeat (first | exact Has.here | apply Has.there))
      have hok := hs.ext (hw'.rebound hx hge)
      refine (addSigns_any b' _ cap' _ (s.part 3 j) w' (part_ok hok 3 j) (by show (List.take _ _).length ≤ 3; rw [List.length_take]; omega) ?_ ho hA (by omega)).mono ?_
      · intro hne a ha
        have := hge b' (by simp [wrs])
        have := part_block hs hne ha
        omega
      · rintro e w2 ⟨q, rfl, h2⟩
        exact ⟨q, rfl, hw'.relay (by repeat (first | exact Repl.here | apply Repl.there)) h2⟩
    rintro ⟨b'', cap''⟩
    dsimp only
    refine JL.store_eq (r' := [.slice (some ⟨b'', 0, none⟩) (4 * pre'.length + 4) cap'']) (M' := [⟨b2, Row 3 [N 3], false⟩, ⟨b1, Row 22 [s.v], false⟩, ⟨tb, Row 22 [.slice (some ⟨b'', 0, none⟩) (4 * pre'.length + 4) cap''], true⟩, ⟨b'', Sl.Own 5 1 (4 * pre'.length + 4) cap'' ((pre'.flatMap (fun j => sig4 (s.part 3 j).l) ++ sig4 (s.part 3 j).l).map U8), true⟩]) armU rfl rfl rfl rfl (by repeat (first | exact Upd.here | apply Upd.there)) (by simp) rfl ?_
    repeat (first | refine JL.nil ?_ | with_reducible refine JE.blk_normal ?_)
    refine JE.round (b'', cap'', pre' ++ [j]) rfl ?_
    dsimp only
    rw [snoc4, List.length_append, List.length_singleton, Nat.mul_add]
    exact Less.refl _
  case hdone =>
    rintro D xs ⟨b', cap', pre⟩ rfl rfl
    dsimp only
    have e : (List.range (parts s 3)).flatMap (fun j => sig4 (s.part 3 j).l) = encB s.l := fl_enc s.l
    rw [e, List.length_range]
    have e2 : 4 * parts s 3 = (encB s.l).length := by rw [encB_len]; unfold parts; omega
    rw [e2]
    repeat (first | refine KL.q (by first | (apply OQ.load; exact armC; exact rfl; exact (by repeat (first | exact Has.here | apply Has.there)); exact (Row.cell rfl)) | (apply OQ.assign; exact rfl)) rfl ?_ | refine KC.seq ?_ | refine KC.region ?_ | refine KL.nil ?_ | refine KE.next ?_ | refine KE.blk_normal ?_)
    refine KC.ret ?_
    refine KE.ret1 rfl rfl fun w' hw => ?_
    exact ⟨⟨some ⟨b', 0, none⟩, cap', encB s.l⟩, rfl, ⟨rfl, by simp⟩, hw.weak (.drop _ _ _ (.drop _ _ _ (.drop _ _ _ own_ents)))⟩
theorem aenc_any (s : Sl8) (w : World) (hs : s.ok w) (hl : s.l.length ≤ 20000) : Calls Tryz.prog 141 [s.v].toArray w fun e w' => e = .returned (Z (encB s.l)) ∧ Ext w w' := by
  refine enter (n := 6) Tryz.func141 rfl rfl rfl (Holds.start w []) ?_
  repeat (first | refine JL.q (by first | (apply OQ.move; exact rfl) | (apply OQ.assign; exact rfl)) rfl ?_ | refine JC.seq ?_ | refine JC.region ?_ | refine JL.nil ?_ | refine JE.next ?_)
  refine JL.callg (ι := { x : Sl8 // Ans x (encB s.l) }) (fun x => x.1.v) (fun x => x.1.ents) goes_encoded rfl rfl (fun x => x.1.ents_wr) (fun w' hw' => (encoded_any s w' (hs.holds hw' rfl) (by omega)).mono fun e w2 ⟨x, h1, h2, h3⟩ => ⟨⟨x, h2⟩, h1, h3⟩) ?_
  rintro ⟨x, hx⟩
  dsimp only
  repeat (first | refine JL.q (by first | (apply OQ.b2s; exact Tryz.underlying22; exact Tryz.underlying5; exact Tryz.underlying9; exact rfl; exact (fun w' hw' => hx.ok hw')) | (apply OQ.assign; exact rfl)) rfl ?_ | refine JL.nil ?_ | refine JE.next ?_)
  refine JC.ret (JE.ret1 rfl (RV.tmp rfl) ?_)
  exact fun w' hw => ⟨by rw [hx.val], hw.chg⟩
end Go.Proofs.YtbbmhkdfdgnkpaaGreatDoor

/-
  Of no statement by itself: armor's addBytes (and strings.IndexByte, by its bodies and the model's own entry).
  Conditions: each theorem's own.
-/
namespace Go.Proofs.YtbbmhkdfdgnkpaaGreatDoor
set_option maxRecDepth 10000
open Sl Arm
/-! ### strings.IndexByte -/
def ix (c : Bt) : Int := firstIdx (strB sgL) (c.toNat : Int).toNat.toUInt8
theorem ix_is (c : Bt) : max 0 (ix c) = (pl c : Int) := by
  have h : ∀ c : Fin 256, max 0 (ix (BitVec.ofNat 8 c.val)) = (pl (BitVec.ofNat 8 c.val) : Int) := by decide +kernel
  have := h ⟨c.toNat, c.isLt⟩
  simpa using this
structure IsIdx (P : Program) (f : FuncId) : Prop where
  go : ∃ fn, P.funcs[f]? = some fn ∧ (fn.name == "runtime.NumGoroutine") = false ∧ fn.body.isNone = true ∧ Extern.findNext fn = none ∧ Extern.find fn = some Extern.BytealgIndexByte.indexByte
theorem OQ.idxb {P : Program} {n : Nat} {E : Env} {C : World → Prop} {dst : Option Tmp} {ty : TypeId} {pos : String} {aft : Array Edge} {g : Option (Nat × Bool)} {f : FuncId} {ats : Array TypeId} {x y : Operand} {c : Bt} (hf : IsIdx P f) (hx : ev E x = some (Z sgL)) (hy : ev E y = some (U8 c)) :
    OQ P n E C ⟨dst, .call ⟨.value (.func f), #[x, y], ats⟩, ty, pos, aft, g⟩ (.int .i64 (ix c)) := by
  refine ⟨fun ac hk w hw => ?_⟩
  obtain ⟨fn, h1, h2, h3, h4, h5⟩ := hf.go
  have r := run_callFunc_extern h1 h2 h3 h4 h5 #[Z sgL, U8 c] w
  rw [run_indexByte_string] at r
  unfold Oper.quietAt
  have r' : (execOp ac.eval ⟨dst, .call ⟨.value (.func f), #[x, y], ats⟩, ty, pos, aft, g⟩).run P w = .ok (.value (.int .i64 (ix c))) w := by
    simp only [Result.andThen] at r
    have k1 := hk.eval hx
    have k2 := hk.eval hy
    have e : (.ok (.value (.int .i64 (ix c))) w : Result Next) = (callFunc f #[Z sgL, U8 c]).run P w := r.symm
    rw [e]
    simp [execOp, resolve, Sem.run_bind, Act.eval, Deferred.ofValue, invoke, k1, k2]
    simp [Act.eval] at k1 k2
    simp [k1, k2]
  rw [r']
  exact ⟨rfl, rfl⟩
theorem is_idx : IsIdx Tryz.prog 73 := ⟨_, Tryz.func73, rfl, rfl, by kernel_rfl, by kernel_rfl⟩
theorem goes_idx1 : Goes Tryz.prog 52 := ⟨_, Tryz.func52, rfl, by kernel_rfl⟩
theorem goes_idx2 : Goes Tryz.prog 36 := ⟨_, Tryz.func36, rfl, by kernel_rfl⟩
theorem idx1_any (c : Bt) (w : World) : Calls Tryz.prog 52 [Z sgL, U8 c].toArray w fun e w' => e = .returned (.int .i64 (ix c)) ∧ Ext w w' := by
  refine enter (n := 8) Tryz.func52 rfl rfl rfl (Holds.start w []) ?_
  repeat (first | refine JL.q (by first | (apply OQ.idxb; exact is_idx; exact rfl; exact rfl) | (apply OQ.move; exact rfl) | (apply OQ.assign; exact rfl)) rfl ?_ | refine JC.seq ?_ | refine JC.region ?_ | refine JL.nil ?_ | refine JE.next ?_)
  exact JC.ret (JE.ret1 rfl (RV.tmp rfl) fun w' hw => ⟨rfl, hw.chg⟩)
theorem idx2_any (c : Bt) (w : World) : Calls Tryz.prog 36 [Z sgL, U8 c].toArray w fun e w' => e = .returned (.int .i64 (ix c)) ∧ Ext w w' := by
  refine enter (n := 8) Tryz.func36 rfl rfl rfl (Holds.start w []) ?_
  repeat (first | refine JL.q (by first | (apply OQ.callx; exact goes_idx1; exact rfl; exact (fun w' _ => idx1_any c w')) | (apply OQ.move; exact rfl) | (apply OQ.assign; exact rfl)) rfl ?_ | refine JC.seq ?_ | refine JC.region ?_ | refine JL.nil ?_ | refine JE.next ?_)
  exact JC.ret (JE.ret1 rfl (RV.tmp rfl) fun w' hw => ⟨rfl, hw.chg⟩)
/-! ### addBytes -/
theorem OQ.maxP {P : Program} {n : Nat} {E : Env} {C : World → Prop} {dst : Option Tmp} {ty t t' : TypeId} {pos : String} {aft : Array Edge} {g : Option (Nat × Bool)} {x y : Operand} {c : Int} {m : Nat} (hx : ev E x = some (.int .i64 0)) (hy : ev E y = some (.int .i64 c)) (h : max 0 c = (m : Int)) : OQ P n E C ⟨dst, .call ⟨.builtin .max, #[x, y], #[t, t']⟩, ty, pos, aft, g⟩ (N m) :=
  OQ.to (OQ.maxI hx hy) (by rw [h])
theorem lead_nil : lead [] = 0 := rfl
theorem lead_cons (c : Arm.By) (g : List Arm.By) : lead (c :: g) = if c = 61 then 0 else lead g + 1 := by
  unfold lead
  rw [List.takeWhile_cons]
  by_cases hc : c = 61
  · rw [if_pos hc, hc]; rfl
  · rw [if_neg hc, if_pos (bne_iff_ne.2 hc)]; rfl
theorem lead_le : ∀ g : List Arm.By, lead g ≤ g.length
  | [] => Nat.zero_le _
  | c :: g => by
    rw [lead_cons, List.length_cons]
    have := lead_le g
    split <;> omega
theorem lead_ne : ∀ (g : List Arm.By) {i : Nat}, i < lead g → g.getD i 0 ≠ 61
  | [], i, h => by rw [lead_nil] at h; omega
  | c :: g, i, h => by
    rw [lead_cons] at h
    by_cases hc : c = 61
    · rw [if_pos hc] at h; omega
    · rw [if_neg hc] at h
      cases i with
      | zero => simpa using hc
      | succ i =>
        rw [List.getD_cons_succ]
        exact lead_ne g (by omega)
theorem lead_eq : ∀ (g : List Arm.By), lead g < g.length → g.getD (lead g) 0 = 61
  | [], h => by simp at h
  | c :: g, h => by
    rw [lead_cons] at h ⊢
    by_cases hc : c = 61
    · rw [if_pos hc]; simpa using hc
    · rw [if_neg hc] at h ⊢
      rw [List.getD_cons_succ]
      exact lead_eq g (by rw [List.length_cons] at h; omega)
theorem goes_addBytes : Goes Tryz.prog 140 := ⟨_, Tryz.func140, rfl, by kernel_rfl⟩
theorem dec4_len (g : List Arm.By) : (dec4 g).length = lead g - 1 := by simp [dec4]
theorem dec4_take (g : List Arm.By) (h4 : g.length ≤ 4) {i : Nat} (h : i < lead g - 1) : (dec4 g).take (i + 1) = (dec4 g).take i ++ [(BitVec.ofNat 32 (acc g (lead g)) >>> (8 * (2 - i))).setWidth 8] := by
  have hl := lead_le g
  rw [take_one _ 0 (by rw [dec4_len]; exact h), byte_bits (by have := (Arm.acc_ok g (i := lead g) (by omega)).1; omega)]
  congr 2
  simp [dec4, List.getD_eq_getElem?_getD, h]
set_option maxHeartbeats 8000000 in
theorem addBytes_any (b k cap : Nat) (xs : List Bt) (g : Sl8) (w : World) (hg : g.ok w) (h4 : g.l.length ≤ 4) (hne : g.l ≠ [] → ∀ a, g.ad = some a → a.block ≠ b) {o : Obj} (ho : w.heap[b]? = some o) (hA : Sl.Own 5 1 k cap (xs.map U8) o) (hk : k ≤ 1000000000) :
    Calls Tryz.prog 140 [.slice (some ⟨b, 0, none⟩) k cap, g.v].toArray w fun e w' => ∃ q : Nat × Nat, e = .returned (.slice (some ⟨q.1, 0, none⟩) (k + (dec4 g.l).length) q.2) ∧ Holds w [b] [⟨q.1, Sl.Own 5 1 (k + (dec4 g.l).length) q.2 ((xs ++ dec4 g.l).map U8), true⟩] w' := by
  refine enter (n := 49) Tryz.func140 rfl rfl rfl (Holds.one ho hA) ?_
  have hl := lead_le g.l
  repeat (first | refine JL.q (by first | (apply OQ.move; exact rfl) | (apply OQ.assign; exact rfl) | (apply OQ.len; exact rfl; exact rfl)) rfl ?_ | refine JC.seq ?_ | refine JC.region ?_ | refine JC.block ?_ | refine JL.nil ?_ | refine JE.next ?_)
  refine JC.joinB (ι := Unit) (fun _ => [(0, .slice (some ⟨b, 0, none⟩) k cap), (5, U32 (BitVec.ofNat 32 (acc g.l (lead g.l)))), (6, I ((lead g.l : Int) - 1))]) (fun _ => [⟨b, Sl.Own 5 1 k cap (xs.map U8), true⟩]) (fun _ => True) ?_ ?_
  · refine JC.loop (fun i : Nat => [(0, .slice (some ⟨b, 0, none⟩) k cap), (11, g.v), (12, N g.l.length), (13, N i), (5, U32 (BitVec.ofNat 32 (acc g.l i))), (6, I ((i : Int) - 1))])
      (fun _ => [⟨b, Sl.Own 5 1 k cap (xs.map U8), true⟩]) (fun i => lead g.l + 1 - i) (fun i => i ≤ lead g.l) 0 (Nat.zero_le _) (by repeat (first | exact SubE.nil | refine SubE.cons _ _ _ rfl ?_)) (Less.refl _) ?_
    intro i hi
    repeat (first | refine JL.q (by (apply OQ.lssN; exact rfl; exact rfl)) rfl ?_ | refine JC.seq ?_ | refine JC.region ?_ | refine JL.nil ?_ | refine JE.next ?_)
    refine JC.cond rfl (fun h => ?_) (fun h => ?_)
    · have hi' : i < g.l.length := of_decide_eq_true h
      clear h
      obtain ⟨ba, ja, hae, hca⟩ := hg.reads.at (by simp; omega)
      have hc := hca i _ (map_at U8 0 hi')
      have hbn : ba ≠ b := hne (List.length_pos_iff.1 (by omega)) ⟨ba, ja, none⟩ hae
      have hav : g.v = .slice (some ⟨ba, ja, none⟩) g.l.length g.cap := by rw [← hae]; rfl
      have h61 : i < lead g.l ↔ ¬ g.l.getD i 0 = 61 := ⟨fun h => lead_ne g.l h, fun h => Nat.lt_of_le_of_ne hi fun e => h (by rw [e]; exact lead_eq g.l (by omega))⟩
      have hacc := acc_bits g.l (i := i) (by omega)
      have hix := ix_is (g.l.getD i 0)
      generalize g.l.getD i 0 = c at hc h61 hacc hix
      rw [hav]
      repeat (first | refine JL.q (by first | (apply OQ.idxS1; exact Tryz.underlying22; exact u8s; exact rfl; exact rfl; exact hi') | (apply OQ.load_old; exact u8c; exact rfl; exact (block_lt_of_cell hc); exact (by simpa using hbn); exact hc) | (apply OQ.eq8 (b := 61#8); exact rfl; exact rfl) | (apply OQ.move; exact rfl) | (apply OQ.assign; exact rfl)) rfl ?_ | refine JC.seq ?_ | refine JC.region ?_ | refine JC.block ?_ | refine JC.skip ?_ | refine JL.nil ?_ | refine JE.next ?_)
      refine JC.cond rfl (fun h => ?_) (fun h => ?_)
      · have hc61 : c = 61 := of_decide_eq_true h
        have hil : i = lead g.l := by
          have := mt h61.1 (by simpa using hc61)
          omega
        subst hil
        repeat (first | refine JC.exit ?_ | refine JE.then_exit ?_ | refine JE.blk_hit ?_ | refine JE.blk_miss rfl ?_)
        exact JE.mid () trivial (by repeat (first | exact SubE.nil | refine SubE.cons _ _ _ rfl ?_)) (Less.refl _)
      · have hc61 : ¬ c = 61 := of_decide_eq_false h
        have hil := h61.2 hc61
        repeat (first | refine JL.q (by first | (apply OQ.callx (vs := [Z sgL, U8 c]); exact goes_idx2; exact rfl; exact (fun w' _ => idx2_any c w')) | (apply OQ.convN_32; exact rfl; exact rfl; exact rfl) | (apply OQ.maxP; exact rfl; exact rfl; exact hix) | (apply OQ.shl32 (k := 6 * (3 - i)); exact rfl; exact rfl) | (apply OQ.addI (b := 1); exact rfl; exact rfl; exact (by omega); exact (by omega)) | (apply OQ.move; exact rfl) | (apply OQ.assign; exact rfl) | (apply OQ.or32; exact rfl; exact rfl) | (apply OQ.subN; exact rfl; exact rfl; exact (by (try simp only []); omega); exact (by (try simp only []); omega)) | (apply OQ.mulN; exact rfl; exact rfl; exact (by (try simp only []); omega))) rfl ?_ | refine JC.seq ?_ | refine JC.region ?_ | refine JC.skip ?_ | refine JL.nil ?_ | refine JE.next ?_ | refine JE.blk_normal ?_)
        rw [hacc]
        refine JE.again (i := i) (i + 1) hil (by show lead g.l + 1 - (i + 1) < lead g.l + 1 - i; omega) ?_ (Less.refl _)
        rw [show (((i + 1 : Nat) : Int) - 1) = (i : Int) - 1 + 1 by omega]
        exact (by repeat (first | exact SubE.nil | refine SubE.cons _ _ _ rfl ?_))
    · have hi' : ¬ i < g.l.length := of_decide_eq_false h
      have hil : i = lead g.l := by omega
      subst hil
      repeat (first | refine JC.exit ?_ | refine JE.then_exit ?_ | refine JE.blk_hit ?_)
      exact JE.mid () trivial (by repeat (first | exact SubE.nil | refine SubE.cons _ _ _ rfl ?_)) (Less.refl _)
  intro _ _
  have hT : lead g.l ≤ 4 := by omega
  have htk := fun {i : Nat} (h : i < lead g.l - 1) => dec4_take g.l h4 h
  have hdl := dec4_len g.l
  generalize lead g.l = t at hT htk hdl ⊢
  generalize BitVec.ofNat 32 (acc g.l t) = nn at htk ⊢
  repeat (first | refine JL.q (by (apply OQ.move; exact rfl)) rfl ?_ | refine JC.seq ?_ | refine JC.region ?_ | refine JC.block ?_ | refine JL.nil ?_ | refine JE.next ?_)
  refine JC.loop (fun q : Nat × Nat × Nat => [(0, .slice (some ⟨q.2.1, 0, none⟩) (k + q.1) q.2.2), (5, U32 nn), (34, I ((t : Int) - 1)), (35, N q.1)])
    (fun q => [⟨q.2.1, Sl.Own 5 1 (k + q.1) q.2.2 ((xs ++ (dec4 g.l).take q.1).map U8), true⟩])
    (fun q => 4 - q.1) (fun q => q.1 ≤ t - 1) (0, b, cap) (Nat.zero_le _) (by repeat (first | exact SubE.nil | refine SubE.cons _ _ _ rfl ?_)) (.keep _ _ _ _ _ _ (fun o h => by simpa using h) (.nil _)) ?_
  rintro ⟨i, b', cap'⟩ hi
  simp only at hi
  dsimp only
  repeat (first | refine JL.q (by (apply OQ.lssI (b := (t : Int) - 1); exact rfl; exact rfl)) rfl ?_ | refine JC.seq ?_ | refine JC.region ?_ | refine JL.nil ?_ | refine JE.next ?_)
  refine JC.cond rfl (fun h => ?_) (fun h => ?_)
  · have hi0 : (i : Int) < (t : Int) - 1 := of_decide_eq_true h
    have hi' : i < t - 1 := by omega
    clear h hi hi0
    have eS := htk hi'
    generalize (dec4 g.l).take i = T at eS ⊢
    repeat (first | refine JL.q (by first | (apply OQ.shr32 (k := 8 * (2 - i)); exact rfl; exact rfl) | (apply OQ.move; exact rfl) | (apply OQ.assign; exact rfl) | (apply OQ.subN; exact rfl; exact rfl; exact (by (try simp only []); omega); exact (by (try simp only []); omega)) | (apply OQ.mulN; exact rfl; exact rfl; exact (by (try simp only []); omega)) | (apply OQ.conv32_8; exact rfl; exact rfl; exact rfl)) rfl ?_ | refine JC.seq ?_ | refine JC.region ?_ | refine JC.block ?_ | refine JC.skip ?_ | refine JL.nil ?_ | refine JE.next ?_)
    refine JL.push1 (xs := (xs ++ T).map U8) (fun b'' cap'' => [⟨b'', Sl.Own 5 1 (k + i + 1) cap'' ((xs ++ T).map U8 ++ [U8 ((nn >>> (8 * (2 - i))).setWidth 8)]), true⟩]) Tryz.underlying22 u8e rfl rfl rfl rfl (fun _ => rfl) (by intro _ _; repeat (first | exact Repl.here | apply Repl.there)) (by omega) (by omega) rfl rfl fun bl b'' cap'' => ?_
    repeat (first | refine JL.q (by first | (apply OQ.move; exact rfl) | (apply OQ.assign; exact rfl) | (apply OQ.addN; exact rfl; exact rfl; exact (by (try simp only []); omega))) rfl ?_ | refine JC.region ?_ | refine JL.nil ?_ | refine JE.next ?_ | refine JE.blk_normal ?_)
    refine JE.again (i := (i, b', cap')) (i + 1, b'', cap'') hi' (by show 4 - (i + 1) < 4 - i; omega) (by repeat (first | exact SubE.nil | refine SubE.cons _ _ _ rfl ?_)) (.keep _ _ _ _ _ _ (fun o h => ?_) (.nil _))
    dsimp only
    rw [eS, ← List.append_assoc, List.map_append]
    exact h
  · have hi0 : ¬ (i : Int) < (t : Int) - 1 := of_decide_eq_false h
    obtain rfl : i = t - 1 := by omega
    clear h hi hi0
    rw [List.take_of_length_le (by omega), ← hdl]
    repeat (first | refine JL.q (by first | (apply OQ.move; exact rfl) | (apply OQ.assign; exact rfl)) rfl ?_ | refine JC.seq ?_ | refine JC.region ?_ | refine JC.exit ?_ | refine JL.nil ?_ | refine JE.next ?_ | refine JE.then_exit ?_ | refine JE.blk_hit ?_)
    refine JC.ret (JE.ret1 rfl (RV.tmp rfl) ?_)
    exact fun w' hw => ⟨(b', cap'), rfl, hw⟩
end Go.Proofs.YtbbmhkdfdgnkpaaGreatDoor

/-
  Of no statement by itself: armor's Decode, Lines, blank and Read.
  Conditions: each theorem's own.
-/
namespace Go.Proofs.YtbbmhkdfdgnkpaaGreatDoor
set_option maxRecDepth 10000
open Sl Arm
theorem goes_adec : Goes Tryz.prog 105 := ⟨_, Tryz.func105, rfl, by kernel_rfl⟩
theorem goes_aread : Goes Tryz.prog 69 := ⟨_, Tryz.func69, rfl, by kernel_rfl⟩
theorem goes_ablank : Goes Tryz.prog 104 := ⟨_, Tryz.func104, rfl, by kernel_rfl⟩
theorem flat_len (F : List Arm.By → List Arm.By) (s : Sl8) (k m : Nat) (hF : ∀ g, g.length ≤ k → (F g).length ≤ m) : ∀ pre : List Nat, (pre.flatMap fun j => F (s.part k j).l).length ≤ m * pre.length
  | [] => by simp
  | j :: pre => by
    have ih := flat_len F s k m hF pre
    have h := hF (s.part k j).l (by show (List.take _ _).length ≤ k; rw [List.length_take]; omega)
    rw [List.flatMap_cons, List.length_append, List.length_cons, Nat.mul_add]
    omega
theorem snocF (F : List Arm.By → List Arm.By) (s : Sl8) (k : Nat) (pre : List Nat) (j : Nat) : (pre ++ [j]).flatMap (fun j => F (s.part k j).l) = pre.flatMap (fun j => F (s.part k j).l) ++ F (s.part k j).l := by simp
theorem Less2.refl : ∀ M, Less2 M M
  | [] => .nil _
  | ⟨_, _, _⟩ :: M => .keep _ _ _ _ _ _ _ (fun _ h => h) (fun h => h) (Less2.refl M)
set_option maxHeartbeats 8000000 in
theorem adec_any (s : List Arm.By) (w : World) (hl : s.length ≤ 20000) : Calls Tryz.prog 105 [Z s].toArray w
    fun e w' => ∃ x : Sl8, e = .returned (.tuple #[x.v, N (ecode (decB s))]) ∧ Ans x ((decB s).getD []) ∧ Holds w [] x.ents w' := by
  refine enterM (n := 23) Tryz.func105 rfl rfl rfl (Holds.start w []) ?_
  repeat (first | refine JL.q (by first | (apply OQ.lenS; exact Tryz.underlying9; exact rfl) | (apply OQ.move; exact rfl) | (apply OQ.assign; exact rfl) | (apply OQ.mulN; exact rfl; exact rfl; exact (by (try simp only []); omega)) | (apply OQ.quoN; exact rfl; exact rfl; exact (by (try simp only []); omega); exact (by (try simp only []); omega))) rfl ?_ | refine JC.seq ?_ | refine JC.region ?_ | refine JL.nil ?_ | refine JE.next ?_)
  refine JL.make0 (c := s.length / 4 * 3) Tryz.underlying22 u8e rfl rfl (by omega) rfl fun b _ => ?_
  refine JL.alloc (r := [.slice none 0 0]) (by kernel_rfl) rfl fun tb _ => ?_
  refine JL.store_eq (r' := [.slice (some ⟨b, 0, none⟩) 0 (s.length / 4 * 3)]) (M' := [⟨tb, Row 22 [.slice (some ⟨b, 0, none⟩) 0 (s.length / 4 * 3)], true⟩, ⟨b, Sl.Own 5 1 0 (s.length / 4 * 3) [], true⟩]) armU rfl rfl rfl rfl .here (by simp) rfl ?_
  repeat (first | refine JL.q (by (apply OQ.move; exact rfl)) rfl ?_ | refine JC.seq ?_ | refine JC.region ?_ | refine JL.nil ?_ | refine JE.next ?_)
  refine JL.s2b (s := strB s) Tryz.underlying9 Tryz.underlying22 Tryz.underlying5 rfl rfl fun bb capB => ?_
  rw [bytesOf_strB]
  refine JL.callg (vs := [Sl8.v ⟨some ⟨bb, 0, none⟩, capB, s⟩, N 4]) (ι := Nat × Nat) (fun q => .func (.func 114) #[] #[Pt q.1 0, Pt q.2 0]) (fun q => [⟨q.2, Row 3 [N 4], true⟩, ⟨q.1, Row 22 [Sl8.v ⟨some ⟨bb, 0, none⟩, capB, s⟩], true⟩]) goes_groups rfl rfl (by rintro q e he; simp at he; rcases he with rfl | rfl <;> rfl) (fun w' _ => groups_any _ 4 w') ?_
  rintro ⟨b1, b2⟩
  dsimp only
  have hok : ∀ {w0 w' : World} {S : List Nat} {M : List Ent}, Holds w0 S M w' → Has M bb (fun o => hasCells o 0 (s.map U8) ∧ s.length ≤ capB ∧ (none : Option Nat) = none) true → Sl8.ok w' ⟨some ⟨bb, 0, none⟩, capB, s⟩ := fun hw' hM => by
    obtain ⟨o, ho, h1, h2, _⟩ := hw'.get hM
    exact ⟨h2, Reads.block ho h1⟩
  have hlen : (⟨some ⟨bb, 0, none⟩, capB, s⟩ : Sl8).l = s := rfl
  have hpb : ∀ j a, ((⟨some ⟨bb, 0, none⟩, capB, s⟩ : Sl8).part 4 j).ad = some a → a.block = bb := fun j a ha => by
    have ha : (if capB = 4 * j then some (⟨bb, 0, none⟩ : Addr) else some ((⟨bb, 0, none⟩ : Addr).add (4 * j * 1))) = some a := ha
    split at ha
    · cases ha; rfl
    · rw [add_off] at ha; cases ha; rfl
  have hparts : parts ⟨some ⟨bb, 0, none⟩, capB, s⟩ 4 = (s.length + 4 - 1) / 4 := rfl
  have hfl := flat_len dec4 ⟨some ⟨bb, 0, none⟩, capB, s⟩ 4 3 (fun g hg => by rw [dec4_len]; have := lead_le g; omega)
  have hall : (List.range (parts ⟨some ⟨bb, 0, none⟩, capB, s⟩ 4)).flatMap (fun j => dec4 ((⟨some ⟨bb, 0, none⟩, capB, s⟩ : Sl8).part 4 j).l) = fl 4 dec4 s := rfl
  have hsn := snocF dec4 ⟨some ⟨bb, 0, none⟩, capB, s⟩ 4
  have h4 : ∀ j, ((⟨some ⟨bb, 0, none⟩, capB, s⟩ : Sl8).part 4 j).l.length ≤ 4 := fun j => by show (List.take _ _).length ≤ 4; rw [List.length_take]; omega
  have hpo := fun (w' : World) (h : Sl8.ok w' ⟨some ⟨bb, 0, none⟩, capB, s⟩) (j : Nat) => part_ok h 4 j
  have hgs := groups_stops ⟨some ⟨bb, 0, none⟩, capB, s⟩ 4 b1 b2 (by decide)
  have hents : (⟨some ⟨bb, 0, none⟩, capB, s⟩ : Sl8).ents = [⟨bb, fun o => hasCells o 0 (s.map U8) ∧ s.length ≤ capB ∧ (none : Option Nat) = none, true⟩] := rfl
  rw [hents]
  generalize hsrc : (⟨some ⟨bb, 0, none⟩, capB, s⟩ : Sl8) = src at hpb hok hfl hall hsn h4 hpo hgs hparts hlen ⊢
  repeat (first | refine JC.block ?_ | refine JL.nil ?_ | refine JE.next ?_)
  refine JC.range (ι := Nat × Nat × List Nat) (fun j => (src.part 4 j).v) [b1, b2] (fun xs => xs = List.range (parts src 4)) (fun _ => True) (parts src 4)
    (fun q => [⟨b2, Row 3 [N 4], false⟩, ⟨b1, Row 22 [src.v], false⟩, ⟨bb, fun o => hasCells o 0 (s.map U8) ∧ s.length ≤ capB ∧ (none : Option Nat) = none, true⟩, ⟨tb, Row 22 [.slice (some ⟨q.1, 0, none⟩) (q.2.2.flatMap fun j => dec4 (src.part 4 j).l).length q.2.1], true⟩, ⟨q.1, Sl.Own 5 1 (q.2.2.flatMap fun j => dec4 (src.part 4 j).l).length q.2.1 ((q.2.2.flatMap fun j => dec4 (src.part 4 j).l).map U8), true⟩])
    (fun pre q => q.2.2 = pre) rfl (enters_of Tryz.func114 (by kernel_rfl) rfl) ?hseq ?hcell ?hL (b, s.length / 4 * 3, []) rfl ?hM rfl rfl ?hbody ?hdone
  case hseq =>
    intro W hW
    obtain ⟨o1, h1, h1'⟩ := hW.get (b := b1) (A := Row 22 [src.v]) (wr := true) (by repeat (first | exact Has.here | apply Has.there))
    obtain ⟨o2, h2, h2'⟩ := hW.get (b := b2) (A := Row 3 [N 4]) (wr := true) (by repeat (first | exact Has.here | apply Has.there))
    exact hgs (hok hW (by repeat (first | exact Has.here | apply Has.there))).len (by rw [hlen]; omega) W h1 (Row.cell rfl _ h1') h2 (Row.cell rfl _ h2')
  case hcell =>
    rintro q e he o hA
    simp only [List.mem_cons, List.not_mem_nil, or_false] at he
    rcases he with rfl | rfl | rfl | rfl | rfl
    · exact row_cells o hA
    · exact row_cells o hA
    · obtain ⟨⟨_, _, _, rfl, _⟩, _⟩ := hA
      rfl
    · exact row_cells o hA
    · exact own_cells o hA
  case hL =>
    intro q k hk
    simp only [List.mem_cons, List.not_mem_nil, or_false] at hk
    rcases hk with rfl | rfl
    · exact .inr ⟨_, (by repeat (first | exact Has.here | apply Has.there))⟩
    · exact .inr ⟨_, (by repeat (first | exact Has.here | apply Has.there))⟩
  case hM =>
    intro w' hw'
    exact hw'.weak2 (.keep _ _ _ _ _ _ _ (fun _ h => h) (by simp) (.keep _ _ _ _ _ _ _ (fun _ h => h) (by simp) (Less2.refl _)))
  case hbody =>
    rintro l pre j ⟨b', cap', pre'⟩ w1 rfl hlt hx hge
    dsimp only at hlt hge ⊢
    have hb := hfl pre'
    have hsn' := hsn pre' j
    generalize pre'.flatMap (fun j => dec4 (src.part 4 j).l) = T at hb hsn' ⊢
    repeat (first | refine JL.q (by first | (apply OQ.load; exact armC; exact rfl; exact (by repeat (first | exact Has.here | apply Has.there)); exact (Row.cell rfl)) | (apply OQ.move; exact rfl)) rfl ?_ | refine JR.block ?_ | refine JR.region rfl (by first | with_reducible exact lo_roundQ | with_reducible exact lo_then lo_roundQ | with_reducible exact lo_blk lo_roundQ | with_reducible exact lo_then (lo_blk lo_roundQ) | with_reducible exact lo_roundX | with_reducible exact lo_then lo_roundX | with_reducible exact lo_blk lo_roundX | with_reducible exact lo_then (lo_blk lo_roundX) | with_reducible exact lo_then (lo_then (lo_blk lo_roundX))) ?_)
    refine JL.call (ι := Nat × Nat) (fun q => .slice (some ⟨q.1, 0, none⟩) (T.length + (dec4 (src.part 4 j).l).length) q.2) (fun q => [⟨b2, Row 3 [N 4], false⟩, ⟨b1, Row 22 [src.v], false⟩, ⟨bb, fun o => hasCells o 0 (s.map U8) ∧ s.length ≤ capB ∧ (none : Option Nat) = none, true⟩, ⟨tb, Row 22 [.slice (some ⟨b', 0, none⟩) T.length cap'], true⟩, ⟨q.1, Sl.Own 5 1 (T.length + (dec4 (src.part 4 j).l).length) q.2 ((T ++ dec4 (src.part 4 j).l).map U8), true⟩]) goes_addBytes rfl rfl ?_ ?_
    · intro w' hw'
      obtain ⟨o, ho, hA⟩ := hw'.get (b := b') (wr := true) (A := Sl.Own 5 1 T.length cap' (T.map U8)) (by repeat (first | exact Has.here | apply Has.there))
      refine (addBytes_any b' _ cap' _ (src.part 4 j) w' (hpo w' (hok hw' (by repeat (first | exact Has.here | apply Has.there))) j) (h4 j) ?_ ho hA (by omega)).mono ?_
      · intro hne a ha
        rw [hpb j a ha]
        have := hw'.nodup
        simp only [List.map_cons, List.map_nil, List.nodup_cons, List.mem_cons, List.not_mem_nil, or_false, not_or] at this
        exact this.2.2.1.2
      · rintro e w2 ⟨q, rfl, h2⟩
        exact ⟨q, rfl, hw'.relay (by repeat (first | exact Repl.here | apply Repl.there)) h2⟩
    rintro ⟨b'', cap''⟩
    dsimp only
    refine JL.store_eq (r' := [.slice (some ⟨b'', 0, none⟩) (T.length + (dec4 (src.part 4 j).l).length) cap'']) (M' := [⟨b2, Row 3 [N 4], false⟩, ⟨b1, Row 22 [src.v], false⟩, ⟨bb, fun o => hasCells o 0 (s.map U8) ∧ s.length ≤ capB ∧ (none : Option Nat) = none, true⟩, ⟨tb, Row 22 [.slice (some ⟨b'', 0, none⟩) (T.length + (dec4 (src.part 4 j).l).length) cap''], true⟩, ⟨b'', Sl.Own 5 1 (T.length + (dec4 (src.part 4 j).l).length) cap'' ((T ++ dec4 (src.part 4 j).l).map U8), true⟩]) armU rfl rfl rfl rfl (by repeat (first | exact Upd.here | apply Upd.there)) (by simp) rfl ?_
    repeat (first | refine JL.nil ?_ | with_reducible refine JE.blk_normal ?_)
    refine JE.round (b'', cap'', pre' ++ [j]) rfl ?_
    dsimp only
    rw [hsn', List.length_append]
    exact Less.refl _
  case hdone =>
    rintro D xs ⟨b', cap', pre⟩ rfl rfl
    dsimp only
    have hb := hfl (List.range (parts src 4))
    rw [List.length_range] at hb
    rw [hall] at hb ⊢
    have hyes := dec_yes (s := s)
    have hno := dec_no (s := s)
    generalize fl 4 dec4 s = Y at hb hyes hno ⊢
    have hY : Y.length ≤ 20000 := by rw [hparts] at hb; omega
    repeat (first | refine KL.q (by first | (apply OQ.load; exact armC; exact rfl; exact (by repeat (first | exact Has.here | apply Has.there)); exact (Row.cell rfl)) | (apply OQ.callx (vs := [Sl8.v ⟨some ⟨b', 0, none⟩, cap', Y⟩]); exact goes_aenc; exact rfl; exact (fun w' hw' => aenc_any ⟨some ⟨b', 0, none⟩, cap', Y⟩ w' (ownb_ok hw' (by repeat (first | exact Has.here | apply Has.there))) hY)) | (apply OQ.neS; exact rfl; exact rfl) | (apply OQ.move; exact rfl)) rfl ?_ | refine KC.seq ?_ | refine KC.region ?_ | refine KL.nil ?_ | refine KE.next ?_ | refine KE.blk_normal ?_)
    refine KC.cond rfl (fun h => ?_) (fun h => ?_)
    · have hne : ¬ encB Y = s := by simpa using h
      rw [hno hne]
      repeat (first | refine KL.q (by (apply OQ.assign; exact rfl)) rfl ?_ | refine KC.seq ?_ | refine KC.region ?_ | refine KL.nil ?_ | refine KE.next ?_)
      refine KC.ret ?_
      repeat (refine KE.then_ret ?_)
      exact KE.ret2 rfl rfl rfl fun w' hw => ⟨nilS, rfl, ⟨rfl, fun _ => rfl⟩, hw.weak (.nil _)⟩
    · have hne : encB Y = s := by simpa using h
      rw [hyes hne]
      repeat (first | refine KL.q (by first | (apply OQ.load; exact armC; exact rfl; exact (by repeat (first | exact Has.here | apply Has.there)); exact (Row.cell rfl)) | (apply OQ.assign; exact rfl)) rfl ?_ | refine KC.seq ?_ | refine KC.region ?_ | refine KC.skip ?_ | refine KL.nil ?_ | refine KE.next ?_)
      refine KC.ret ?_
      skip
      exact KE.ret2 rfl rfl rfl fun w' hw => ⟨⟨some ⟨b', 0, none⟩, cap', Y⟩, rfl, ⟨rfl, by simp⟩, hw.weak (.drop _ _ _ (.drop _ _ _ (.drop _ _ _ (.drop _ _ _ own_ents))))⟩
/-! ### blanks -/
theorem ablank_any (c : Bt) (w : World) : Calls Tryz.prog 104 [U8 c].toArray w fun e w' => e = .returned (.bool (Arm.blank c)) ∧ Ext w w' := by
  refine enter (n := 17) Tryz.func104 rfl rfl rfl (Holds.start w []) ?_
  by_cases h1 : c = 32
  · subst h1
    repeat (first | refine JL.q (by first | (apply OQ.eqi_t; exact rfl; exact rfl; exact rfl) | (apply OQ.pick_t; exact rfl; exact rfl) | (apply OQ.move; exact rfl) | (apply OQ.assign; exact rfl)) rfl ?_ | refine JC.seq ?_ | refine JC.region ?_ | refine JL.nil ?_ | refine JE.next ?_ | refine JL.gskip rfl rfl rfl rfl ?_)
    exact JC.ret (JE.ret1 rfl (RV.tmp rfl) fun w' hw => ⟨rfl, hw.chg⟩)
  by_cases h2 : c = 9
  · subst h2
    repeat (first | refine JL.q (by first | (apply OQ.eqi_f; exact rfl; exact rfl; exact (by decide)) | (apply OQ.eqi_t; exact rfl; exact rfl; exact rfl) | (apply OQ.pick_t; exact rfl; exact rfl) | (apply OQ.pick_f; exact rfl; exact rfl) | (apply OQ.move; exact rfl) | (apply OQ.assign; exact rfl)) rfl ?_ | refine JC.seq ?_ | refine JC.region ?_ | refine JL.nil ?_ | refine JE.next ?_ | refine JL.gon rfl rfl ?_ | refine JL.gskip rfl rfl rfl rfl ?_)
    exact JC.ret (JE.ret1 rfl (RV.tmp rfl) fun w' hw => ⟨rfl, hw.chg⟩)
  by_cases h3 : c = 13
  · subst h3
    repeat (first | refine JL.q (by first | (apply OQ.eqi_f; exact rfl; exact rfl; exact (by decide)) | (apply OQ.eqi_t; exact rfl; exact rfl; exact rfl) | (apply OQ.pick_t; exact rfl; exact rfl) | (apply OQ.pick_f; exact rfl; exact rfl) | (apply OQ.move; exact rfl) | (apply OQ.assign; exact rfl)) rfl ?_ | refine JC.seq ?_ | refine JC.region ?_ | refine JL.nil ?_ | refine JE.next ?_ | refine JL.gon rfl rfl ?_ | refine JL.gskip rfl rfl rfl rfl ?_)
    exact JC.ret (JE.ret1 rfl (RV.tmp rfl) fun w' hw => ⟨rfl, hw.chg⟩)
  by_cases h4 : c = 10
  · subst h4
    repeat (first | refine JL.q (by first | (apply OQ.eqi_f; exact rfl; exact rfl; exact (by decide)) | (apply OQ.eqi_t; exact rfl; exact rfl; exact rfl) | (apply OQ.pick_f; exact rfl; exact rfl) | (apply OQ.move; exact rfl) | (apply OQ.assign; exact rfl)) rfl ?_ | refine JC.seq ?_ | refine JC.region ?_ | refine JL.nil ?_ | refine JE.next ?_ | refine JL.gon rfl rfl ?_)
    exact JC.ret (JE.ret1 rfl (RV.tmp rfl) fun w' hw => ⟨rfl, hw.chg⟩)
  have e : Arm.blank c = false := by
    simp only [Arm.blank, Bool.or_eq_false_iff, beq_eq_false_iff_ne]
    exact ⟨⟨⟨h1, h2⟩, h3⟩, h4⟩
  rw [e]
  repeat (first | refine JL.q (by first | (apply OQ.eqi_f; exact rfl; exact rfl; exact (by_ne h1)) | (apply OQ.eqi_f; exact rfl; exact rfl; exact (by_ne h2)) | (apply OQ.eqi_f; exact rfl; exact rfl; exact (by_ne h3)) | (apply OQ.eqi_f; exact rfl; exact rfl; exact (by_ne h4)) | (apply OQ.pick_f; exact rfl; exact rfl) | (apply OQ.move; exact rfl) | (apply OQ.assign; exact rfl)) rfl ?_ | refine JC.seq ?_ | refine JC.region ?_ | refine JL.nil ?_ | refine JE.next ?_ | refine JL.gon rfl rfl ?_)
  exact JC.ret (JE.ret1 rfl (RV.tmp rfl) fun w' hw => ⟨rfl, hw.chg⟩)
theorem bare_le (l : List Arm.By) : (bare l).length ≤ l.length := List.length_filter_le ..
set_option maxHeartbeats 8000000 in
theorem aread_any (s : Sl8) (w : World) (hs : s.ok w) (hl : s.l.length ≤ 20000) : Calls Tryz.prog 69 [s.v].toArray w
    fun e w' => ∃ x : Sl8, e = .returned (.tuple #[x.v, N (ecode (decB (bare s.l)))]) ∧ Ans x ((decB (bare s.l)).getD []) ∧ Holds w [] x.ents w' := by
  refine enter (n := 29) Tryz.func69 rfl rfl rfl (Holds.start w []) ?_
  repeat (first | refine JL.q (by first | (apply OQ.move; exact rfl) | (apply OQ.assign; exact rfl) | (apply OQ.len; exact rfl; exact rfl)) rfl ?_ | refine JC.seq ?_ | refine JC.region ?_ | refine JL.nil ?_ | refine JE.next ?_)
  refine JL.make0 (c := s.l.length) Tryz.underlying22 u8e rfl rfl (by omega) rfl fun b _ => ?_
  repeat (first | refine JL.q (by first | (apply OQ.move; exact rfl) | (apply OQ.assign; exact rfl) | (apply OQ.len; exact rfl; exact rfl)) rfl ?_ | refine JC.seq ?_ | refine JC.region ?_ | refine JC.block ?_ | refine JL.nil ?_ | refine JE.next ?_)
  refine JC.loop (fun q : Nat × Nat × Nat => [(4, .slice (some ⟨q.2.1, 0, none⟩) (bare (s.l.take q.1)).length q.2.2), (10, s.v), (11, N s.l.length), (12, N q.1)])
    (fun q => [⟨q.2.1, Sl.Own 5 1 (bare (s.l.take q.1)).length q.2.2 ((bare (s.l.take q.1)).map U8), true⟩])
    (fun q => s.l.length - q.1) (fun q => q.1 ≤ s.l.length) (0, b, s.l.length) (Nat.zero_le _) (by repeat (first | exact SubE.nil | refine SubE.cons _ _ _ rfl ?_)) (.keep _ _ _ _ _ _ (fun o h => h) (.nil _)) ?_
  rintro ⟨i, b', cap'⟩ hi
  simp only at hi
  dsimp only
  repeat (first | refine JL.q (by (apply OQ.lssN; exact rfl; exact rfl)) rfl ?_ | refine JC.seq ?_ | refine JC.region ?_ | refine JL.nil ?_ | refine JE.next ?_)
  refine JC.cond rfl (fun h => ?_) (fun h => ?_)
  · have hi' : i < s.l.length := of_decide_eq_true h
    clear h hi
    obtain ⟨ba, ja, hae, hca⟩ := hs.reads.at (by simp; omega)
    have hc := hca i _ (map_at U8 0 hi')
    have hav : s.v = .slice (some ⟨ba, ja, none⟩) s.l.length s.cap := by rw [← hae]; rfl
    have hbt := bare_take s.l hi'
    have hTl : (bare (s.l.take i)).length ≤ 20000 := Nat.le_trans (bare_le _) (by rw [List.length_take]; omega)
    generalize bare (s.l.take i) = T at hbt hTl ⊢
    generalize s.l.getD i 0 = c at hc hbt
    rw [hav]
    repeat (first | refine JL.q (by first | (apply OQ.idxS1; exact Tryz.underlying22; exact u8s; exact rfl; exact rfl; exact hi') | (apply OQ.load_old; exact u8c; exact rfl; exact (block_lt_of_cell hc); exact (by simp); exact hc) | (apply OQ.callx (vs := [U8 c]); exact goes_ablank; exact rfl; exact (fun w' _ => ablank_any c w')) | (apply OQ.not; exact rfl) | (apply OQ.move; exact rfl) | (apply OQ.assign; exact rfl)) rfl ?_ | refine JC.seq ?_ | refine JC.region ?_ | refine JC.block ?_ | refine JC.skip ?_ | refine JL.nil ?_ | refine JE.next ?_)
    refine JC.cond rfl (fun h => ?_) (fun h => ?_)
    · have hb : ¬ Arm.blank c = true := by simpa using h
      clear h
      rw [if_neg hb] at hbt
      repeat (first | refine JL.q (by (apply OQ.move; exact rfl)) rfl ?_ | refine JC.region ?_)
      refine JL.push1 (xs := T.map U8) (v := U8 c) (fun b'' cap'' => [⟨b'', Sl.Own 5 1 (T.length + 1) cap'' (T.map U8 ++ [U8 c]), true⟩]) Tryz.underlying22 u8e rfl rfl rfl rfl (fun _ => rfl) (by intro _ _; repeat (first | exact Repl.here | apply Repl.there)) (by omega) (by omega) rfl rfl fun bl b'' cap'' => ?_
      rw [← hav]
      repeat (first | refine JL.q (by first | (apply OQ.move; exact rfl) | (apply OQ.assign; exact rfl) | (apply OQ.addN; exact rfl; exact rfl; exact (by (try simp only []); omega))) rfl ?_ | refine JC.region ?_ | refine JL.nil ?_ | refine JE.next ?_ | refine JE.blk_normal ?_)
      refine JE.again (i := (i, b', cap')) (i + 1, b'', cap'') hi' (by show s.l.length - (i + 1) < s.l.length - i; omega) ?_ ?_
      · dsimp only
        rw [hbt, List.length_append]
        exact (by repeat (first | exact SubE.nil | refine SubE.cons _ _ _ rfl ?_))
      · dsimp only
        rw [hbt, List.length_append, List.map_append]
        exact Less.refl _
    · have hb : Arm.blank c = true := by simpa using h
      clear h
      rw [if_pos hb, List.append_nil] at hbt
      rw [← hbt, ← hav]
      repeat (first | refine JL.q (by first | (apply OQ.move; exact rfl) | (apply OQ.addN; exact rfl; exact rfl; exact (by (try simp only []); omega))) rfl ?_ | refine JC.region ?_ | refine JC.skip ?_ | refine JL.nil ?_ | refine JE.next ?_ | refine JE.blk_normal ?_)
      exact JE.again (i := (i, b', cap')) (i + 1, b', cap') hi' (by show s.l.length - (i + 1) < s.l.length - i; omega) (by repeat (first | exact SubE.nil | refine SubE.cons _ _ _ rfl ?_)) (Less.refl _)
  · have hi' : ¬ i < s.l.length := of_decide_eq_false h
    obtain rfl : i = s.l.length := by omega
    clear h hi hi'
    rw [List.take_length]
    have hTl : (bare s.l).length ≤ 20000 := Nat.le_trans (bare_le _) hl
    generalize bare s.l = T at hTl ⊢
    repeat (first | refine JL.q (by first | (apply OQ.b2s (s := ⟨some ⟨b', 0, none⟩, cap', T⟩); exact Tryz.underlying22; exact Tryz.underlying5; exact Tryz.underlying9; exact rfl; exact (fun w' hw' => ownb_ok hw' .here)) | (apply OQ.move; exact rfl)) rfl ?_ | refine JC.seq ?_ | refine JC.region ?_ | refine JC.exit ?_ | refine JE.next ?_ | refine JE.then_exit ?_ | refine JE.blk_hit ?_)
    refine JL.callg (vs := [Z T]) (ι := { x : Sl8 // Ans x ((decB T).getD []) }) (fun x => .tuple #[x.1.v, N (ecode (decB T))]) (fun x => x.1.ents) goes_adec rfl rfl (fun x => x.1.ents_wr) (fun w' _ => (adec_any T w' hTl).mono fun e w2 ⟨x, h1, h2, h3⟩ => ⟨⟨x, h2⟩, h1, h3⟩) ?_
    rintro ⟨x, hx⟩
    dsimp only
    repeat (first | refine JL.q (by first | (apply OQ.extract; exact rfl; exact rfl) | (apply OQ.assign; exact rfl)) rfl ?_ | refine JL.nil ?_ | refine JE.next ?_)
    refine JC.ret ?_
    refine JE.ret2 rfl (RV.tmp rfl) (RV.tmp rfl) ?_
    exact fun w' hw => ⟨x, rfl, hx, hw.weak (less_pre _ _)⟩
end Go.Proofs.YtbbmhkdfdgnkpaaGreatDoor

/-
  Of no statement by itself: what the landed quoted's blank, beginsEnd, blanks, ending, ends, worth and escapedByte give.
  Conditions: each theorem's own.
-/
namespace Go.Proofs.YtbbmhkdfdgnkpaaGreatDoor
set_option maxRecDepth 10000
open Sl Fld Quo
theorem OQ.eq8Q {P : Program} {n : Nat} {E : Env} {C : World → Prop} {dst : Option Tmp} {t t' ty : TypeId} {pos : String} {aft : Array Edge} {g : Option (Nat × Bool)} {x y : Operand} {a b : BitVec 8} {c : Bool} (hx : ev E x = some (U8 a)) (hy : ev E y = some (U8 b)) (h : decide (a = b) = c) : OQ P n E C ⟨dst, .binOp .eql t x y t', ty, pos, aft, g⟩ (.bool c) := h ▸ OQ.eq8 hx hy
theorem OQ.callbH {P : Program} {n : Nat} {E : Env} {dst : Option Tmp} {ty : TypeId} {pos : String} {aft : Array Edge} {g : Option (Nat × Bool)} {w0 : World} {S : List Nat} {M : List Ent} {f : FuncId} {xs : List Operand} {ats : Array TypeId} {vs : List Value} {b c : Bool} (hg : Goes P f) (hx : evs E xs = some vs) (hc : ∀ w, Holds w0 S M w → Calls P f vs.toArray w fun e w' => e = .returned (.bool b) ∧ Ext w w') (h : b = c) :
    OQ P n E (Holds w0 S M) ⟨dst, .call ⟨.value (.func f), xs.toArray, ats⟩, ty, pos, aft, g⟩ (.bool c) := h ▸ OQ.callx hg hx hc
theorem OQ.sub8Q {P : Program} {n : Nat} {E : Env} {C : World → Prop} {dst : Option Tmp} {t t' ty : TypeId} {pos : String} {aft : Array Edge} {g : Option (Nat × Bool)} {x y : Operand} {a b : BitVec 8} (hx : ev E x = some (U8 a)) (hy : ev E y = some (U8 b)) (h : b.toNat ≤ a.toNat) : OQ P n E C ⟨dst, .binOp .sub t x y t', ty, pos, aft, g⟩ (U8 (a - b)) :=
  OQ.bin hx hy rfl fun _ => okInt (k := .u8) (show IntKind.u8.wrap ((a.toNat : Int) - b.toNat) = ((a - b).toNat : Int) by
    rw [BitVec.toNat_sub_of_le (by simpa [BitVec.le_def] using h), ← Int.ofNat_sub h, wrap8, Nat.mod_eq_of_lt (by have := a.isLt; omega)])
theorem or_hex : ∀ a b : Fin 16, IntKind.i64.wrap ((BitVec.ofInt 64 ((16 * a.val : Nat) : Int) ||| BitVec.ofInt 64 ((b.val : Nat) : Int)).toNat : Int) = ((16 * a.val + b.val : Nat) : Int) := by decide +kernel
theorem OQ.orHex {P : Program} {n : Nat} {E : Env} {C : World → Prop} {dst : Option Tmp} {t t' ty : TypeId} {pos : String} {aft : Array Edge} {g : Option (Nat × Bool)} {x y : Operand} {a b : Nat} (hx : ev E x = some (N (16 * a))) (hy : ev E y = some (N b)) (ha : a < 16) (hb : b < 16) : OQ P n E C ⟨dst, .binOp .or t x y t', ty, pos, aft, g⟩ (N (16 * a + b)) :=
  OQ.bin hx hy rfl fun _ => okInt (k := .i64) (or_hex ⟨a, ha⟩ ⟨b, hb⟩)
theorem OQ.shlHex {P : Program} {n : Nat} {E : Env} {C : World → Prop} {dst : Option Tmp} {t t' ty : TypeId} {pos : String} {aft : Array Edge} {g : Option (Nat × Bool)} {x y : Operand} {a : Nat} (hx : ev E x = some (N a)) (hy : ev E y = some (.int .u64 4)) (ha : a < 16) : OQ P n E C ⟨dst, .binOp .shl t x y t', ty, pos, aft, g⟩ (N (16 * a)) :=
  OQ.to (OQ.shlI (a := (a : Int)) (m := 16) (yk := .u64) (k := 4) rfl (by decide) hx hy (by omega) (by omega)) (congrArg (Value.int .i64) (by omega))
theorem mixQu : Tryz.prog.follows .mixedOrders = true := by kernel_rfl
theorem goes_qblank : Goes Tryz.prog 116 := ⟨_, Tryz.func116, rfl, by kernel_rfl⟩
theorem goes_qbegins : Goes Tryz.prog 83 := ⟨_, Tryz.func83, rfl, by kernel_rfl⟩
theorem goes_qblanks : Goes Tryz.prog 106 := ⟨_, Tryz.func106, rfl, by kernel_rfl⟩
theorem goes_qending : Goes Tryz.prog 108 := ⟨_, Tryz.func108, rfl, by kernel_rfl⟩
theorem goes_qends : Goes Tryz.prog 107 := ⟨_, Tryz.func107, rfl, by kernel_rfl⟩
theorem goes_qworth : Goes Tryz.prog 142 := ⟨_, Tryz.func142, rfl, by kernel_rfl⟩
theorem goes_qesc : Goes Tryz.prog 109 := ⟨_, Tryz.func109, rfl, by kernel_rfl⟩
set_option maxHeartbeats 4000000 in
theorem qblank_any (c : Bt) (w : World) : Calls Tryz.prog 116 [U8 c].toArray w fun e w' => e = .returned (.bool (bl c)) ∧ Ext w w' := by
  refine enter (n := 9) Tryz.func116 rfl rfl rfl (Holds.start w []) ?_
  rw [show bl c = (decide (c = 32) || decide (c = 9)) from rfl]
  cases h1 : decide (c = 32) <;> cases h2 : decide (c = 9)
  all_goals (repeat (first | refine JL.q (by first | (apply OQ.eq8Q (b := 32); exact rfl; exact rfl; exact h1) | (apply OQ.eq8Q (b := 9); exact rfl; exact rfl; exact h2) | (apply OQ.pick_t; exact rfl; exact rfl) | (apply OQ.pick_f; exact rfl; exact rfl) | (apply OQ.move; exact rfl) | (apply OQ.assign; exact rfl)) rfl ?_ | refine JC.seq ?_ | refine JC.region ?_ | refine JL.nil ?_ | refine JE.next ?_ | refine JL.gon rfl rfl ?_ | refine JL.gskip rfl rfl rfl rfl ?_))
  all_goals exact JC.ret (JE.ret1 rfl (RV.tmp rfl) fun w' hw => ⟨rfl, hw.chg⟩)
def crlf (l : List Bt) : Bool := (decide ((2 : Int) ≤ (l.length : Int)) && decide (l.getD 0 0 = 13)) && decide (l.getD 1 0 = 10)
set_option maxHeartbeats 8000000 in
theorem begins_any (s : Sl8) (w : World) (hs : s.ok w) : Calls Tryz.prog 83 [s.v].toArray w fun e w' => e = .returned (.bool (crlf s.l)) ∧ Ext w w' := by
  refine enter (n := 18) Tryz.func83 rfl rfl rfl (Holds.start w []) ?_
  unfold crlf
  cases h2 : decide ((2 : Int) ≤ (s.l.length : Int))
  · repeat (first | refine JL.q (by first | (apply OQ.geqB (b := 2); exact rfl; exact rfl; exact h2) | (apply OQ.pick_f; exact rfl; exact rfl) | (apply OQ.move; exact rfl) | (apply OQ.assign; exact rfl) | (apply OQ.len; exact rfl; exact rfl)) rfl ?_ | refine JC.seq ?_ | refine JC.region ?_ | refine JL.nil ?_ | refine JE.next ?_ | refine JL.gskip rfl rfl rfl rfl ?_)
    exact JC.ret (JE.ret1 rfl (RV.tmp rfl) fun w' hw => ⟨rfl, hw.chg⟩)
  · have h2' : 2 ≤ s.l.length := by have := of_decide_eq_true h2; omega
    obtain ⟨ba, ja, hae, hca⟩ := hs.reads.at (by simp; omega)
    have i0 : 0 < s.l.length := by omega
    have i1 : 1 < s.l.length := by omega
    have hc0 := hca 0 _ (map_at U8 0 i0)
    have hc1 := hca 1 _ (map_at U8 0 i1)
    have hav : s.v = .slice (some ⟨ba, ja, none⟩) s.l.length s.cap := by rw [← hae]; rfl
    generalize s.l.getD 0 0 = c at hc0 ⊢
    generalize s.l.getD 1 0 = d at hc1 ⊢
    cases h13 : decide (c = 13) <;> cases h10 : decide (d = 10)
    all_goals (repeat (first | refine JL.q (by first | (apply OQ.geqB (b := 2); exact rfl; exact rfl; exact h2) | (apply OQ.idxS1 (i := 0); exact Tryz.underlying22; exact u8s; exact (congrArg some hav); exact rfl; exact i0) | (apply OQ.idxS1 (i := 1); exact Tryz.underlying22; exact u8s; exact (congrArg some hav); exact rfl; exact i1) | (apply OQ.load_old; exact u8c; exact rfl; exact (block_lt_of_cell hc0); exact (by simp); exact hc0) | (apply OQ.load_old; exact u8c; exact rfl; exact (block_lt_of_cell hc1); exact (by simp); exact hc1) | (apply OQ.eq8Q (b := 13); exact rfl; exact rfl; exact h13) | (apply OQ.eq8Q (b := 10); exact rfl; exact rfl; exact h10) | (apply OQ.pick_t; exact rfl; exact rfl) | (apply OQ.pick_f; exact rfl; exact rfl) | (apply OQ.move; exact rfl) | (apply OQ.assign; exact rfl) | (apply OQ.len; exact rfl; exact rfl)) rfl ?_ | refine JC.seq ?_ | refine JC.region ?_ | refine JL.nil ?_ | refine JE.next ?_ | refine JL.gon rfl rfl ?_ | refine JL.gskip rfl rfl rfl rfl ?_))
    all_goals exact JC.ret (JE.ret1 rfl (RV.tmp rfl) fun w' hw => ⟨rfl, hw.chg⟩)
/-! ### blanks -/
theorem bkn_next : ∀ (l : List Fld.By) (i : Nat), i ≤ bkn l → i < l.length → bl (l.getD i 0) = true → i + 1 ≤ bkn l
  | [], i, _, h, _ => by cases h
  | c :: l, i, hi, hl, hb => by
    rw [bkn_cons] at hi ⊢
    cases hc : bl c
    · rw [hc, if_neg (by decide)] at hi
      obtain rfl : i = 0 := by omega
      rw [List.getD_cons_zero, hc] at hb
      cases hb
    · rw [hc, if_pos rfl] at hi
      rw [if_pos rfl]
      cases i with
      | zero => omega
      | succ i =>
        have := bkn_next l i (by omega) (by simpa using hl) (by simpa using hb)
        omega
theorem bkn_stop : ∀ (l : List Fld.By) (i : Nat), i ≤ bkn l → i < l.length → bl (l.getD i 0) = false → bkn l = i
  | [], i, _, h, _ => by cases h
  | c :: l, i, hi, hl, hb => by
    rw [bkn_cons] at hi ⊢
    cases hc : bl c
    · rw [hc, if_neg (by decide)] at hi
      rw [if_neg (by decide)]
      omega
    · rw [hc, if_pos rfl] at hi
      rw [if_pos rfl]
      cases i with
      | zero => rw [List.getD_cons_zero, hc] at hb; cases hb
      | succ i =>
        have := bkn_stop l i (by omega) (by simpa using hl) (by simpa using hb)
        omega
set_option maxHeartbeats 8000000 in
theorem blanks_any (s : Sl8) (w : World) (hs : s.ok w) (hl : s.l.length < 9223372036854775807) : Calls Tryz.prog 106 [s.v].toArray w fun e w' => e = .returned (N (bkn s.l)) ∧ Ext w w' := by
  refine enter (n := 19) Tryz.func106 rfl rfl rfl (Holds.start w []) ?_
  repeat (first | refine JL.q (by first | (apply OQ.move; exact rfl) | (apply OQ.assign; exact rfl) | (apply OQ.len; exact rfl; exact rfl)) rfl ?_ | refine JC.seq ?_ | refine JC.region ?_ | refine JC.block ?_ | refine JL.nil ?_ | refine JE.next ?_)
  refine JC.loop (fun i : Nat => [(0, s.v), (5, s.v), (6, N s.l.length), (7, N i)]) (fun _ => []) (fun i => s.l.length - i) (fun i => i ≤ bkn s.l) 0 (Nat.zero_le _) (by repeat (first | exact SubE.nil | refine SubE.cons _ _ _ rfl ?_)) (Less.refl _) ?_
  intro i hi
  have hle := bkn_le s.l
  repeat (first | refine JL.q (by (apply OQ.lssN; exact rfl; exact rfl)) rfl ?_ | refine JC.seq ?_ | refine JC.region ?_ | refine JL.nil ?_ | refine JE.next ?_)
  refine JC.cond rfl (fun h => ?_) (fun h => ?_)
  · have hi' : i < s.l.length := of_decide_eq_true h
    clear h
    obtain ⟨ba, ja, hae, hca⟩ := hs.reads.at (by simp; omega)
    have hc := hca i _ (map_at U8 0 hi')
    have hav : s.v = .slice (some ⟨ba, ja, none⟩) s.l.length s.cap := by rw [← hae]; rfl
    have e1 := bkn_next s.l i hi hi'
    have e2 := bkn_stop s.l i hi hi'
    generalize s.l.getD i 0 = c at hc e1 e2
    cases hb : bl c
    · rw [e2 hb]
      repeat (first | refine JL.q (by first | (apply OQ.idxS1; exact Tryz.underlying22; exact u8s; exact (congrArg some hav); exact rfl; exact hi') | (apply OQ.load_old; exact u8c; exact rfl; exact (block_lt_of_cell hc); exact (by simp); exact hc) | (apply OQ.callb (vs := [U8 c]); exact goes_qblank; exact rfl; exact (fun w' => qblank_any c w'); exact hb) | (apply OQ.not; exact rfl) | (apply OQ.move; exact rfl) | (apply OQ.assign; exact rfl)) rfl ?_ | refine JC.seq ?_ | refine JC.region ?_ | refine JC.block ?_ | refine JC.skip ?_ | refine JL.nil ?_ | refine JE.next ?_)
      refine JC.cond rfl (fun _ => ?_) (fun h => by cases h)
      repeat (first | refine JL.q (by first | (apply OQ.move; exact rfl) | (apply OQ.assign; exact rfl)) rfl ?_ | refine JC.seq ?_ | refine JC.region ?_ | refine JL.nil ?_ | refine JE.next ?_)
      refine JC.ret ?_
      repeat (first | refine JE.then_ret ?_ | refine JE.blk_ret ?_)
      exact JE.ret1 rfl (RV.tmp rfl) fun w' hw => ⟨rfl, hw.chg⟩
    · repeat (first | refine JL.q (by first | (apply OQ.idxS1; exact Tryz.underlying22; exact u8s; exact (congrArg some hav); exact rfl; exact hi') | (apply OQ.load_old; exact u8c; exact rfl; exact (block_lt_of_cell hc); exact (by simp); exact hc) | (apply OQ.callb (vs := [U8 c]); exact goes_qblank; exact rfl; exact (fun w' => qblank_any c w'); exact hb) | (apply OQ.not; exact rfl) | (apply OQ.move; exact rfl) | (apply OQ.assign; exact rfl)) rfl ?_ | refine JC.seq ?_ | refine JC.region ?_ | refine JC.block ?_ | refine JC.skip ?_ | refine JL.nil ?_ | refine JE.next ?_)
      refine JC.cond rfl (fun h => by cases h) (fun _ => ?_)
      repeat (first | refine JL.q (by first | (apply OQ.move; exact rfl) | (apply OQ.addN; exact rfl; exact rfl; exact (by (try simp only []); omega))) rfl ?_ | refine JC.region ?_ | refine JC.skip ?_ | refine JL.nil ?_ | refine JE.next ?_ | refine JE.blk_normal ?_)
      exact JE.again (i := i) (i + 1) (e1 hb) (by omega) (by repeat (first | exact SubE.nil | refine SubE.cons _ _ _ rfl ?_)) (Less.refl _)
  · have hi' : ¬ i < s.l.length := of_decide_eq_false h
    obtain rfl : i = s.l.length := by omega
    have e : bkn s.l = s.l.length := by omega
    rw [e]
    clear h
    repeat (first | refine JL.q (by first | (apply OQ.move; exact rfl) | (apply OQ.assign; exact rfl) | (apply OQ.len; exact rfl; exact rfl)) rfl ?_ | refine JC.seq ?_ | refine JC.region ?_ | refine JC.exit ?_ | refine JL.nil ?_ | refine JE.next ?_ | refine JE.then_exit ?_ | refine JE.blk_hit ?_)
    refine JC.ret ?_
    exact JE.ret1 rfl (RV.tmp rfl) fun w' hw => ⟨rfl, hw.chg⟩
/-! ### ends -/
theorem enq_crlf (l : List Fld.By) : enq l = if crlf l then 2 else if l.length = 0 then 0 else if l.getD 0 0 = 10 then 1 else 0 := by
  match l with
  | [] => rfl
  | [c] =>
    have h : crlf [c] = false := rfl
    have h2 : ¬ (c = 13 ∧ ([] : List Fld.By).head? = some 10) := fun e => by cases e.2
    rw [enq_cons, h, if_neg h2, if_neg (Bool.false_ne_true), if_neg (show ¬ [c].length = 0 from Nat.one_ne_zero), List.getD_cons_zero]
  | c :: d :: r =>
    rw [enq_cons]
    have h2 : decide ((2 : Int) ≤ (((c :: d :: r).length : Nat) : Int)) = true := decide_eq_true (by simp only [List.length_cons]; omega)
    unfold crlf
    rw [h2, if_neg (by simp : ¬ (c :: d :: r).length = 0)]
    simp only [List.getD_cons_zero, List.getD_cons_succ, List.head?_cons, Option.some.injEq, Bool.true_and, Bool.and_eq_true, decide_eq_true_eq]
    by_cases h10 : c = 10
    · have h13 : ¬ (c = 13 ∧ d = 10) := fun e => by rw [h10] at e; exact absurd e.1 (by decide)
      rw [if_pos h10, if_neg h13, if_pos h10]
    · rw [if_neg h10, if_neg h10]
set_option maxHeartbeats 8000000 in
theorem ending_any (s : Sl8) (w : World) (hs : s.ok w) : Calls Tryz.prog 108 [s.v].toArray w fun e w' => e = .returned (N (enq s.l)) ∧ Ext w w' := by
  refine enter (n := 16) Tryz.func108 rfl rfl rfl (Holds.start w []) ?_
  rw [enq_crlf s.l]
  have cB := fun w' (hw' : Holds w [] [] w') => begins_any s w' (hs.holds hw' rfl)
  cases hb : crlf s.l
  · rw [if_neg (by decide)]
    cases h0 : decide ((0 : Int) < (s.l.length : Int))
    · have h0' : s.l.length = 0 := by have := of_decide_eq_false h0; omega
      rw [if_pos h0']
      repeat (first | refine JL.q (by first | (apply OQ.callbH (vs := [s.v]); exact goes_qbegins; exact rfl; exact cB; exact hb) | (apply OQ.move; exact rfl) | (apply OQ.assign; exact rfl)) rfl ?_ | refine JC.seq ?_ | refine JC.region ?_ | refine JC.block ?_ | refine JL.nil ?_ | refine JE.next ?_)
      refine JC.cond_false rfl rfl ?_
      repeat (first | refine JL.q (by first | (apply OQ.gtrB (b := 0); exact rfl; exact rfl; exact h0) | (apply OQ.pick_f; exact rfl; exact rfl) | (apply OQ.move; exact rfl) | (apply OQ.assign; exact rfl) | (apply OQ.len; exact rfl; exact rfl)) rfl ?_ | refine JC.seq ?_ | refine JC.region ?_ | refine JL.nil ?_ | refine JE.next ?_ | refine JL.gskip rfl rfl rfl rfl ?_)
      refine JC.cond_false rfl rfl ?_
      repeat (first | refine JL.q (by (apply OQ.assign; exact rfl)) rfl ?_ | refine JC.seq ?_ | refine JC.region ?_ | refine JC.skip ?_ | refine JL.nil ?_ | refine JE.next ?_ | refine JE.blk_normal ?_)
      refine JC.ret ?_
      exact JE.ret1 rfl (RV.tmp rfl) fun w' hw => ⟨rfl, hw.chg⟩
    · have i0 : 0 < s.l.length := by have := of_decide_eq_true h0; omega
      rw [if_neg (by omega)]
      obtain ⟨ba, ja, hae, hca⟩ := hs.reads.at (by simp; omega)
      have hc0 := hca 0 _ (map_at U8 0 i0)
      have hav : s.v = .slice (some ⟨ba, ja, none⟩) s.l.length s.cap := by rw [← hae]; rfl
      generalize s.l.getD 0 0 = c at hc0 ⊢
      cases h10 : decide (c = 10)
      · rw [if_neg (of_decide_eq_false h10)]
        repeat (first | refine JL.q (by first | (apply OQ.callbH (vs := [s.v]); exact goes_qbegins; exact rfl; exact cB; exact hb) | (apply OQ.move; exact rfl) | (apply OQ.assign; exact rfl)) rfl ?_ | refine JC.seq ?_ | refine JC.region ?_ | refine JC.block ?_ | refine JL.nil ?_ | refine JE.next ?_)
        refine JC.cond_false rfl rfl ?_
        repeat (first | refine JL.q (by first | (apply OQ.gtrB (b := 0); exact rfl; exact rfl; exact h0) | (apply OQ.idxS1 (i := 0); exact Tryz.underlying22; exact u8s; exact (congrArg some hav); exact rfl; exact i0) | (apply OQ.load_old; exact u8c; exact rfl; exact (block_lt_of_cell hc0); exact (by simp); exact hc0) | (apply OQ.eq8Q (b := 10); exact rfl; exact rfl; exact h10) | (apply OQ.pick_t; exact rfl; exact rfl) | (apply OQ.move; exact rfl) | (apply OQ.assign; exact rfl) | (apply OQ.len; exact rfl; exact rfl)) rfl ?_ | refine JC.seq ?_ | refine JC.region ?_ | refine JL.nil ?_ | refine JE.next ?_ | refine JL.gon rfl rfl ?_)
        refine JC.cond_false rfl rfl ?_
        repeat (first | refine JL.q (by (apply OQ.assign; exact rfl)) rfl ?_ | refine JC.seq ?_ | refine JC.region ?_ | refine JC.skip ?_ | refine JL.nil ?_ | refine JE.next ?_ | refine JE.blk_normal ?_)
        refine JC.ret ?_
        exact JE.ret1 rfl (RV.tmp rfl) fun w' hw => ⟨rfl, hw.chg⟩
      · rw [if_pos (of_decide_eq_true h10)]
        repeat (first | refine JL.q (by first | (apply OQ.callbH (vs := [s.v]); exact goes_qbegins; exact rfl; exact cB; exact hb) | (apply OQ.move; exact rfl) | (apply OQ.assign; exact rfl)) rfl ?_ | refine JC.seq ?_ | refine JC.region ?_ | refine JC.block ?_ | refine JL.nil ?_ | refine JE.next ?_)
        refine JC.cond_false rfl rfl ?_
        repeat (first | refine JL.q (by first | (apply OQ.gtrB (b := 0); exact rfl; exact rfl; exact h0) | (apply OQ.idxS1 (i := 0); exact Tryz.underlying22; exact u8s; exact (congrArg some hav); exact rfl; exact i0) | (apply OQ.load_old; exact u8c; exact rfl; exact (block_lt_of_cell hc0); exact (by simp); exact hc0) | (apply OQ.eq8Q (b := 10); exact rfl; exact rfl; exact h10) | (apply OQ.pick_t; exact rfl; exact rfl) | (apply OQ.move; exact rfl) | (apply OQ.assign; exact rfl) | (apply OQ.len; exact rfl; exact rfl)) rfl ?_ | refine JC.seq ?_ | refine JC.region ?_ | refine JL.nil ?_ | refine JE.next ?_ | refine JL.gon rfl rfl ?_)
        refine JC.cond_true rfl rfl ?_
        repeat (first | refine JL.q (by (apply OQ.assign; exact rfl)) rfl ?_ | refine JC.seq ?_ | refine JC.region ?_ | refine JL.nil ?_ | refine JE.next ?_)
        refine JC.ret ?_
        repeat (first | refine JE.then_ret ?_ | refine JE.blk_ret ?_)
        exact JE.ret1 rfl (RV.tmp rfl) fun w' hw => ⟨rfl, hw.chg⟩
  · rw [if_pos rfl]
    repeat (first | refine JL.q (by first | (apply OQ.callbH (vs := [s.v]); exact goes_qbegins; exact rfl; exact cB; exact hb) | (apply OQ.move; exact rfl) | (apply OQ.assign; exact rfl)) rfl ?_ | refine JC.seq ?_ | refine JC.region ?_ | refine JC.block ?_ | refine JL.nil ?_ | refine JE.next ?_)
    refine JC.cond_true rfl rfl ?_
    repeat (first | refine JL.q (by (apply OQ.assign; exact rfl)) rfl ?_ | refine JC.seq ?_ | refine JC.region ?_ | refine JL.nil ?_ | refine JE.next ?_)
    refine JC.ret ?_
    repeat (first | refine JE.then_ret ?_ | refine JE.blk_ret ?_)
    exact JE.ret1 rfl (RV.tmp rfl) fun w' hw => ⟨rfl, hw.chg⟩
theorem endsq_is (l : List Fld.By) : endsq l = (decide ((l.length : Int) = 0) || decide ((0 : Int) < (enq l : Int))) := by
  unfold endsq
  congr 1
  · exact decide_eq_decide.2 ⟨fun h => by rw [h]; rfl, fun h => List.eq_nil_of_length_eq_zero (by omega)⟩
  · exact decide_eq_decide.2 (by omega)
set_option maxHeartbeats 8000000 in
theorem ends_any (s : Sl8) (w : World) (hs : s.ok w) : Calls Tryz.prog 107 [s.v].toArray w fun e w' => e = .returned (.bool (endsq s.l)) ∧ Ext w w' := by
  refine enter (n := 11) Tryz.func107 rfl rfl rfl (Holds.start w []) ?_
  rw [endsq_is s.l]
  have cE := fun w' (hw' : Holds w [] [] w') => ending_any s w' (hs.holds hw' rfl)
  cases h0 : decide ((s.l.length : Int) = 0) <;> cases h1 : decide ((0 : Int) < (enq s.l : Int))
  all_goals (repeat (first | refine JL.q (by first | (apply OQ.eqB (b := 0); exact rfl; exact rfl; exact h0) | (apply OQ.callx (vs := [s.v]); exact goes_qending; exact rfl; exact cE) | (apply OQ.gtrB (b := 0); exact rfl; exact rfl; exact h1) | (apply OQ.pick_t; exact rfl; exact rfl) | (apply OQ.pick_f; exact rfl; exact rfl) | (apply OQ.move; exact rfl) | (apply OQ.assign; exact rfl) | (apply OQ.len; exact rfl; exact rfl)) rfl ?_ | refine JC.seq ?_ | refine JC.region ?_ | refine JL.nil ?_ | refine JE.next ?_ | refine JL.gon rfl rfl ?_ | refine JL.gskip rfl rfl rfl rfl ?_))
  all_goals exact JC.ret (JE.ret1 rfl (RV.tmp rfl) fun w' hw => ⟨rfl, hw.chg⟩)
/-! ### digits -/
theorem hexV1 (c : Fld.By) (h : 48 ≤ c.toNat) (h' : c.toNat ≤ 57) : hexV c = (((c - 48).toNat : Nat) : Int) := by
  unfold hexV
  rw [if_pos ⟨h, h'⟩, BitVec.toNat_sub_of_le (by simpa [BitVec.le_def] using h)]
  exact (Int.ofNat_sub h).symm
theorem hexV2 (c : Fld.By) (h : 65 ≤ c.toNat) (h' : c.toNat ≤ 70) : hexV c = (((c - 65).toNat + 10 : Nat) : Int) := by
  unfold hexV
  rw [if_neg (by omega), if_pos ⟨h, h'⟩, BitVec.toNat_sub_of_le (by simpa [BitVec.le_def] using h), show (65 : Fld.By).toNat = 65 from rfl]
  omega
theorem hexV3 (c : Fld.By) (h : 97 ≤ c.toNat) (h' : c.toNat ≤ 102) : hexV c = (((c - 97).toNat + 10 : Nat) : Int) := by
  unfold hexV
  rw [if_neg (by omega), if_neg (by omega), if_pos ⟨h, h'⟩, BitVec.toNat_sub_of_le (by simpa [BitVec.le_def] using h), show (97 : Fld.By).toNat = 97 from rfl]
  omega
theorem hexV4 (c : Fld.By) (h1 : ¬ (48 ≤ c.toNat ∧ c.toNat ≤ 57)) (h2 : ¬ (65 ≤ c.toNat ∧ c.toNat ≤ 70)) (h3 : ¬ (97 ≤ c.toNat ∧ c.toNat ≤ 102)) : hexV c = -1 := by
  unfold hexV
  rw [if_neg h1, if_neg h2, if_neg h3]
theorem hexV_bd (c : Fld.By) : -1 ≤ hexV c ∧ hexV c < 16 := by
  unfold hexV
  split
  · omega
  · split
    · omega
    · split <;> omega
set_option maxHeartbeats 16000000 in
theorem worth_any (c : Bt) (w : World) : Calls Tryz.prog 142 [U8 c].toArray w fun e w' => e = .returned (.int .i64 (hexV c)) ∧ Ext w w' := by
  refine enter (n := 35) Tryz.func142 rfl rfl rfl (Holds.start w []) ?_
  have hc := c.isLt
  rcases (by omega : (c.toNat < 48) ∨ (48 ≤ c.toNat ∧ c.toNat ≤ 57) ∨ (58 ≤ c.toNat ∧ c.toNat ≤ 64) ∨ (65 ≤ c.toNat ∧ c.toNat ≤ 70) ∨ (71 ≤ c.toNat ∧ c.toNat ≤ 96) ∨ (97 ≤ c.toNat ∧ c.toNat ≤ 102) ∨ (103 ≤ c.toNat)) with h | h | h | h | h | h | h
  · rw [hexV4 c (by omega) (by omega) (by omega)]
    have ha0 : decide ((48 : Int) ≤ (c.toNat : Int)) = false := decide_eq_false (by omega)
    have hb0 : decide ((c.toNat : Int) ≤ 57) = true := decide_eq_true (by omega)
    have ha1 : decide ((65 : Int) ≤ (c.toNat : Int)) = false := decide_eq_false (by omega)
    have hb1 : decide ((c.toNat : Int) ≤ 70) = true := decide_eq_true (by omega)
    have ha2 : decide ((97 : Int) ≤ (c.toNat : Int)) = false := decide_eq_false (by omega)
    have hb2 : decide ((c.toNat : Int) ≤ 102) = true := decide_eq_true (by omega)
    repeat (first | refine JL.q (by first | (apply OQ.geqB (b := 48); exact rfl; exact rfl; exact ha0) | (apply OQ.pick_f; exact rfl; exact rfl) | (apply OQ.move; exact rfl) | (apply OQ.assign; exact rfl)) rfl ?_ | refine JC.seq ?_ | refine JC.region ?_ | refine JC.block ?_ | refine JL.nil ?_ | refine JE.next ?_ | refine JL.gskip rfl rfl rfl rfl ?_)
    refine JC.cond_false rfl rfl ?_
    repeat (first | refine JL.q (by first | (apply OQ.geqB (b := 65); exact rfl; exact rfl; exact ha1) | (apply OQ.pick_f; exact rfl; exact rfl) | (apply OQ.move; exact rfl) | (apply OQ.assign; exact rfl)) rfl ?_ | refine JC.seq ?_ | refine JC.region ?_ | refine JL.nil ?_ | refine JE.next ?_ | refine JL.gskip rfl rfl rfl rfl ?_)
    refine JC.cond_false rfl rfl ?_
    repeat (first | refine JL.q (by first | (apply OQ.geqB (b := 97); exact rfl; exact rfl; exact ha2) | (apply OQ.pick_f; exact rfl; exact rfl) | (apply OQ.move; exact rfl) | (apply OQ.assign; exact rfl)) rfl ?_ | refine JC.seq ?_ | refine JC.region ?_ | refine JL.nil ?_ | refine JE.next ?_ | refine JL.gskip rfl rfl rfl rfl ?_)
    refine JC.cond_false rfl rfl ?_
    repeat (first | refine JL.q (by (apply OQ.assign; exact rfl)) rfl ?_ | refine JC.seq ?_ | refine JC.region ?_ | refine JC.skip ?_ | refine JL.nil ?_ | refine JE.next ?_ | refine JE.blk_normal ?_)
    refine JC.ret ?_
    exact JE.ret1 rfl (RV.tmp rfl) fun w' hw => ⟨rfl, hw.chg⟩
  · rw [hexV1 c h.1 h.2]
    have ha0 : decide ((48 : Int) ≤ (c.toNat : Int)) = true := decide_eq_true (by omega)
    have hb0 : decide ((c.toNat : Int) ≤ 57) = true := decide_eq_true (by omega)
    repeat (first | refine JL.q (by first | (apply OQ.geqB (b := 48); exact rfl; exact rfl; exact ha0) | (apply OQ.leqB (b := 57); exact rfl; exact rfl; exact hb0) | (apply OQ.pick_t; exact rfl; exact rfl) | (apply OQ.move; exact rfl) | (apply OQ.assign; exact rfl)) rfl ?_ | refine JC.seq ?_ | refine JC.region ?_ | refine JC.block ?_ | refine JL.nil ?_ | refine JE.next ?_ | refine JL.gon rfl rfl ?_)
    refine JC.cond_true rfl rfl ?_
    repeat (first | refine JL.q (by first | (apply OQ.sub8Q (b := 48); exact rfl; exact rfl; exact h.1) | (apply OQ.conv8_N; exact Tryz.underlying5; exact Tryz.underlying3; exact rfl) | (apply OQ.move; exact rfl) | (apply OQ.assign; exact rfl)) rfl ?_ | refine JC.seq ?_ | refine JC.region ?_ | refine JL.nil ?_ | refine JE.next ?_)
    refine JC.ret ?_
    repeat (first | refine JE.then_ret ?_ | refine JE.blk_ret ?_)
    exact JE.ret1 rfl (RV.tmp rfl) fun w' hw => ⟨rfl, hw.chg⟩
  · rw [hexV4 c (by omega) (by omega) (by omega)]
    have ha0 : decide ((48 : Int) ≤ (c.toNat : Int)) = true := decide_eq_true (by omega)
    have hb0 : decide ((c.toNat : Int) ≤ 57) = false := decide_eq_false (by omega)
    have ha1 : decide ((65 : Int) ≤ (c.toNat : Int)) = false := decide_eq_false (by omega)
    have hb1 : decide ((c.toNat : Int) ≤ 70) = true := decide_eq_true (by omega)
    have ha2 : decide ((97 : Int) ≤ (c.toNat : Int)) = false := decide_eq_false (by omega)
    have hb2 : decide ((c.toNat : Int) ≤ 102) = true := decide_eq_true (by omega)
    repeat (first | refine JL.q (by first | (apply OQ.geqB (b := 48); exact rfl; exact rfl; exact ha0) | (apply OQ.leqB (b := 57); exact rfl; exact rfl; exact hb0) | (apply OQ.pick_t; exact rfl; exact rfl) | (apply OQ.move; exact rfl) | (apply OQ.assign; exact rfl)) rfl ?_ | refine JC.seq ?_ | refine JC.region ?_ | refine JC.block ?_ | refine JL.nil ?_ | refine JE.next ?_ | refine JL.gon rfl rfl ?_)
    refine JC.cond_false rfl rfl ?_
    repeat (first | refine JL.q (by first | (apply OQ.geqB (b := 65); exact rfl; exact rfl; exact ha1) | (apply OQ.pick_f; exact rfl; exact rfl) | (apply OQ.move; exact rfl) | (apply OQ.assign; exact rfl)) rfl ?_ | refine JC.seq ?_ | refine JC.region ?_ | refine JL.nil ?_ | refine JE.next ?_ | refine JL.gskip rfl rfl rfl rfl ?_)
    refine JC.cond_false rfl rfl ?_
    repeat (first | refine JL.q (by first | (apply OQ.geqB (b := 97); exact rfl; exact rfl; exact ha2) | (apply OQ.pick_f; exact rfl; exact rfl) | (apply OQ.move; exact rfl) | (apply OQ.assign; exact rfl)) rfl ?_ | refine JC.seq ?_ | refine JC.region ?_ | refine JL.nil ?_ | refine JE.next ?_ | refine JL.gskip rfl rfl rfl rfl ?_)
    refine JC.cond_false rfl rfl ?_
    repeat (first | refine JL.q (by (apply OQ.assign; exact rfl)) rfl ?_ | refine JC.seq ?_ | refine JC.region ?_ | refine JC.skip ?_ | refine JL.nil ?_ | refine JE.next ?_ | refine JE.blk_normal ?_)
    refine JC.ret ?_
    exact JE.ret1 rfl (RV.tmp rfl) fun w' hw => ⟨rfl, hw.chg⟩
  · rw [hexV2 c h.1 h.2]
    have ha0 : decide ((48 : Int) ≤ (c.toNat : Int)) = true := decide_eq_true (by omega)
    have hb0 : decide ((c.toNat : Int) ≤ 57) = false := decide_eq_false (by omega)
    have ha1 : decide ((65 : Int) ≤ (c.toNat : Int)) = true := decide_eq_true (by omega)
    have hb1 : decide ((c.toNat : Int) ≤ 70) = true := decide_eq_true (by omega)
    repeat (first | refine JL.q (by first | (apply OQ.geqB (b := 48); exact rfl; exact rfl; exact ha0) | (apply OQ.leqB (b := 57); exact rfl; exact rfl; exact hb0) | (apply OQ.pick_t; exact rfl; exact rfl) | (apply OQ.move; exact rfl) | (apply OQ.assign; exact rfl)) rfl ?_ | refine JC.seq ?_ | refine JC.region ?_ | refine JC.block ?_ | refine JL.nil ?_ | refine JE.next ?_ | refine JL.gon rfl rfl ?_)
    refine JC.cond_false rfl rfl ?_
    repeat (first | refine JL.q (by first | (apply OQ.geqB (b := 65); exact rfl; exact rfl; exact ha1) | (apply OQ.leqB (b := 70); exact rfl; exact rfl; exact hb1) | (apply OQ.pick_t; exact rfl; exact rfl) | (apply OQ.move; exact rfl) | (apply OQ.assign; exact rfl)) rfl ?_ | refine JC.seq ?_ | refine JC.region ?_ | refine JL.nil ?_ | refine JE.next ?_ | refine JL.gon rfl rfl ?_)
    refine JC.cond_true rfl rfl ?_
    repeat (first | refine JL.q (by first | (apply OQ.sub8Q (b := 65); exact rfl; exact rfl; exact h.1) | (apply OQ.conv8_N; exact Tryz.underlying5; exact Tryz.underlying3; exact rfl) | (apply OQ.addN (b := 10); exact rfl; exact rfl; exact (by have := (c - 65).isLt; omega)) | (apply OQ.move; exact rfl) | (apply OQ.assign; exact rfl)) rfl ?_ | refine JC.seq ?_ | refine JC.region ?_ | refine JL.nil ?_ | refine JE.next ?_)
    refine JC.ret ?_
    repeat (first | refine JE.then_ret ?_ | refine JE.blk_ret ?_)
    exact JE.ret1 rfl (RV.tmp rfl) fun w' hw => ⟨rfl, hw.chg⟩
  · rw [hexV4 c (by omega) (by omega) (by omega)]
    have ha0 : decide ((48 : Int) ≤ (c.toNat : Int)) = true := decide_eq_true (by omega)
    have hb0 : decide ((c.toNat : Int) ≤ 57) = false := decide_eq_false (by omega)
    have ha1 : decide ((65 : Int) ≤ (c.toNat : Int)) = true := decide_eq_true (by omega)
    have hb1 : decide ((c.toNat : Int) ≤ 70) = false := decide_eq_false (by omega)
    have ha2 : decide ((97 : Int) ≤ (c.toNat : Int)) = false := decide_eq_false (by omega)
    have hb2 : decide ((c.toNat : Int) ≤ 102) = true := decide_eq_true (by omega)
    repeat (first | refine JL.q (by first | (apply OQ.geqB (b := 48); exact rfl; exact rfl; exact ha0) | (apply OQ.leqB (b := 57); exact rfl; exact rfl; exact hb0) | (apply OQ.pick_t; exact rfl; exact rfl) | (apply OQ.move; exact rfl) | (apply OQ.assign; exact rfl)) rfl ?_ | refine JC.seq ?_ | refine JC.region ?_ | refine JC.block ?_ | refine JL.nil ?_ | refine JE.next ?_ | refine JL.gon rfl rfl ?_)
    refine JC.cond_false rfl rfl ?_
    repeat (first | refine JL.q (by first | (apply OQ.geqB (b := 65); exact rfl; exact rfl; exact ha1) | (apply OQ.leqB (b := 70); exact rfl; exact rfl; exact hb1) | (apply OQ.pick_t; exact rfl; exact rfl) | (apply OQ.move; exact rfl) | (apply OQ.assign; exact rfl)) rfl ?_ | refine JC.seq ?_ | refine JC.region ?_ | refine JL.nil ?_ | refine JE.next ?_ | refine JL.gon rfl rfl ?_)
    refine JC.cond_false rfl rfl ?_
    repeat (first | refine JL.q (by first | (apply OQ.geqB (b := 97); exact rfl; exact rfl; exact ha2) | (apply OQ.pick_f; exact rfl; exact rfl) | (apply OQ.move; exact rfl) | (apply OQ.assign; exact rfl)) rfl ?_ | refine JC.seq ?_ | refine JC.region ?_ | refine JL.nil ?_ | refine JE.next ?_ | refine JL.gskip rfl rfl rfl rfl ?_)
    refine JC.cond_false rfl rfl ?_
    repeat (first | refine JL.q (by (apply OQ.assign; exact rfl)) rfl ?_ | refine JC.seq ?_ | refine JC.region ?_ | refine JC.skip ?_ | refine JL.nil ?_ | refine JE.next ?_ | refine JE.blk_normal ?_)
    refine JC.ret ?_
    exact JE.ret1 rfl (RV.tmp rfl) fun w' hw => ⟨rfl, hw.chg⟩
  · rw [hexV3 c h.1 h.2]
    have ha0 : decide ((48 : Int) ≤ (c.toNat : Int)) = true := decide_eq_true (by omega)
    have hb0 : decide ((c.toNat : Int) ≤ 57) = false := decide_eq_false (by omega)
    have ha1 : decide ((65 : Int) ≤ (c.toNat : Int)) = true := decide_eq_true (by omega)
    have hb1 : decide ((c.toNat : Int) ≤ 70) = false := decide_eq_false (by omega)
    have ha2 : decide ((97 : Int) ≤ (c.toNat : Int)) = true := decide_eq_true (by omega)
    have hb2 : decide ((c.toNat : Int) ≤ 102) = true := decide_eq_true (by omega)
    repeat (first | refine JL.q (by first | (apply OQ.geqB (b := 48); exact rfl; exact rfl; exact ha0) | (apply OQ.leqB (b := 57); exact rfl; exact rfl; exact hb0) | (apply OQ.pick_t; exact rfl; exact rfl) | (apply OQ.move; exact rfl) | (apply OQ.assign; exact rfl)) rfl ?_ | refine JC.seq ?_ | refine JC.region ?_ | refine JC.block ?_ | refine JL.nil ?_ | refine JE.next ?_ | refine JL.gon rfl rfl ?_)
    refine JC.cond_false rfl rfl ?_
    repeat (first | refine JL.q (by first | (apply OQ.geqB (b := 65); exact rfl; exact rfl; exact ha1) | (apply OQ.leqB (b := 70); exact rfl; exact rfl; exact hb1) | (apply OQ.pick_t; exact rfl; exact rfl) | (apply OQ.move; exact rfl) | (apply OQ.assign; exact rfl)) rfl ?_ | refine JC.seq ?_ | refine JC.region ?_ | refine JL.nil ?_ | refine JE.next ?_ | refine JL.gon rfl rfl ?_)
    refine JC.cond_false rfl rfl ?_
    repeat (first | refine JL.q (by first | (apply OQ.geqB (b := 97); exact rfl; exact rfl; exact ha2) | (apply OQ.leqB (b := 102); exact rfl; exact rfl; exact hb2) | (apply OQ.pick_t; exact rfl; exact rfl) | (apply OQ.move; exact rfl) | (apply OQ.assign; exact rfl)) rfl ?_ | refine JC.seq ?_ | refine JC.region ?_ | refine JL.nil ?_ | refine JE.next ?_ | refine JL.gon rfl rfl ?_)
    refine JC.cond_true rfl rfl ?_
    repeat (first | refine JL.q (by first | (apply OQ.sub8Q (b := 97); exact rfl; exact rfl; exact h.1) | (apply OQ.conv8_N; exact Tryz.underlying5; exact Tryz.underlying3; exact rfl) | (apply OQ.addN (b := 10); exact rfl; exact rfl; exact (by have := (c - 97).isLt; omega)) | (apply OQ.move; exact rfl) | (apply OQ.assign; exact rfl)) rfl ?_ | refine JC.seq ?_ | refine JC.region ?_ | refine JL.nil ?_ | refine JE.next ?_)
    refine JC.ret ?_
    repeat (first | refine JE.then_ret ?_ | refine JE.blk_ret ?_)
    exact JE.ret1 rfl (RV.tmp rfl) fun w' hw => ⟨rfl, hw.chg⟩
  · rw [hexV4 c (by omega) (by omega) (by omega)]
    have ha0 : decide ((48 : Int) ≤ (c.toNat : Int)) = true := decide_eq_true (by omega)
    have hb0 : decide ((c.toNat : Int) ≤ 57) = false := decide_eq_false (by omega)
    have ha1 : decide ((65 : Int) ≤ (c.toNat : Int)) = true := decide_eq_true (by omega)
    have hb1 : decide ((c.toNat : Int) ≤ 70) = false := decide_eq_false (by omega)
    have ha2 : decide ((97 : Int) ≤ (c.toNat : Int)) = true := decide_eq_true (by omega)
    have hb2 : decide ((c.toNat : Int) ≤ 102) = false := decide_eq_false (by omega)
    repeat (first | refine JL.q (by first | (apply OQ.geqB (b := 48); exact rfl; exact rfl; exact ha0) | (apply OQ.leqB (b := 57); exact rfl; exact rfl; exact hb0) | (apply OQ.pick_t; exact rfl; exact rfl) | (apply OQ.move; exact rfl) | (apply OQ.assign; exact rfl)) rfl ?_ | refine JC.seq ?_ | refine JC.region ?_ | refine JC.block ?_ | refine JL.nil ?_ | refine JE.next ?_ | refine JL.gon rfl rfl ?_)
    refine JC.cond_false rfl rfl ?_
    repeat (first | refine JL.q (by first | (apply OQ.geqB (b := 65); exact rfl; exact rfl; exact ha1) | (apply OQ.leqB (b := 70); exact rfl; exact rfl; exact hb1) | (apply OQ.pick_t; exact rfl; exact rfl) | (apply OQ.move; exact rfl) | (apply OQ.assign; exact rfl)) rfl ?_ | refine JC.seq ?_ | refine JC.region ?_ | refine JL.nil ?_ | refine JE.next ?_ | refine JL.gon rfl rfl ?_)
    refine JC.cond_false rfl rfl ?_
    repeat (first | refine JL.q (by first | (apply OQ.geqB (b := 97); exact rfl; exact rfl; exact ha2) | (apply OQ.leqB (b := 102); exact rfl; exact rfl; exact hb2) | (apply OQ.pick_t; exact rfl; exact rfl) | (apply OQ.move; exact rfl) | (apply OQ.assign; exact rfl)) rfl ?_ | refine JC.seq ?_ | refine JC.region ?_ | refine JL.nil ?_ | refine JE.next ?_ | refine JL.gon rfl rfl ?_)
    refine JC.cond_false rfl rfl ?_
    repeat (first | refine JL.q (by (apply OQ.assign; exact rfl)) rfl ?_ | refine JC.seq ?_ | refine JC.region ?_ | refine JC.skip ?_ | refine JL.nil ?_ | refine JE.next ?_ | refine JE.blk_normal ?_)
    refine JC.ret ?_
    exact JE.ret1 rfl (RV.tmp rfl) fun w' hw => ⟨rfl, hw.chg⟩
set_option maxHeartbeats 16000000 in
theorem esc_any (s : Sl8) (w : World) (hs : s.ok w) : Calls Tryz.prog 109 [s.v].toArray w fun e w' => e = .returned (.tuple #[U8 ((hexs s.l).getD 0), .bool (hexs s.l).isSome]) ∧ Ext w w' := by
  refine enter (n := 28) Tryz.func109 rfl rfl rfl (Holds.start w []) ?_
  cases h3 : decide ((s.l.length : Int) < 3)
  · have h3' : 3 ≤ s.l.length := by have := of_decide_eq_false h3; omega
    obtain ⟨ba, ja, hae, hca⟩ := hs.reads.at (by simp; omega)
    have i1 : 1 < s.l.length := by omega
    have i2 : 2 < s.l.length := by omega
    have hc1 := hca 1 _ (map_at U8 0 i1)
    have hc2 := hca 2 _ (map_at U8 0 i2)
    have hav : s.v = .slice (some ⟨ba, ja, none⟩) s.l.length s.cap := by rw [← hae]; rfl
    have eH : hexs s.l = if 3 ≤ s.l.length ∧ 0 ≤ hexV (s.l.getD 1 0) ∧ 0 ≤ hexV (s.l.getD 2 0) then some (BitVec.ofInt 8 (16 * hexV (s.l.getD 1 0) + hexV (s.l.getD 2 0))) else none := rfl
    have b1 := hexV_bd (s.l.getD 1 0)
    have b2 := hexV_bd (s.l.getD 2 0)
    have w1 := fun w' => worth_any (s.l.getD 1 0) w'
    have w2 := fun w' => worth_any (s.l.getD 2 0) w'
    generalize hp : hexV (s.l.getD 1 0) = p at eH b1 w1
    generalize hq : hexV (s.l.getD 2 0) = q at eH b2 w2
    generalize s.l.getD 1 0 = c at hc1 w1
    generalize s.l.getD 2 0 = d at hc2 w2
    repeat (first | refine JL.q (by first | (apply OQ.lssB (b := 3); exact rfl; exact rfl; exact h3) | (apply OQ.move; exact rfl) | (apply OQ.assign; exact rfl) | (apply OQ.len; exact rfl; exact rfl)) rfl ?_ | refine JC.seq ?_ | refine JC.region ?_ | refine JL.nil ?_ | refine JE.next ?_)
    refine JC.cond_false rfl rfl ?_
    repeat (first | refine JC.seq ?_ | refine JC.skip ?_ | refine JE.next ?_)
    refine JC.quiet mixQu (by kernel_rfl) ?_
    repeat (first | refine JL.q (by first | (apply OQ.idxS1 (i := 1); exact Tryz.underlying22; exact u8s; exact (congrArg some hav); exact rfl; exact i1) | (apply OQ.idxS1 (i := 2); exact Tryz.underlying22; exact u8s; exact (congrArg some hav); exact rfl; exact i2) | (apply OQ.load_old; exact u8c; exact rfl; exact (block_lt_of_cell hc1); exact (by simp); exact hc1) | (apply OQ.load_old; exact u8c; exact rfl; exact (block_lt_of_cell hc2); exact (by simp); exact hc2) | (apply OQ.callx (vs := [U8 c]); exact goes_qworth; exact rfl; exact (fun w' _ => w1 w')) | (apply OQ.callx (vs := [U8 d]); exact goes_qworth; exact rfl; exact (fun w' _ => w2 w')) | (apply OQ.move; exact rfl) | (apply OQ.assign; exact rfl)) rfl ?_ | refine JQ.q (by first | (apply OQ.idxS1 (i := 1); exact Tryz.underlying22; exact u8s; exact (congrArg some hav); exact rfl; exact i1) | (apply OQ.idxS1 (i := 2); exact Tryz.underlying22; exact u8s; exact (congrArg some hav); exact rfl; exact i2) | (apply OQ.load_old; exact u8c; exact rfl; exact (block_lt_of_cell hc1); exact (by simp); exact hc1) | (apply OQ.load_old; exact u8c; exact rfl; exact (block_lt_of_cell hc2); exact (by simp); exact hc2) | (apply OQ.callx (vs := [U8 c]); exact goes_qworth; exact rfl; exact (fun w' _ => w1 w')) | (apply OQ.callx (vs := [U8 d]); exact goes_qworth; exact rfl; exact (fun w' _ => w2 w')) | (apply OQ.move; exact rfl) | (apply OQ.assign; exact rfl)) rfl ?_ | refine JC.seq ?_ | refine JC.region ?_ | refine JQ.nil ?_ | refine JE.next ?_)
    cases hpn : decide (p < 0)
    · cases hqn : decide (q < 0)
      · have hp0 : 0 ≤ p := by have := of_decide_eq_false hpn; omega
        have hq0 : 0 ≤ q := by have := of_decide_eq_false hqn; omega
        rw [if_pos ⟨h3', hp0, hq0⟩] at eH
        rw [eH]
        clear eH hpn hqn
        obtain ⟨a, rfl⟩ : ∃ a : Nat, p = (a : Int) := ⟨p.toNat, by omega⟩
        obtain ⟨b, rfl⟩ : ∃ b : Nat, q = (b : Int) := ⟨q.toNat, by omega⟩
        have ha : a < 16 := by omega
        have hb : b < 16 := by omega
        have n1 : decide ((a : Int) < 0) = false := decide_eq_false (by omega)
        have n2 : decide ((b : Int) < 0) = false := decide_eq_false (by omega)
        have e16 : (16 * (a : Int) + (b : Int)) = ((16 * a + b : Nat) : Int) := by omega
        rw [e16]
        repeat (first | refine JL.q (by first | (apply OQ.lssB (b := 0); exact rfl; exact rfl; exact n1) | (apply OQ.pick_f; exact rfl; exact rfl) | (apply OQ.move; exact rfl)) rfl ?_ | refine JL.nil ?_ | refine JE.next ?_ | refine JL.gon rfl rfl ?_)
        refine JC.cond_false rfl rfl ?_
        repeat (first | refine JL.q (by first | (apply OQ.shlHex (a := a); exact rfl; exact rfl; exact ha) | (apply OQ.orHex (a := a) (b := b); exact rfl; exact rfl; exact ha; exact hb) | (apply OQ.convI_8; exact Tryz.underlying3; exact Tryz.underlying5; exact rfl) | (apply OQ.move; exact rfl) | (apply OQ.assign; exact rfl)) rfl ?_ | refine JC.seq ?_ | refine JC.region ?_ | refine JC.skip ?_ | refine JL.nil ?_ | refine JE.next ?_)
        refine JC.ret ?_
        exact JE.ret2 rfl (RV.tmp rfl) (RV.tmp rfl) fun w' hw => ⟨rfl, hw.chg⟩
      · have hq0 : ¬ 0 ≤ q := by have := of_decide_eq_true hqn; omega
        rw [if_neg fun h => hq0 h.2.2] at eH
        rw [eH]
        repeat (first | refine JL.q (by first | (apply OQ.lssB (b := 0); exact rfl; exact rfl; exact hpn) | (apply OQ.lssB (b := 0); exact rfl; exact rfl; exact hqn) | (apply OQ.pick_f; exact rfl; exact rfl) | (apply OQ.move; exact rfl)) rfl ?_ | refine JL.nil ?_ | refine JE.next ?_ | refine JL.gon rfl rfl ?_)
        refine JC.cond_true rfl rfl ?_
        repeat (first | refine JL.q (by (apply OQ.assign; exact rfl)) rfl ?_ | refine JC.seq ?_ | refine JC.region ?_ | refine JL.nil ?_ | refine JE.next ?_)
        refine JC.ret ?_
        repeat (refine JE.then_ret ?_)
        exact JE.ret2 rfl (RV.tmp rfl) (RV.tmp rfl) fun w' hw => ⟨rfl, hw.chg⟩
    · have hp0 : ¬ 0 ≤ p := by have := of_decide_eq_true hpn; omega
      rw [if_neg fun h => hp0 h.2.1] at eH
      rw [eH]
      repeat (first | refine JL.q (by first | (apply OQ.lssB (b := 0); exact rfl; exact rfl; exact hpn) | (apply OQ.pick_t; exact rfl; exact rfl) | (apply OQ.move; exact rfl)) rfl ?_ | refine JL.nil ?_ | refine JE.next ?_ | refine JL.gskip rfl rfl rfl rfl ?_)
      refine JC.cond_true rfl rfl ?_
      repeat (first | refine JL.q (by (apply OQ.assign; exact rfl)) rfl ?_ | refine JC.seq ?_ | refine JC.region ?_ | refine JL.nil ?_ | refine JE.next ?_)
      refine JC.ret ?_
      repeat (refine JE.then_ret ?_)
      exact JE.ret2 rfl (RV.tmp rfl) (RV.tmp rfl) fun w' hw => ⟨rfl, hw.chg⟩
  · have h3' : ¬ 3 ≤ s.l.length := by have := of_decide_eq_true h3; omega
    have eH : hexs s.l = none := if_neg fun h => h3' h.1
    rw [eH]
    repeat (first | refine JL.q (by first | (apply OQ.lssB (b := 3); exact rfl; exact rfl; exact h3) | (apply OQ.move; exact rfl) | (apply OQ.assign; exact rfl) | (apply OQ.len; exact rfl; exact rfl)) rfl ?_ | refine JC.seq ?_ | refine JC.region ?_ | refine JL.nil ?_ | refine JE.next ?_)
    refine JC.cond_true rfl rfl ?_
    repeat (first | refine JL.q (by (apply OQ.assign; exact rfl)) rfl ?_ | refine JC.seq ?_ | refine JC.region ?_ | refine JL.nil ?_ | refine JE.next ?_)
    refine JC.ret ?_
    repeat (refine JE.then_ret ?_)
    exact JE.ret2 rfl (RV.tmp rfl) (RV.tmp rfl) fun w' hw => ⟨rfl, hw.chg⟩
end Go.Proofs.YtbbmhkdfdgnkpaaGreatDoor

/-
  Of no statement by itself: a rule for a scope with several labels that are jumped to, over partial knowledge of frame and memory, for any program P.
  Conditions: the rule's own hypotheses.
-/
namespace Go.Proofs.YtbbmhkdfdgnkpaaGreatDoor
set_option maxRecDepth 10000
namespace Sl
/-- as Q; by a goto to label l: J l -/
def JumpsTo (J : Nat → Act → World → Prop) (Q : Exit → Act → World → Prop) : Exit → Act → World → Prop
  | .goto l', a, w => J l' a w
  | e, a, w => Q e a w
abbrev JmpL (n : Nat) (w0 : World) (S : List Nat) {ι : Type} (lab : ι → Nat) (Ei : ι → Env) (Mi : ι → List Ent) (p : ι → Prop) : Nat → Act → World → Prop := fun l a w => ∃ j, p j ∧ lab j = l ∧ Knows n (Ei j) a ∧ Holds w0 S (Mi j) w
section
variable {P : Program} {n : Nat} {w0 : World} {S : List Nat} {Q : Exit → Act → World → Prop} {E : Env} {M : List Ent}
theorem JC.scopes {ι : Type} (lab : ι → Nat) (rest : ι → Code) (Ei : ι → Env) (Mi : ι → List Ent) (μ : ι → Nat) (I : ι → Prop) {c : Code} (hf : ∀ i, I i → findLabel c (lab i) = some (rest i))
    (first : JC P n w0 S (JumpsTo (JmpL n w0 S lab Ei Mi I) Q) c E M)
    (pass : ∀ i, I i → JC P n w0 S (JumpsTo (JmpL n w0 S lab Ei Mi fun j => I j ∧ μ j < μ i) Q) (rest i) (Ei i) (Mi i)) : JC P n w0 S Q (.scope c) E M := by
  refine ⟨fun a0 w0' ha0 hw0 b k cs => ?_⟩
  have hg : ∀ i, I i → gotoIn (lab i) (.inScope c :: k) = some (.code (rest i) :: .inScope c :: k) := fun i hi => by simp [gotoIn, hf i hi]
  have key : ∀ m i, μ i = m → I i → ∀ a w, Knows n (Ei i) a → Holds w0 S (Mi i) w → ∃ e a' w', Q e a' w' ∧ Arrives P (lone (b.at a (.code (rest i) :: .inScope c :: k)) cs w) b k cs e a' w' := by
    intro m
    induction m using Nat.strongRecOn with
    | _ m ih =>
      intro i hm hI a w ha hw
      obtain ⟨e, a₁, w₁, hq, harr⟩ := (pass i hI).go a w ha hw b (.inScope c :: k) cs
      cases e with
      | normal => exact ⟨.normal, a₁, w₁, hq, Steps.trans harr (.one step_inScope)⟩
      | exit id => exact ⟨.exit id, a₁, w₁, hq, fun k' hk => harr k' (by simp [exitTo, hk])⟩
      | goto l' =>
        obtain ⟨j, ⟨hJ, hlt⟩, rfl, ha₁, hw₁⟩ := hq
        obtain ⟨e₂, a₂, w₂, hq₂, harr₂⟩ := ih (μ j) (by omega) j rfl hJ a₁ w₁ ha₁ hw₁
        exact ⟨e₂, a₂, w₂, hq₂, .of_steps (harr _ (hg j hJ)) harr₂⟩
      | ret => exact ⟨_, a₁, w₁, hq, harr⟩
      | panic ch => exact ⟨_, a₁, w₁, hq, harr⟩
      | outgrown => exact ⟨_, a₁, w₁, hq, harr⟩
  obtain ⟨e, a₁, w₁, hq, harr⟩ := first.go a0 w0' ha0 hw0 b (.inScope c :: k) cs
  cases e with
  | normal => exact ⟨.normal, a₁, w₁, hq, .head step_scope (Steps.trans harr (.one step_inScope))⟩
  | exit id => exact ⟨.exit id, a₁, w₁, hq, fun k' hk => .head step_scope (harr k' (by simp [exitTo, hk]))⟩
  | goto l' =>
    obtain ⟨j, hJ, rfl, ha₁, hw₁⟩ := hq
    obtain ⟨e₂, a₂, w₂, hq₂, harr₂⟩ := key _ j rfl hJ a₁ w₁ ha₁ hw₁
    exact ⟨e₂, a₂, w₂, hq₂, .of_steps (.head step_scope (harr _ (hg j hJ))) harr₂⟩
  | ret => exact ⟨_, a₁, w₁, hq, .of_steps (.one step_scope) harr⟩
  | panic ch => exact ⟨_, a₁, w₁, hq, .of_steps (.one step_scope) harr⟩
  | outgrown => exact ⟨_, a₁, w₁, hq, .of_steps (.one step_scope) harr⟩
/-- the way to the first label is the pass from there -/
theorem JC.scopesP {ι : Type} (lab : ι → Nat) (rest : ι → Code) (Ei : ι → Env) (Mi : ι → List Ent) (μ : ι → Nat) (I : ι → Prop) {c : Code} (hf : ∀ i, I i → findLabel c (lab i) = some (.seq .skip (rest i)))
    (pass : ∀ i, I i → JC P n w0 S (JumpsTo (JmpL n w0 S lab Ei Mi fun j => I j ∧ μ j < μ i) Q) (rest i) (Ei i) (Mi i))
    (first : (∀ i, I i → JC P n w0 S (JumpsTo (JmpL n w0 S lab Ei Mi I) Q) (rest i) (Ei i) (Mi i)) → JC P n w0 S (JumpsTo (JmpL n w0 S lab Ei Mi I) Q) c E M) : JC P n w0 S Q (.scope c) E M :=
  JC.scopes lab (fun i => .seq .skip (rest i)) Ei Mi μ I hf (first fun i hi => (pass i hi).mono fun e a w hq => by
    cases e with
    | goto l' => obtain ⟨j, h1, h2⟩ := hq; exact ⟨j, h1.1, h2⟩
    | _ => exact hq) fun i hi => JC.seq (JC.skip (JE.next (pass i hi)))
/-- two labels: 0, that one comes to by itself, and 1 -/
theorem JC.scopes2 {ι : Type} (esc : ι → Bool) (Ei : ι → Env) (Mi : ι → List Ent) (μ : ι → Nat) (I : ι → Prop) {c r0 r1 : Code} (h0 : findLabel c 0 = some (.seq .skip r0)) (h1 : findLabel c 1 = some (.seq .skip r1))
    (pass0 : ∀ i, esc i = false → I i → JC P n w0 S (JumpsTo (JmpL n w0 S (fun i => if esc i then 1 else 0) Ei Mi fun j => I j ∧ μ j < μ i) Q) r0 (Ei i) (Mi i))
    (pass1 : ∀ i, esc i = true → I i → JC P n w0 S (JumpsTo (JmpL n w0 S (fun i => if esc i then 1 else 0) Ei Mi fun j => I j ∧ μ j < μ i) Q) r1 (Ei i) (Mi i))
    (first : (∀ i, esc i = false → I i → JC P n w0 S (JumpsTo (JmpL n w0 S (fun i => if esc i then 1 else 0) Ei Mi I) Q) r0 (Ei i) (Mi i)) → JC P n w0 S (JumpsTo (JmpL n w0 S (fun i => if esc i then 1 else 0) Ei Mi I) Q) c E M) : JC P n w0 S Q (.scope c) E M := by
  refine JC.scopesP (fun i => if esc i then 1 else 0) (fun i => if esc i then r1 else r0) Ei Mi μ I (fun i _ => ?_) (fun i hi => ?_) fun hp => first fun i he hi => ?_
  · cases esc i
    · exact h0
    · exact h1
  · cases he : esc i
    · exact pass0 i he hi
    · exact pass1 i he hi
  · have := hp i hi
    rw [he] at this
    exact this
theorem JE.jumps_to {ι : Type} {l : Nat} {lab : ι → Nat} {Ei : ι → Env} {Mi : ι → List Ent} {p : ι → Prop} (j : ι) (hp : p j) (hl : lab j = l) (hE : SubE E (Ei j)) (hM : Less (Mi j) M) : JE n w0 S (JumpsTo (JmpL n w0 S lab Ei Mi p) Q) (.goto l) E M :=
  ⟨fun _ _ ha hw => ⟨j, hp, hl, ha.sub hE, hw.weak hM⟩⟩
theorem JE.jumps_ret {J : Nat → Act → World → Prop} (h : JE n w0 S Q .ret E M) : JE n w0 S (JumpsTo J Q) .ret E M := ⟨h.go⟩
end
end Sl
end Go.Proofs.YtbbmhkdfdgnkpaaGreatDoor

/-
  Of no statement by itself: what the landed quoted.Decode gives.
  Conditions: the theorem's own.
-/
namespace Go.Proofs.YtbbmhkdfdgnkpaaGreatDoor
set_option maxRecDepth 10000
open Sl Fld Quo
theorem goes_qdec : Goes Tryz.prog 70 := ⟨_, Tryz.func70, rfl, by kernel_rfl⟩
namespace Quo
theorem dec_blanks {b : List By} (h1 : ¬ b.getD 0 0 = 61) (hk : 0 < bkn b) : decQ b = accQ (if endsq (b.drop (bkn b)) then [] else b.take (bkn b)) (decQ (b.drop (bkn b))) := by
  have hb : b ≠ [] := by rintro rfl; cases hk
  have hs : stepQ b = some (if endsq (b.drop (bkn b)) then [] else b.take (bkn b), bkn b) := by
    unfold stepQ
    rw [if_neg h1, if_pos hk]
  rw [decQ_step hb, hs]
theorem dec_one {b : List By} (hb : b ≠ []) (h1 : ¬ b.getD 0 0 = 61) (hk : bkn b = 0) (he : enq b = 0) : decQ b = accQ [b.getD 0 0] (decQ (b.drop 1)) := by
  have hs : stepQ b = some ([b.getD 0 0], 1) := by
    unfold stepQ
    rw [if_neg h1, if_neg (by omega), if_neg (by omega)]
  rw [decQ_step hb, hs]
end Quo
structure QdS where
  esc : Bool
  x : Sl8
  k : Nat
  o : List Bt
  b : Nat
  cap : Nat
def QdS.left (z : QdS) : List Bt := if z.esc then z.x.l else z.x.l.drop z.k
theorem qd_f (x : Sl8) (k : Nat) (o : List Bt) (b cap : Nat) : QdS.left ⟨false, x, k, o, b, cap⟩ = x.l.drop k := rfl
theorem qd_t (x : Sl8) (k : Nat) (o : List Bt) (b cap : Nat) : QdS.left ⟨true, x, k, o, b, cap⟩ = x.l := rfl
set_option maxHeartbeats 64000000 in
theorem qdec_any (s : Sl8) (w : World) (hs : s.ok w) (hl : s.l.length ≤ 1099511627776) : Calls Tryz.prog 70 [s.v].toArray w
    fun e w' => ∃ q : Sl8, e = .returned (.tuple #[q.v, N (codeQ (decQ s.l))]) ∧ Ans q (outQ (decQ s.l)) ∧ Holds w [] q.ents w' := by
  refine enter (n := 73) Tryz.func70 rfl rfl rfl (Holds.start w []) ?_
  refine JC.seq (JC.region ?_)
  repeat (refine JL.q (by (apply OQ.assign; exact rfl)) rfl ?_)
  refine JL.nil (JE.next ?_)
  refine JC.scopes2 (ι := QdS) QdS.esc (fun z => [(0, z.x.v), (4, .slice (some ⟨z.b, 0, none⟩) z.o.length z.cap), (5, N z.k)]) (fun z => [⟨z.b, Sl.Own 5 1 z.o.length z.cap (z.o.map U8), true⟩])
    (fun z => 2 * z.left.length + (if z.esc then 0 else 1))
    (fun z => z.x.ok w ∧ z.x.l.length ≤ s.l.length ∧ (z.esc = false → z.k ≤ z.x.l.length) ∧ (z.esc = true → z.x.l.getD 0 0 = 61) ∧ z.o.length + 2 * z.left.length ≤ 2 * s.l.length ∧ decQ s.l = accQ z.o (decQ z.left)) rfl rfl ?_ ?_ ?_
  · rintro ⟨esc, x, k, o, b, cap⟩ he ⟨hx, hxl, hk, -, ho, hc⟩
    obtain rfl : esc = false := he
    rw [qd_f] at ho hc
    replace hk := hk rfl
    dsimp only at hx hxl hk ho hc ⊢
    have hy : (x.snd k).ok w := hx.snd k hk
    have hyl : (x.snd k).l = x.l.drop k := rfl
    have hyn : (x.snd k).l.length = x.l.length - k := by rw [hyl, List.length_drop]
    repeat (first | refine JL.q (by first | (apply OQ.snd (s := x) (m := k); exact Tryz.underlying22; exact u8s; exact rfl; exact rfl; exact hk) | (apply OQ.move; exact rfl) | (apply OQ.assign; exact rfl) | (apply OQ.len; exact rfl; exact rfl)) rfl ?_ | refine JC.seq ?_ | refine JC.region ?_ | refine JL.nil ?_ | refine JE.next ?_)
    rw [← hyl] at ho hc
    generalize x.snd k = y at hy hyl hyn ho hc ⊢
    clear hyl
    have hyL : y.l.length ≤ s.l.length := by omega
    have hxk : (x.l.drop k).length = y.l.length := by rw [List.length_drop]; exact hyn.symm
    cases h0 : decide ((y.l.length : Int) = 0)
    · have i0 : 0 < y.l.length := by have := of_decide_eq_false h0; omega
      have hne : y.l ≠ [] := List.length_pos_iff.1 i0
      have hcap := hy.len
      obtain ⟨ba, ja, hae, hca⟩ := hy.reads.at (by simp; omega)
      have hc0 := hca 0 _ (map_at U8 0 i0)
      have hav : y.v = .slice (some ⟨ba, ja, none⟩) y.l.length y.cap := by rw [← hae]; rfl
      repeat (first | refine JL.q (by (apply OQ.eqB (b := 0); exact rfl; exact rfl; exact h0)) rfl ?_ | refine JL.nil ?_ | refine JE.next ?_)
      refine JC.cond_false rfl rfl ?_
      cases h61 : decide (y.l.getD 0 0 = 61)
      · have n61 : ¬ y.l.getD 0 0 = 61 := of_decide_eq_false h61
        have cK := fun w' (hw' : Holds w [] [⟨b, Sl.Own 5 1 o.length cap (o.map U8), true⟩] w') => blanks_any y w' (hy.holds hw' rfl) (by omega)
        repeat (first | refine JL.q (by first | (apply OQ.idxS1 (i := 0); exact Tryz.underlying22; exact u8s; exact (congrArg some hav); exact rfl; exact i0) | (apply OQ.load_old; exact u8c; exact rfl; exact (block_lt_of_cell hc0); exact (by simp); exact hc0) | (apply OQ.eq8Q (b := 61); exact rfl; exact rfl; exact h61) | (apply OQ.move; exact rfl)) rfl ?_ | refine JC.seq ?_ | refine JC.region ?_ | refine JC.skip ?_ | refine JL.nil ?_ | refine JE.next ?_)
        refine JC.cond_false rfl rfl ?_
        have hbl := bkn_le y.l
        have hel := enq_le y.l
        cases hk0 : decide ((0 : Int) < (bkn y.l : Int))
        · have k0 : bkn y.l = 0 := by have := of_decide_eq_false hk0; omega
          have cE := fun w' (hw' : Holds w [] [⟨b, Sl.Own 5 1 o.length cap (o.map U8), true⟩] w') => ending_any y w' (hy.holds hw' rfl)
          repeat (first | refine JL.q (by first | (apply OQ.callx (vs := [y.v]); exact goes_qblanks; exact rfl; exact cK) | (apply OQ.gtrB (b := 0); exact rfl; exact rfl; exact hk0) | (apply OQ.move; exact rfl) | (apply OQ.assign; exact rfl)) rfl ?_ | refine JC.seq ?_ | refine JC.region ?_ | refine JC.skip ?_ | refine JL.nil ?_ | refine JE.next ?_)
          refine JC.cond_false rfl rfl ?_
          cases he0 : decide ((0 : Int) < (enq y.l : Int))
          · have e0 : enq y.l = 0 := by have := of_decide_eq_false he0; omega
            have hstep := dec_one hne n61 k0 e0
            repeat (first | refine JL.q (by first | (apply OQ.callx (vs := [y.v]); exact goes_qending; exact rfl; exact cE) | (apply OQ.gtrB (b := 0); exact rfl; exact rfl; exact he0) | (apply OQ.move; exact rfl) | (apply OQ.assign; exact rfl)) rfl ?_ | refine JC.seq ?_ | refine JC.region ?_ | refine JC.skip ?_ | refine JL.nil ?_ | refine JE.next ?_)
            refine JC.cond_false rfl rfl ?_
            repeat (first | refine JL.q (by first | (apply OQ.idxS1 (i := 0); exact Tryz.underlying22; exact u8s; exact (congrArg some hav); exact rfl; exact i0) | (apply OQ.load_old; exact u8c; exact rfl; exact (block_lt_of_cell hc0); exact (by simp); exact hc0) | (apply OQ.move; exact rfl)) rfl ?_ | refine JC.seq ?_ | refine JC.region ?_ | refine JC.skip ?_ | refine JE.next ?_)
            refine JL.push1 (v := U8 (y.l.getD 0 0)) (xs := o.map U8) (fun b' cap' => [⟨b', Sl.Own 5 1 (o.length + 1) cap' (o.map U8 ++ [U8 (y.l.getD 0 0)]), true⟩]) Tryz.underlying22 u8e rfl rfl rfl rfl (fun _ => rfl) (by intro _ _; repeat (first | exact Repl.here | apply Repl.there)) (by omega) (by omega) rfl rfl fun bl b' cap' => ?_
            repeat (first | refine JL.q (by (apply OQ.assign; exact rfl)) rfl ?_ | refine JC.seq ?_ | refine JC.region ?_ | refine JL.nil ?_ | refine JE.next ?_)
            refine JC.goto ?_
            repeat refine JE.then_goto ?_
            refine JE.jumps_to ⟨false, y, 1, o ++ [y.l.getD 0 0], b', cap'⟩ ⟨⟨hy, hyL, fun _ => i0, (fun h => by cases h), ?_, ?_⟩, ?_⟩ rfl ?_ ?_
            · show (o ++ [y.l.getD 0 0]).length + 2 * (y.l.drop (1)).length ≤ 2 * s.l.length; rw [List.length_append, List.length_drop]; simp only [List.length_cons, List.length_nil]; omega
            · rw [qd_f, ← accQ_acc, ← hstep]; exact hc
            · rw [qd_f, qd_f, List.length_drop (l := x.l), ← hyn, List.length_drop, if_neg Bool.false_ne_true]; omega
            · dsimp only; rw [List.length_append]; exact (by repeat (first | exact SubE.nil | refine SubE.cons _ _ _ rfl ?_))
            · dsimp only; rw [List.length_append, List.map_append]; exact Less.refl _
          · have e0 : 0 < enq y.l := by have := of_decide_eq_true he0; omega
            have hstep := dec_end e0
            repeat (first | refine JL.q (by first | (apply OQ.callx (vs := [y.v]); exact goes_qending; exact rfl; exact cE) | (apply OQ.gtrB (b := 0); exact rfl; exact rfl; exact he0) | (apply OQ.move; exact rfl) | (apply OQ.assign; exact rfl)) rfl ?_ | refine JC.seq ?_ | refine JC.region ?_ | refine JC.skip ?_ | refine JL.nil ?_ | refine JE.next ?_)
            refine JC.cond_true rfl rfl ?_
            repeat (first | refine JL.q (by (apply OQ.move; exact rfl)) rfl ?_ | refine JC.seq ?_ | refine JC.region ?_)
            refine JL.appendS (r := [13, 10]) (xs := o.map U8) (fun b' cap' => [⟨b', Sl.Own 5 1 (o.length + 2) cap' (o.map U8 ++ [13, 10].map U8), true⟩]) Tryz.underlying22 Tryz.underlying9 u8e rfl rfl (by intro _ _; repeat (first | exact Repl.here | apply Repl.there)) (by simp only [List.length_cons, List.length_nil]; omega) rfl fun b' cap' => ?_
            repeat (first | refine JL.q (by (apply OQ.assign; exact rfl)) rfl ?_ | refine JL.nil ?_ | refine JE.next ?_)
            refine JC.goto ?_
            repeat refine JE.then_goto ?_
            refine JE.jumps_to ⟨false, y, enq y.l, o ++ [13, 10], b', cap'⟩ ⟨⟨hy, hyL, fun _ => hel, (fun h => by cases h), ?_, ?_⟩, ?_⟩ rfl ?_ ?_
            · show (o ++ [13, 10]).length + 2 * (y.l.drop (enq y.l)).length ≤ 2 * s.l.length; rw [List.length_append, List.length_drop]; simp only [List.length_cons, List.length_nil]; omega
            · rw [qd_f, ← accQ_acc, ← hstep]; exact hc
            · rw [qd_f, qd_f, List.length_drop (l := x.l), ← hyn, List.length_drop, if_neg Bool.false_ne_true]; omega
            · dsimp only; rw [List.length_append]; exact (by repeat (first | exact SubE.nil | refine SubE.cons _ _ _ rfl ?_))
            · dsimp only; rw [List.length_append, List.map_append]; exact Less.refl _
        · have k0 : 0 < bkn y.l := by have := of_decide_eq_true hk0; omega
          have hstep := dec_blanks n61 k0
          repeat (first | refine JL.q (by first | (apply OQ.callx (vs := [y.v]); exact goes_qblanks; exact rfl; exact cK) | (apply OQ.gtrB (b := 0); exact rfl; exact rfl; exact hk0) | (apply OQ.move; exact rfl) | (apply OQ.assign; exact rfl)) rfl ?_ | refine JC.seq ?_ | refine JC.region ?_ | refine JC.skip ?_ | refine JL.nil ?_ | refine JE.next ?_)
          refine JC.cond_true rfl rfl ?_
          have hz : (y.snd (bkn y.l)).ok w := hy.snd _ hbl
          have cE := fun w' (hw' : Holds w [] [⟨b, Sl.Own 5 1 o.length cap (o.map U8), true⟩] w') => ends_any (y.snd (bkn y.l)) w' (hz.holds hw' rfl)
          rw [show (y.snd (bkn y.l)).l = y.l.drop (bkn y.l) from rfl] at cE
          cases hE : endsq (y.l.drop (bkn y.l))
          · rw [hE, if_neg Bool.false_ne_true] at hstep
            have hT : (y.fst (bkn y.l)).ok w := hy.fst _
            have hTl : (y.fst (bkn y.l)).l = y.l.take (bkn y.l) := rfl
            have hTn : (y.fst (bkn y.l)).l.length = bkn y.l := by rw [hTl, List.length_take]; omega
            repeat (first | refine JL.q (by first | (apply OQ.snd (s := y) (m := bkn y.l); exact Tryz.underlying22; exact u8s; exact rfl; exact rfl; exact hbl) | (apply OQ.callbH (vs := [(y.snd (bkn y.l)).v]); exact goes_qends; exact rfl; exact cE; exact hE) | (apply OQ.not; exact rfl) | (apply OQ.move; exact rfl)) rfl ?_ | refine JC.seq ?_ | refine JC.region ?_ | refine JL.nil ?_ | refine JE.next ?_)
            refine JC.cond_true rfl rfl ?_
            repeat (first | refine JL.q (by first | (apply OQ.fst (s := y) (m := bkn y.l); exact Tryz.underlying22; exact u8s; exact rfl; exact rfl; exact hbl; exact hcap) | (apply OQ.move; exact rfl)) rfl ?_ | refine JC.region ?_)
            rw [← hTl] at hstep
            generalize y.fst (bkn y.l) = T at hT hTl hTn hstep ⊢
            refine JL.append (cs := T.l.map U8) (m := T.l.length) (xs := o.map U8) (fun b' cap' => [⟨b', Sl.Own 5 1 (o.length + T.l.length) cap' (o.map U8 ++ T.l.map U8), true⟩]) Tryz.underlying22 u8e rfl rfl (by intro _ _; repeat (first | exact Repl.here | apply Repl.there)) (by simp) (fun w' hw' => (hT.holds hw' rfl).reads) (fun v hv => by obtain ⟨c, _, rfl⟩ := List.mem_map.1 hv; rfl) rfl (by decide) (by omega) (by omega) rfl fun b' cap' => ?_
            repeat (first | refine JL.q (by (apply OQ.assign; exact rfl)) rfl ?_ | refine JL.nil ?_ | refine JE.next ?_)
            refine JC.goto ?_
            repeat refine JE.then_goto ?_
            refine JE.jumps_to ⟨false, y, bkn y.l, o ++ T.l, b', cap'⟩ ⟨⟨hy, hyL, fun _ => hbl, (fun h => by cases h), ?_, ?_⟩, ?_⟩ rfl ?_ ?_
            · show (o ++ T.l).length + 2 * (y.l.drop (bkn y.l)).length ≤ 2 * s.l.length; rw [List.length_append, List.length_drop]; omega
            · rw [qd_f, ← accQ_acc, ← hstep]; exact hc
            · rw [qd_f, qd_f, List.length_drop (l := x.l), ← hyn, List.length_drop, if_neg Bool.false_ne_true]; omega
            · dsimp only; rw [List.length_append]; exact (by repeat (first | exact SubE.nil | refine SubE.cons _ _ _ rfl ?_))
            · dsimp only; rw [List.length_append, List.map_append]; exact Less.refl _
          · rw [hE, if_pos rfl, accQ_nil] at hstep
            repeat (first | refine JL.q (by first | (apply OQ.snd (s := y) (m := bkn y.l); exact Tryz.underlying22; exact u8s; exact rfl; exact rfl; exact hbl) | (apply OQ.callbH (vs := [(y.snd (bkn y.l)).v]); exact goes_qends; exact rfl; exact cE; exact hE) | (apply OQ.not; exact rfl) | (apply OQ.move; exact rfl)) rfl ?_ | refine JC.seq ?_ | refine JC.region ?_ | refine JL.nil ?_ | refine JE.next ?_)
            refine JC.cond_false rfl rfl ?_
            repeat (first | refine JC.skip ?_ | refine JE.next ?_)
            refine JC.goto ?_
            repeat refine JE.then_goto ?_
            refine JE.jumps_to ⟨false, y, bkn y.l, o, b, cap⟩ ⟨⟨hy, hyL, fun _ => hbl, (fun h => by cases h), ?_, ?_⟩, ?_⟩ rfl (by repeat (first | exact SubE.nil | refine SubE.cons _ _ _ rfl ?_)) (Less.refl _)
            · show o.length + 2 * (y.l.drop (bkn y.l)).length ≤ 2 * s.l.length; rw [List.length_drop]; omega
            · rw [qd_f, ← hstep]; exact hc
            · show 2 * (y.l.drop (bkn y.l)).length + 1 < 2 * (x.l.drop k).length + 1; rw [hxk, List.length_drop]; omega
      · have e61 : y.l.getD 0 0 = 61 := of_decide_eq_true h61
        repeat (first | refine JL.q (by first | (apply OQ.idxS1 (i := 0); exact Tryz.underlying22; exact u8s; exact (congrArg some hav); exact rfl; exact i0) | (apply OQ.load_old; exact u8c; exact rfl; exact (block_lt_of_cell hc0); exact (by simp); exact hc0) | (apply OQ.eq8Q (b := 61); exact rfl; exact rfl; exact h61) | (apply OQ.move; exact rfl)) rfl ?_ | refine JC.seq ?_ | refine JC.region ?_ | refine JC.skip ?_ | refine JL.nil ?_ | refine JE.next ?_)
        refine JC.cond_true rfl rfl ?_
        refine JC.goto (JE.then_goto ?_)
        exact JE.jumps_to ⟨true, y, k, o, b, cap⟩ ⟨⟨hy, hyL, (fun h => by cases h), fun _ => e61, ho, hc⟩, by show 2 * y.l.length + 0 < 2 * (x.l.drop k).length + 1; rw [hxk]; omega⟩ rfl (by repeat (first | exact SubE.nil | refine SubE.cons _ _ _ rfl ?_)) (Less.refl _)
    · have e0 : y.l = [] := List.eq_nil_of_length_eq_zero (by have := of_decide_eq_true h0; omega)
      rw [e0] at hc
      rw [show decQ s.l = some o by rw [hc]; show some (o ++ []) = _; rw [List.append_nil]]
      repeat (first | refine JL.q (by (apply OQ.eqB (b := 0); exact rfl; exact rfl; exact h0)) rfl ?_ | refine JL.nil ?_ | refine JE.next ?_)
      refine JC.cond_true rfl rfl ?_
      repeat (first | refine JL.q (by first | (apply OQ.move; exact rfl) | (apply OQ.assign; exact rfl)) rfl ?_ | refine JC.seq ?_ | refine JC.region ?_ | refine JL.nil ?_ | refine JE.next ?_)
      refine JC.ret (JE.then_ret (JE.jumps_ret ?_))
      exact JE.ret2 rfl (RV.tmp rfl) (RV.tmp rfl) fun w' hw => ⟨⟨some ⟨b, 0, none⟩, cap, o⟩, rfl, ⟨rfl, nofun⟩, hw.weak (own_less rfl)⟩
  · rintro ⟨esc, x, k, o, b, cap⟩ he ⟨hx, hxl, -, h61, ho, hc⟩
    obtain rfl : esc = true := he
    rw [qd_t] at ho hc
    replace h61 := h61 rfl
    dsimp only at hx hxl h61 ho hc ⊢
    have hne : x.l ≠ [] := fun h => by rw [h] at h61; cases h61
    have i0 : 0 < x.l.length := List.length_pos_iff.2 hne
    have hcap := hx.len
    have cX := fun w' (hw' : Holds w [] [⟨b, Sl.Own 5 1 o.length cap (o.map U8), true⟩] w') => esc_any x w' (hx.holds hw' rfl)
    cases hh : hexs x.l
    · have hy : (x.snd 1).ok w := hx.snd 1 i0
      have hyl : (x.snd 1).l = x.l.drop 1 := rfl
      have hyn : (x.snd 1).l.length = x.l.length - 1 := by rw [hyl, List.length_drop]
      have hbl := bkn_le (x.snd 1).l
      have hm : 1 + bkn (x.snd 1).l ≤ x.l.length := by omega
      have hz : (x.snd (1 + bkn (x.snd 1).l)).ok w := hx.snd _ hm
      have hzl : (x.snd (1 + bkn (x.snd 1).l)).l = x.l.drop (1 + bkn (x.l.drop 1)) := rfl
      have hzn : (x.snd (1 + bkn (x.snd 1).l)).l.length = x.l.length - (1 + bkn (x.snd 1).l) := by rw [hzl, List.length_drop]; rfl
      have hel := enq_le (x.snd (1 + bkn (x.snd 1).l)).l
      have eS : softQ x.l = if endsq (x.snd (1 + bkn (x.snd 1).l)).l then some (1 + bkn (x.snd 1).l + enq (x.snd (1 + bkn (x.snd 1).l)).l) else none := rfl
      have cK := fun w' (hw' : Holds w [] [⟨b, Sl.Own 5 1 o.length cap (o.map U8), true⟩] w') => blanks_any (x.snd 1) w' (hy.holds hw' rfl) (by omega)
      clear hyl hzl
      generalize bkn (x.snd 1).l = j at *
      generalize hyE : x.snd 1 = y at *
      have cE := fun w' (hw' : Holds w [] [⟨b, Sl.Own 5 1 o.length cap (o.map U8), true⟩] w') => ends_any (x.snd (1 + j)) w' (hz.holds hw' rfl)
      have cN := fun w' (hw' : Holds w [] [⟨b, Sl.Own 5 1 o.length cap (o.map U8), true⟩] w') => ending_any (x.snd (1 + j)) w' (hz.holds hw' rfl)
      generalize hzE : x.snd (1 + j) = z at *
      generalize hE : endsq z.l = ee at eS cE
      generalize enq z.l = q at *
      repeat (first | refine JL.q (by first | (apply OQ.callx (vs := [x.v]); exact goes_qesc; exact rfl; exact cX) | (apply OQ.extract; exact rfl; exact rfl) | (apply OQ.move; exact rfl) | (apply OQ.assign; exact rfl)) rfl ?_ | refine JC.seq ?_ | refine JC.region ?_ | refine JL.nil ?_ | refine JE.next ?_)
      refine JC.cond_false rfl (by rw [hh]; rfl) ?_
      repeat (first | refine JL.q (by first | (apply OQ.to; exact (OQ.snd (s := x) (m := 1) Tryz.underlying22 u8s rfl rfl i0); exact (congrArg Sl8.v hyE)) | (apply OQ.callx (vs := [y.v]); exact goes_qblanks; exact rfl; exact cK) | (apply OQ.addN (a := 1); exact rfl; exact rfl; exact (by omega)) | (apply OQ.move; exact rfl) | (apply OQ.assign; exact rfl)) rfl ?_ | refine JC.seq ?_ | refine JC.region ?_ | refine JC.skip ?_ | refine JL.nil ?_ | refine JE.next ?_)
      cases ee
      · rw [if_neg Bool.false_ne_true] at eS
        rw [dec_bad h61 hh eS] at hc
        rw [hc]
        repeat (first | refine JL.q (by first | (apply OQ.to; exact (OQ.snd (s := x) (m := 1 + j) Tryz.underlying22 u8s rfl rfl hm); exact (congrArg Sl8.v hzE)) | (apply OQ.callbH (vs := [z.v]); exact goes_qends; exact rfl; exact cE; exact rfl) | (apply OQ.not; exact rfl)) rfl ?_ | refine JL.nil ?_ | refine JE.next ?_)
        refine JC.cond_true rfl rfl ?_
        repeat (first | refine JL.q (by (apply OQ.assign; exact rfl)) rfl ?_ | refine JC.seq ?_ | refine JC.region ?_ | refine JL.nil ?_ | refine JE.next ?_)
        refine JC.ret (JE.then_ret (JE.jumps_ret ?_))
        exact JE.ret2 rfl (RV.tmp rfl) (RV.tmp rfl) fun w' hw => ⟨nilS, rfl, ⟨rfl, fun _ => rfl⟩, hw.weak (.drop _ _ _ (Less.refl _))⟩
      · rw [if_pos rfl] at eS
        rw [dec_soft h61 hh eS] at hc
        repeat (first | refine JL.q (by first | (apply OQ.to; exact (OQ.snd (s := x) (m := 1 + j) Tryz.underlying22 u8s rfl rfl hm); exact (congrArg Sl8.v hzE)) | (apply OQ.callbH (vs := [z.v]); exact goes_qends; exact rfl; exact cE; exact rfl) | (apply OQ.not; exact rfl)) rfl ?_ | refine JL.nil ?_ | refine JE.next ?_)
        refine JC.cond_false rfl rfl ?_
        repeat (first | refine JL.q (by first | (apply OQ.to; exact (OQ.snd (s := x) (m := 1 + j) Tryz.underlying22 u8s rfl rfl hm); exact (congrArg Sl8.v hzE)) | (apply OQ.callx (vs := [z.v]); exact goes_qending; exact rfl; exact cN) | (apply OQ.move; exact rfl) | (apply OQ.assign; exact rfl) | (apply OQ.addN; exact rfl; exact rfl; exact (by (try simp only []); omega))) rfl ?_ | refine JC.seq ?_ | refine JC.region ?_ | refine JC.skip ?_ | refine JL.nil ?_ | refine JE.next ?_)
        refine JC.goto ?_
        repeat refine JE.then_goto ?_
        refine JE.jumps_to ⟨false, x, 1 + j + q, o, b, cap⟩ ⟨⟨hx, hxl, fun _ => by dsimp only; omega, (fun h => by cases h), ?_, hc⟩, ?_⟩ rfl (by repeat (first | exact SubE.nil | refine SubE.cons _ _ _ rfl ?_)) (Less.refl _)
        · show o.length + 2 * (x.l.drop (1 + j + q)).length ≤ 2 * s.l.length; rw [List.length_drop]; omega
        · show 2 * (x.l.drop (1 + j + q)).length + 1 < 2 * x.l.length + 0; rw [List.length_drop]; omega
    · next c =>
      have h3 : 3 ≤ x.l.length := by
        unfold hexs at hh
        split at hh
        · next h => exact h.1
        · cases hh
      have hstep := dec_hex h61 hh
      rw [hh] at cX
      repeat (first | refine JL.q (by first | (apply OQ.callx (vs := [x.v]); exact goes_qesc; exact rfl; exact cX) | (apply OQ.extract; exact rfl; exact rfl) | (apply OQ.move; exact rfl) | (apply OQ.assign; exact rfl)) rfl ?_ | refine JC.seq ?_ | refine JC.region ?_ | refine JL.nil ?_ | refine JE.next ?_)
      refine JC.cond_true rfl rfl ?_
      repeat (first | refine JL.q (by (apply OQ.move; exact rfl)) rfl ?_ | refine JC.seq ?_ | refine JC.region ?_)
      refine JL.push1 (v := U8 c) (xs := o.map U8) (fun b' cap' => [⟨b', Sl.Own 5 1 (o.length + 1) cap' (o.map U8 ++ [U8 c]), true⟩]) Tryz.underlying22 u8e rfl rfl rfl rfl (fun _ => rfl) (by intro _ _; repeat (first | exact Repl.here | apply Repl.there)) (by omega) (by omega) rfl rfl fun bl b' cap' => ?_
      repeat (first | refine JL.q (by (apply OQ.assign; exact rfl)) rfl ?_ | refine JC.seq ?_ | refine JC.region ?_ | refine JL.nil ?_ | refine JE.next ?_)
      refine JC.goto ?_
      repeat refine JE.then_goto ?_
      refine JE.jumps_to ⟨false, x, 3, o ++ [c], b', cap'⟩ ⟨⟨hx, hxl, fun _ => h3, (fun h => by cases h), ?_, ?_⟩, ?_⟩ rfl ?_ ?_
      · show (o ++ [c]).length + 2 * (x.l.drop 3).length ≤ 2 * s.l.length; rw [List.length_append, List.length_drop]; simp only [List.length_cons, List.length_nil]; omega
      · rw [qd_f, ← accQ_acc, ← hstep]; exact hc
      · show 2 * (x.l.drop 3).length + 1 < 2 * x.l.length + 0; rw [List.length_drop]; omega
      · dsimp only; rw [List.length_append]; exact (by repeat (first | exact SubE.nil | refine SubE.cons _ _ _ rfl ?_))
      · dsimp only; rw [List.length_append, List.map_append]; exact Less.refl _
  · intro hp
    refine JC.seq (JC.region ?_)
    repeat (refine JL.q (by first | (apply OQ.move; exact rfl) | (apply OQ.len; exact rfl; exact rfl)) rfl ?_)
    refine JL.make0 (c := s.l.length) Tryz.underlying22 u8e rfl rfl (by omega) rfl fun b0 _ => ?_
    repeat (refine JL.q (by (apply OQ.assign; exact rfl)) rfl ?_)
    refine JL.nil (JE.next ?_)
    refine JC.seq (JC.region ?_)
    repeat (refine JL.q (by (apply OQ.assign; exact rfl)) rfl ?_)
    refine JL.nil (JE.next ?_)
    refine JC.seq (JC.label (JE.next ?_))
    exact (hp ⟨false, s, 0, [], b0, s.l.length⟩ rfl ⟨hs, Nat.le_refl _, fun _ => Nat.zero_le _, (fun h => by cases h), by rw [qd_f]; simp, by rw [qd_f, accQ_nil]; rfl⟩).weak (by repeat (first | exact SubE.nil | refine SubE.cons _ _ _ rfl ?_)) (Less.refl _)
end Go.Proofs.YtbbmhkdfdgnkpaaGreatDoor

/-
  Of no statement by itself: how the landed token reads values: comments, quoted texts, runs of bytes, ids: pure; no program stands here.
  Conditions: none but each lemma's own.
-/
namespace Go.Proofs.YtbbmhkdfdgnkpaaGreatDoor
namespace Tok
open Fld
/-! ### comments: what is left of one, so many begun in it, so many bytes behind -/
def commR : List Fld.By → Nat → Nat → Except Nat Nat
  | [], _, _ => .error 3
  | c :: r, d, k =>
    if c = 40 then (if 8 < d then .error 5 else commR r (d + 1) (k + 1))
    else if c = 41 then (if d - 1 = 0 then .ok (k + 1) else commR r (d - 1) (k + 1))
    else if c = 92 then
      match r with
      | [] => .error 3
      | _ :: r' => commR r' d (k + 2)
    else commR r d (k + 1)
theorem comm_40 (r : List Fld.By) (d k : Nat) : commR (40 :: r) d k = if 8 < d then .error 5 else commR r (d + 1) (k + 1) := by
  rw [commR.eq_def]; rfl
theorem comm_41 (r : List Fld.By) (d k : Nat) : commR (41 :: r) d k = if d - 1 = 0 then .ok (k + 1) else commR r (d - 1) (k + 1) := by
  rw [commR.eq_def]; rfl
theorem comm_92e (d k : Nat) : commR [92] d k = .error 3 := by rw [commR.eq_def]; rfl
theorem comm_92 (c : Fld.By) (r : List Fld.By) (d k : Nat) : commR (92 :: c :: r) d k = commR r d (k + 2) := by
  conv => lhs; rw [commR.eq_def]
  rfl
theorem comm_c {c : Fld.By} (h1 : ¬ c = 40) (h2 : ¬ c = 41) (h3 : ¬ c = 92) (r : List Fld.By) (d k : Nat) : commR (c :: r) d k = commR r d (k + 1) := by
  conv => lhs; rw [commR.eq_def]
  dsimp only
  rw [if_neg h1, if_neg h2, if_neg h3]
theorem comm_e (d k : Nat) : commR [] d k = .error 3 := by rw [commR.eq_def]
/-- a comment is one blank -/
theorem comm_bare : ∀ (n : Nat) (r : List Fld.By) (d k : Nat) (o : List Fld.By), r.length ≤ n → 0 < d →
    (∀ e, commR r d k = .error e → bareR r d false o = ([], e)) ∧ (∀ m, commR r d k = .ok m → k < m ∧ m ≤ k + r.length ∧ bareR r d false o = bareR (r.drop (m - k)) 0 false (o ++ [32])) := by
  intro n
  induction n with
  | zero =>
    intro r d k o h hd
    obtain rfl : r = [] := List.eq_nil_of_length_eq_zero (by omega)
    rw [comm_e, bare_end]
    refine ⟨fun e he => ?_, fun m hm => by cases hm⟩
    cases he
    rw [decide_eq_true (by omega), Bool.true_or, if_pos rfl]
  | succ n ih =>
    intro r d k o h hd
    match r, h with
    | [], _ =>
      rw [comm_e, bare_end]
      refine ⟨fun e he => ?_, fun m hm => by cases hm⟩
      cases he
      rw [decide_eq_true (by omega), Bool.true_or, if_pos rfl]
    | c :: r, h =>
      simp only [List.length_cons] at h ⊢
      have step : ∀ (r' : List Fld.By) (j d' : Nat) (o' : List Fld.By), r'.length ≤ n → 0 < d' → (∀ x, (c :: r).drop (j + x) = r'.drop x) → j + r'.length = r.length + 1 → 0 < j → o' = o → bareR (c :: r) d false o = bareR r' d' false o' →
          commR (c :: r) d k = commR r' d' (k + j) →
          (∀ e, commR (c :: r) d k = .error e → bareR (c :: r) d false o = ([], e)) ∧ (∀ m, commR (c :: r) d k = .ok m → k < m ∧ m ≤ k + (r.length + 1) ∧ bareR (c :: r) d false o = bareR ((c :: r).drop (m - k)) 0 false (o ++ [32])) := by
        intro r' j d' o' hl hd' hdr hjl hj ho hb hc
        subst ho
        obtain ⟨i1, i2⟩ := ih r' d' (k + j) o' hl hd'
        rw [hb, hc]
        refine ⟨i1, fun m hm => ?_⟩
        obtain ⟨a1, a2, a3⟩ := i2 m hm
        refine ⟨by omega, by omega, ?_⟩
        rw [a3, show m - k = j + (m - (k + j)) by omega, hdr]
      by_cases h40 : c = 40
      · subst h40
        by_cases h8 : 8 < d
        · rw [comm_40, if_pos h8]
          refine ⟨fun e he => ?_, fun m hm => by cases hm⟩
          cases he
          rw [bare_40, if_pos (by omega)]
        · exact step r 1 (d + 1) o (by omega) (by omega) (fun x => by rw [Nat.add_comm]; rfl) (by omega) (by omega) rfl (by rw [bare_40, if_neg (by omega)]) (by rw [comm_40, if_neg h8])
      · by_cases h41 : c = 41
        · subst h41
          by_cases h1 : d - 1 = 0
          · rw [comm_41, if_pos h1]
            refine ⟨fun e he => by (cases he), fun m hm => ?_⟩
            cases hm
            refine ⟨by omega, by omega, ?_⟩
            rw [bare_41, if_neg (by omega), if_pos h1, h1, show k + 1 - k = 1 by omega]
            rfl
          · exact step r 1 (d - 1) o (by omega) (by omega) (fun x => by rw [Nat.add_comm]; rfl) (by omega) (by omega) rfl (by rw [bare_41, if_neg (by omega), if_neg h1]) (by rw [comm_41, if_neg h1])
        · by_cases h92 : c = 92
          · subst h92
            match r, h with
            | [], _ =>
              rw [comm_92e, bare_d92e hd]
              exact ⟨fun e he => by cases he; rfl, fun m hm => by cases hm⟩
            | c2 :: r, h =>
              simp only [List.length_cons] at h
              exact step r 2 d o (by omega) hd (fun x => by rw [Nat.add_comm]; rfl) (by simp only [List.length_cons]; omega) (by omega) rfl (bare_d92 hd c2 r o) (comm_92 c2 r d k)
          · exact step r 1 d o (by omega) hd (fun x => by rw [Nat.add_comm]; rfl) (by omega) (by omega) rfl (bare_s h92 h40 h41 (by omega) r o) (comm_c h40 h41 h92 r d k)
/-! ### quoted texts: behind their first sign, where they end; 0, if they don't -/
def quotR : List Fld.By → Nat → Nat
  | [], _ => 0
  | c :: r, k =>
    if c = 92 then
      match r with
      | [] => 0
      | _ :: r' => quotR r' (k + 2)
    else if c = 34 then k + 1 else quotR r (k + 1)
theorem quot_e (k : Nat) : quotR [] k = 0 := by rw [quotR.eq_def]
theorem quot_34 (r : List Fld.By) (k : Nat) : quotR (34 :: r) k = k + 1 := by rw [quotR.eq_def]; rfl
theorem quot_92e (k : Nat) : quotR [92] k = 0 := by rw [quotR.eq_def]; rfl
theorem quot_92 (c : Fld.By) (r : List Fld.By) (k : Nat) : quotR (92 :: c :: r) k = quotR r (k + 2) := by
  conv => lhs; rw [quotR.eq_def]
  rfl
theorem quot_c {c : Fld.By} (h1 : ¬ c = 34) (h2 : ¬ c = 92) (r : List Fld.By) (k : Nat) : quotR (c :: r) k = quotR r (k + 1) := by
  conv => lhs; rw [quotR.eq_def]
  dsimp only
  rw [if_neg h2, if_neg h1]
theorem quot_bare : ∀ (n : Nat) (r : List Fld.By) (k : Nat) (o : List Fld.By), r.length ≤ n →
    (quotR r k = 0 → bareR r 0 true o = ([], 3)) ∧ (quotR r k ≠ 0 → k < quotR r k ∧ quotR r k ≤ k + r.length ∧ bareR r 0 true o = bareR (r.drop (quotR r k - k)) 0 false (o ++ r.take (quotR r k - k))) := by
  intro n
  induction n with
  | zero =>
    intro r k o h
    obtain rfl : r = [] := List.eq_nil_of_length_eq_zero (by omega)
    rw [quot_e, bare_end]
    exact ⟨fun _ => rfl, fun h => absurd rfl h⟩
  | succ n ih =>
    intro r k o h
    match r, h with
    | [], _ =>
      rw [quot_e, bare_end]
      exact ⟨fun _ => rfl, fun h => absurd rfl h⟩
    | c :: r, h =>
      simp only [List.length_cons] at h ⊢
      by_cases h92 : c = 92
      · subst h92
        match r, h with
        | [], _ =>
          rw [quot_92e, bare_q92e]
          exact ⟨fun _ => rfl, fun h => absurd rfl h⟩
        | c2 :: r, h =>
          simp only [List.length_cons] at h ⊢
          obtain ⟨i1, i2⟩ := ih r (k + 2) (o ++ [92] ++ [c2]) (by omega)
          rw [quot_92, bare_q92]
          refine ⟨i1, fun hn => ?_⟩
          obtain ⟨a1, a2, a3⟩ := i2 hn
          refine ⟨by omega, by omega, ?_⟩
          rw [a3, show quotR r (k + 2) - k = (quotR r (k + 2) - (k + 2)) + 1 + 1 by omega, List.drop_succ_cons, List.drop_succ_cons, List.take_succ_cons, List.take_succ_cons]
          simp
      · by_cases h34 : c = 34
        · subst h34
          rw [quot_34]
          refine ⟨fun h => absurd h (by omega), fun _ => ⟨by omega, by omega, ?_⟩⟩
          rw [bare_q (by decide), show k + 1 - k = 0 + 1 by omega, List.drop_succ_cons, List.take_succ_cons]
          rfl
        · obtain ⟨i1, i2⟩ := ih r (k + 1) (o ++ [c]) (by omega)
          rw [quot_c h34 h92, bare_q h92]
          have hb : (!(c == 34)) = true := by
            rw [Bool.not_eq_true', beq_eq_false_iff_ne]
            exact h34
          rw [hb]
          refine ⟨i1, fun hn => ?_⟩
          obtain ⟨a1, a2, a3⟩ := i2 hn
          refine ⟨by omega, by omega, ?_⟩
          rw [a3, show quotR r (k + 1) - k = (quotR r (k + 1) - (k + 1)) + 1 by omega, List.drop_succ_cons, List.take_succ_cons]
          simp
/-! ### one step of Bare -/
theorem step_comm {r : List Fld.By} {e : Nat} (o : List Fld.By) (h : commR (40 :: r) 0 0 = .error e) : bareR (40 :: r) 0 false o = ([], e) := by
  rw [comm_40, if_neg (by omega)] at h
  rw [bare_40, if_neg (by omega)]
  exact (comm_bare r.length r 1 1 o (Nat.le_refl _) (by omega)).1 e h
theorem step_comm_ok {r : List Fld.By} {m : Nat} (o : List Fld.By) (h : commR (40 :: r) 0 0 = .ok m) : 0 < m ∧ m ≤ r.length + 1 ∧ bareR (40 :: r) 0 false o = bareR ((40 :: r).drop m) 0 false (o ++ [32]) := by
  rw [comm_40, if_neg (by omega)] at h
  rw [bare_40, if_neg (by omega)]
  obtain ⟨h1, h2, h3⟩ := (comm_bare r.length r 1 1 o (Nat.le_refl _) (by omega)).2 m h
  refine ⟨by omega, by omega, ?_⟩
  rw [h3]
  obtain ⟨m', rfl⟩ : ∃ m', m = m' + 1 := ⟨m - 1, by omega⟩
  rfl
theorem step_quot {r : List Fld.By} (o : List Fld.By) (h : quotR r 1 = 0) : bareR (34 :: r) 0 false o = ([], 3) := by
  rw [bare_0 (by decide) (by decide)]
  exact (quot_bare r.length r 1 _ (Nat.le_refl _)).1 h
theorem step_quot_ok {r : List Fld.By} (o : List Fld.By) (h : quotR r 1 ≠ 0) : 1 < quotR r 1 ∧ quotR r 1 ≤ r.length + 1 ∧ bareR (34 :: r) 0 false o = bareR ((34 :: r).drop (quotR r 1)) 0 false (o ++ (34 :: r).take (quotR r 1)) := by
  rw [bare_0 (by decide) (by decide)]
  obtain ⟨h1, h2, h3⟩ := (quot_bare r.length r 1 (o ++ [34]) (Nat.le_refl _)).2 h
  refine ⟨h1, by omega, ?_⟩
  show bareR r 0 true (o ++ [34]) = _
  rw [h3]
  generalize quotR r 1 = m at h1 ⊢
  obtain ⟨m', rfl⟩ : ∃ m', m = m' + 1 := ⟨m - 1, by omega⟩
  simp
/-! ### runs of bytes -/
def runB (p : Fld.By → Bool) (s : List Fld.By) : Nat := (s.takeWhile p).length
theorem runB_le (p : Fld.By → Bool) (s : List Fld.By) : runB p s ≤ s.length := (List.takeWhile_sublist _).length_le
theorem runB_cons (p : Fld.By → Bool) (c : Fld.By) (s : List Fld.By) : runB p (c :: s) = if p c then runB p s + 1 else 0 := by
  unfold runB
  rw [List.takeWhile_cons]
  cases p c <;> simp
theorem runB_take (p : Fld.By → Bool) : ∀ s : List Fld.By, s.take (runB p s) = s.takeWhile p
  | [] => rfl
  | c :: s => by
    rw [runB_cons, List.takeWhile_cons]
    cases p c with
    | true => simp [runB_take p s]
    | false => simp
theorem runB_drop (p : Fld.By → Bool) : ∀ s : List Fld.By, s.drop (runB p s) = s.dropWhile p
  | [] => rfl
  | c :: s => by
    rw [runB_cons, List.dropWhile_cons]
    cases p c with
    | true => simp [runB_drop p s]
    | false => simp
theorem runB_all (p : Fld.By → Bool) : ∀ s : List Fld.By, (runB p s = s.length) ↔ s.all p = true
  | [] => by simp [runB]
  | c :: s => by
    rw [runB_cons, List.all_cons, List.length_cons]
    have ih := runB_all p s
    cases p c with
    | true => simpa using ih
    | false => simp
theorem atom_run (s : List Fld.By) : atomB s = (decide (s ≠ []) && decide (runB plainB s = s.length)) := by
  unfold atomB
  rw [Bool.eq_iff_iff, Bool.and_eq_true, Bool.and_eq_true, decide_eq_true_eq, decide_eq_true_eq, decide_eq_true_eq, runB_all, List.length_pos_iff]
  exact and_comm
/-! ### ids -/
end Tok
end Go.Proofs.YtbbmhkdfdgnkpaaGreatDoor

/-
  Of no statement by itself: what the landed token's printed, run, made and Atom give.
  Conditions: each theorem's own.
-/
namespace Go.Proofs.YtbbmhkdfdgnkpaaGreatDoor
set_option maxRecDepth 10000
open Sl Fld Tok
theorem OQ.eq8T {P : Program} {n : Nat} {E : Env} {C : World → Prop} {dst : Option Tmp} {t t' ty : TypeId} {pos : String} {aft : Array Edge} {g : Option (Nat × Bool)} {x y : Operand} {a b : BitVec 8} {c : Bool} (hx : ev E x = some (U8 a)) (hy : ev E y = some (U8 b)) (h : decide (a = b) = c) : OQ P n E C ⟨dst, .binOp .eql t x y t', ty, pos, aft, g⟩ (.bool c) := h ▸ OQ.eq8 hx hy
theorem strC1 : scal Tryz.prog 9 = true := by kernel_rfl
/-! ### printed signs, but some -/
def prB (but : List Fld.By) (c : Fld.By) : Bool := (decide ((33 : Int) ≤ (c.toNat : Int)) && decide ((c.toNat : Int) ≤ 126)) && decide (ixC c but < 0)
def notAtom : List Fld.By := [40, 41, 60, 62, 64, 44, 59, 92, 34, 91, 93, 61, 47, 58, 63, 46]
def notWord : List Fld.By := [40, 41, 60, 62, 64, 44, 59, 92, 34, 91, 93, 61]
theorem prB_atom : prB notAtom = plainB := by
  funext c
  have h : ∀ c : Fin 256, prB notAtom (BitVec.ofNat 8 c.val) = plainB (BitVec.ofNat 8 c.val) := by decide +kernel
  simpa using h ⟨c.toNat, c.isLt⟩
theorem prB_word : prB notWord = looseB := by
  funext c
  have h : ∀ c : Fin 256, prB notWord (BitVec.ofNat 8 c.val) = looseB (BitVec.ofNat 8 c.val) := by decide +kernel
  simpa using h ⟨c.toNat, c.isLt⟩
theorem goes_printed : Goes Tryz.prog 78 := ⟨_, Tryz.func78, rfl, by kernel_rfl⟩
theorem goes_printed1 : Goes Tryz.prog 112 := ⟨_, Tryz.func112, rfl, by kernel_rfl⟩
theorem goes_run : Goes Tryz.prog 75 := ⟨_, Tryz.func75, rfl, by kernel_rfl⟩
theorem goes_made : Goes Tryz.prog 77 := ⟨_, Tryz.func77, rfl, by kernel_rfl⟩
theorem goes_atomA : Goes Tryz.prog 55 := ⟨_, Tryz.func55, rfl, by kernel_rfl⟩
theorem goes_comment : Goes Tryz.prog 121 := ⟨_, Tryz.func121, rfl, by kernel_rfl⟩
theorem goes_quoted : Goes Tryz.prog 122 := ⟨_, Tryz.func122, rfl, by kernel_rfl⟩
theorem goes_bareA : Goes Tryz.prog 90 := ⟨_, Tryz.func90, rfl, by kernel_rfl⟩
set_option maxHeartbeats 4000000 in
theorem printed1_any (but : List Fld.By) (b : Nat) (c : Bt) (w : World) (hc : w.cell? ⟨b, 0, none⟩ = some (Z but)) : Calls Tryz.prog 112 [U8 c, Pt b 0].toArray w fun e w' => e = .returned (.bool (prB but c)) ∧ Ext w w' := by
  refine enter (n := 16) Tryz.func112 rfl rfl rfl (Holds.start w []) ?_
  unfold prB
  cases h1 : decide ((33 : Int) ≤ (c.toNat : Int)) <;> cases h2 : decide ((c.toNat : Int) ≤ 126) <;> cases h3 : decide (ixC c but < 0)
  all_goals (repeat (first | refine JL.q (by first | (apply OQ.geqB (b := 33); exact rfl; exact rfl; exact h1) | (apply OQ.leqB (b := 126); exact rfl; exact rfl; exact h2) | (apply OQ.load_old; exact strC1; exact rfl; exact (block_lt_of_cell hc); exact (by simp); exact hc) | (apply OQ.callx (vs := [Z but, U8 c]); exact goes_idxb; exact rfl; exact (fun w' _ => idxb_any but c w')) | (apply OQ.lssB (b := 0); exact rfl; exact rfl; exact h3) | (apply OQ.pick_t; exact rfl; exact rfl) | (apply OQ.pick_f; exact rfl; exact rfl) | (apply OQ.move; exact rfl) | (apply OQ.assign; exact rfl)) rfl ?_ | refine JC.seq ?_ | refine JC.region ?_ | refine JL.nil ?_ | refine JE.next ?_ | refine JL.gon rfl rfl ?_ | refine JL.gskip rfl rfl rfl rfl ?_))
  all_goals exact JC.ret (JE.ret1 rfl (RV.tmp rfl) fun w' hw => ⟨rfl, hw.chg⟩)
/-- the function value that tells printed signs -/
@[reducible] def prF (b : Nat) : Value := .func (.func 112) #[] [Pt b 0].toArray
theorem fun_printed {w0 w : World} {S : List Nat} {M : List Ent} {b : Nat} {but : List Fld.By} {wr : Bool} (hw : Holds w0 S M w) (hM : Has M b (Row 9 [Z but]) wr) : Fun8 Tryz.prog w (prF b) (prB but) := by
  refine ⟨_, [Pt b 0], rfl, goes_printed1, fun c w' hx => printed1_any but b c w' ?_⟩
  obtain ⟨o, ho, hA⟩ := hw.get hM
  have hlt : b < w.heap.size := hw.lt hM.mem
  exact cell_of ((hx.block b hlt (by simp)).trans ho) (Row.cell rfl o hA)
theorem printed_any (but : List Fld.By) (w : World) : Calls Tryz.prog 78 [Z but].toArray w fun e w' => ∃ b, e = .returned (prF b) ∧ Holds w [] [⟨b, Row 9 [Z but], true⟩] w' := by
  refine enter (n := 4) Tryz.func78 rfl rfl rfl (Holds.start w []) ?_
  refine JC.seq (JC.region (JL.box (r := [Z but]) rfl rfl rfl fun b _ => ?_))
  repeat (first | refine JL.q (by first | (apply OQ.mkF (caps := [Pt b 0]); exact rfl) | (apply OQ.assign; exact rfl)) rfl ?_ | refine JC.seq ?_ | refine JC.region ?_ | refine JL.nil ?_ | refine JE.next ?_)
  exact JC.ret (JE.ret1 rfl (RV.tmp rfl) fun w' hw => ⟨b, rfl, hw⟩)
set_option maxHeartbeats 4000000 in
theorem run_any (s : List Bt) (fv : Value) (p : Bt → Bool) (w : World) (hF : Fun8 Tryz.prog w fv p) (hl : s.length < 9223372036854775808) : Calls Tryz.prog 75 [Z s, fv].toArray w fun e w' => e = .returned (N (runB p s)) ∧ Ext w w' := by
  refine enter (n := 21) Tryz.func75 rfl rfl rfl (Holds.start w []) ?_
  repeat (first | refine JL.q (by first | (apply OQ.lenS; exact Tryz.underlying9; exact rfl) | (apply OQ.move; exact rfl) | (apply OQ.assign; exact rfl)) rfl ?_ | refine JC.seq ?_ | refine JC.region ?_ | refine JC.block ?_ | refine JL.nil ?_ | refine JE.next ?_)
  refine JC.loop (fun i : Nat => [(0, Z s), (1, fv), (7, N s.length), (8, N i)]) (fun _ => []) (fun i => s.length - i) (fun i => i ≤ s.length ∧ runB p s = i + runB p (s.drop i)) 0 ⟨Nat.zero_le _, by simp⟩ (by repeat (first | exact SubE.nil | refine SubE.cons _ _ _ rfl ?_)) (Less.refl _) ?_
  rintro i ⟨hi, ha⟩
  repeat (first | refine JL.q (by (apply OQ.lssN; exact rfl; exact rfl)) rfl ?_ | refine JC.seq ?_ | refine JC.region ?_ | refine JL.nil ?_ | refine JE.next ?_)
  refine JC.cond rfl (fun h => ?_) (fun h => ?_)
  · have hi' : i < s.length := of_decide_eq_true h
    clear h hi
    have hd : s.drop i = s.getD i 0 :: s.drop (i + 1) := by rw [List.drop_eq_getElem_cons hi', List.getD_eq_getElem?_getD, List.getElem?_eq_getElem hi']; rfl
    rw [hd, runB_cons] at ha
    have i0 := fun {n : Nat} {E : Env} {C : World → Prop} {dst : Option Tmp} {ty : TypeId} {pos : String} {aft : Array Edge} {g : Option (Nat × Bool)} {x y : Operand} => idxAt10 hi' (n := n) (E := E) (C := C) (dst := dst) (ty := ty) (pos := pos) (aft := aft) (g := g) (x := x) (y := y)
    generalize s.getD i 0 = c at ha i0
    cases h1 : p c
    · rw [h1, if_neg (by decide), Nat.add_zero] at ha
      rw [ha]
      repeat (first | refine JL.q (by first | (apply i0; exact rfl; exact rfl) | (apply OQ.callF; exact hF; exact rfl; exact rfl; exact h1) | (apply OQ.not; exact rfl) | (apply OQ.move; exact rfl) | (apply OQ.assign; exact rfl)) rfl ?_ | refine JC.seq ?_ | refine JC.region ?_ | refine JC.block ?_ | refine JC.skip ?_ | refine JL.nil ?_ | refine JE.next ?_)
      refine JC.cond rfl (fun _ => ?_) (fun h => by cases h)
      repeat (first | refine JL.q (by first | (apply OQ.move; exact rfl) | (apply OQ.assign; exact rfl)) rfl ?_ | refine JC.seq ?_ | refine JC.region ?_ | refine JL.nil ?_ | refine JE.next ?_)
      refine JC.ret ?_
      repeat (first | refine JE.then_ret ?_ | refine JE.blk_ret ?_)
      exact JE.ret1 rfl (RV.tmp rfl) fun w' hw => ⟨rfl, hw.chg⟩
    · rw [h1, if_pos rfl] at ha
      repeat (first | refine JL.q (by first | (apply i0; exact rfl; exact rfl) | (apply OQ.callF; exact hF; exact rfl; exact rfl; exact h1) | (apply OQ.not; exact rfl) | (apply OQ.move; exact rfl) | (apply OQ.assign; exact rfl)) rfl ?_ | refine JC.seq ?_ | refine JC.region ?_ | refine JC.block ?_ | refine JC.skip ?_ | refine JL.nil ?_ | refine JE.next ?_)
      refine JC.cond rfl (fun h => by cases h) (fun _ => ?_)
      repeat (first | refine JL.q (by first | (apply OQ.move; exact rfl) | (apply OQ.addN; exact rfl; exact rfl; exact (by (try simp only []); omega))) rfl ?_ | refine JC.region ?_ | refine JC.skip ?_ | refine JL.nil ?_ | refine JE.next ?_ | refine JE.blk_normal ?_)
      exact JE.again (i := i) (i + 1) ⟨hi', by omega⟩ (by omega) (by repeat (first | exact SubE.nil | refine SubE.cons _ _ _ rfl ?_)) (Less.refl _)
  · have hi' : ¬ i < s.length := of_decide_eq_false h
    obtain rfl : i = s.length := by omega
    clear h hi hi'
    rw [List.drop_length] at ha
    have : runB p s = s.length := ha
    rw [this]
    repeat (first | refine JL.q (by first | (apply OQ.lenS; exact Tryz.underlying9; exact rfl) | (apply OQ.move; exact rfl) | (apply OQ.assign; exact rfl)) rfl ?_ | refine JC.seq ?_ | refine JC.region ?_ | refine JC.exit ?_ | refine JL.nil ?_ | refine JE.next ?_ | refine JE.then_exit ?_ | refine JE.blk_hit ?_)
    refine JC.ret ?_
    exact JE.ret1 rfl (RV.tmp rfl) fun w' hw => ⟨rfl, hw.chg⟩
def madeB (p : Fld.By → Bool) (s : List Fld.By) : Bool := !decide (s = []) && decide ((runB p s : Int) = (s.length : Int))
set_option maxHeartbeats 4000000 in
theorem made_any (s : List Bt) (fv : Value) (p : Bt → Bool) (w : World) (hF : Fun8 Tryz.prog w fv p) (hl : s.length < 9223372036854775808) : Calls Tryz.prog 77 [Z s, fv].toArray w fun e w' => e = .returned (.bool (madeB p s)) ∧ Ext w w' := by
  refine enter (n := 15) Tryz.func77 rfl rfl rfl (Holds.start w []) ?_
  unfold madeB
  cases h1 : decide (s = []) <;> cases h2 : decide ((runB p s : Int) = (s.length : Int))
  all_goals (repeat (first | refine JL.q (by first | (apply OQ.neSB (r := []); exact rfl; exact rfl; exact h1) | (apply OQ.callx (vs := [Z s, fv]); exact goes_run; exact rfl; exact (fun w' hw' => run_any s fv p w' (hF.holds hw') hl)) | (apply OQ.lenS; exact Tryz.underlying9; exact rfl) | (apply OQ.eqB; exact rfl; exact rfl; exact h2) | (apply OQ.pick_t; exact rfl; exact rfl) | (apply OQ.pick_f; exact rfl; exact rfl) | (apply OQ.move; exact rfl) | (apply OQ.assign; exact rfl)) rfl ?_ | refine JC.seq ?_ | refine JC.region ?_ | refine JL.nil ?_ | refine JE.next ?_ | refine JL.gon rfl rfl ?_ | refine JL.gskip rfl rfl rfl rfl ?_))
  all_goals exact JC.ret (JE.ret1 rfl (RV.tmp rfl) fun w' hw => ⟨rfl, hw.chg⟩)
theorem made_atom (s : List Fld.By) : madeB (prB notAtom) s = atomB s := by
  rw [atom_run, prB_atom]
  unfold madeB
  congr 1
  · cases s <;> simp
  · exact decide_eq_decide.2 (by omega)
set_option maxHeartbeats 4000000 in
theorem atomA_any (s : List Bt) (w : World) (hl : s.length < 9223372036854775808) : Calls Tryz.prog 55 [Z s].toArray w fun e w' => e = .returned (.bool (atomB s)) ∧ Ext w w' := by
  refine enter (n := 6) Tryz.func55 rfl rfl rfl (Holds.start w []) ?_
  rw [← made_atom]
  repeat (first | refine JL.q (by first | (apply OQ.move; exact rfl) | (apply OQ.assign; exact rfl)) rfl ?_ | refine JC.seq ?_ | refine JC.region ?_ | refine JL.nil ?_ | refine JE.next ?_)
  refine JL.callg (ι := Nat) (vs := [Z notAtom]) prF (fun b => [⟨b, Row 9 [Z notAtom], true⟩]) goes_printed rfl rfl (fun b e he => by rw [List.mem_singleton.1 he]) (fun w' _ => printed_any notAtom w') fun b => ?_
  repeat (first | refine JL.q (by first | (apply OQ.callx (vs := [Z s, prF b]); exact goes_made; exact rfl; exact (fun w' hw' => made_any s (prF b) (prB notAtom) w' (fun_printed hw' .here) hl)) | (apply OQ.assign; exact rfl)) rfl ?_ | refine JL.nil ?_ | refine JE.next ?_)
  exact JC.ret (JE.ret1 rfl (RV.tmp rfl) fun w' hw => ⟨rfl, hw.chg⟩)
end Go.Proofs.YtbbmhkdfdgnkpaaGreatDoor
