/-
  Of no statement by itself: the texts QuoB, Slgo, QuoC, TokC, TkA, TkB, LsC, TkC, TokD, TkE, TkF, TkD in one.
  Conditions: each theorem's own.
-/
import Derived.Test.YtbbmhkdfdgnkpaaGreatDoorCd
import Derived.Shelf.Strings.OnBuilder
import Derived.Shelf.Strings.Split
set_option linter.unusedSimpArgs false
set_option linter.unusedVariables false
/-
  Of no statement by itself: what the landed quoted's blank, beginsEnd, blanks, ending, ends, worth and escapedByte give.
  Conditions: each theorem's own.
-/
namespace Go.Proofs.YtbbmhkdfdgnkpaaGreatDoor
set_option maxRecDepth 10000
open Sl Fld Quo
theorem OQ.eq8Q {P : Program} {n : Nat} {E : Env} {C : World → Prop} {dst : Option Tmp} {t t' ty : TypeId} {pos : String} {aft : Array Edge} {g : Option (Nat × Bool)} {x y : Operand} {a b : BitVec 8} {c : Bool} (hx : ev E x = some (U8 a)) (hy : ev E y = some (U8 b)) (h : decide (a = b) = c) : OQ P n E C ⟨dst, .binOp .eql t x y t', ty, pos, aft, g⟩ (.bool c) := h ▸ OQ.eq8 hx hy
theorem OQ.callbH {P : Program} {n : Nat} {E : Env} {dst : Option Tmp} {ty : TypeId} {pos : String} {aft : Array Edge} {g : Option (Nat × Bool)} {w0 : World} {S : List Nat} {M : List Ent} {f : FuncId} {xs : List Operand} {ats : Array TypeId} {vs : List Value} {b c : Bool} (hg : Goes P f) (hx : evs E xs = some vs) (hc : ∀ w, Holds w0 S M w → Calls P f vs.toArray w fun e w' => e = .returned (.bool b) ∧ Ext w w') (h : b = c) :
    OQ P n E (Holds w0 S M) ⟨dst, .call ⟨.value (.func f), xs.toArray, ats⟩, ty, pos, aft, g⟩ (.bool c) := h ▸ OQ.callx hg hx hc
theorem OQ.sub8Q {P : Program} {n : Nat} {E : Env} {C : World → Prop} {dst : Option Tmp} {t t' ty : TypeId} {pos : String} {aft : Array Edge} {g : Option (Nat × Bool)} {x y : Operand} {a b : BitVec 8} (hx : ev E x = some (U8 a)) (hy : ev E y = some (U8 b)) (h : b.toNat ≤ a.toNat) : OQ P n E C ⟨dst, .binOp .sub t x y t', ty, pos, aft, g⟩ (U8 (a - b)) :=
  OQ.bin hx hy rfl fun _ => okInt (k := .u8) (show IntKind.u8.wrap ((a.toNat : Int) - b.toNat) = ((a - b).toNat : Int) by
    rw [BitVec.toNat_sub_of_le (by simpa [BitVec.le_def] using h), ← Int.ofNat_sub h, wrap8, Nat.mod_eq_of_lt (by have := a.isLt; omega)])
theorem or_hex : ∀ a b : Fin 16, IntKind.i64.wrap ((BitVec.ofInt 64 ((16 * a.val : Nat) : Int) ||| BitVec.ofInt 64 ((b.val : Nat) : Int)).toNat : Int) = ((16 * a.val + b.val : Nat) : Int) := by decide +kernel
theorem OQ.orHex {P : Program} {n : Nat} {E : Env} {C : World → Prop} {dst : Option Tmp} {t t' ty : TypeId} {pos : String} {aft : Array Edge} {g : Option (Nat × Bool)} {x y : Operand} {a b : Nat} (hx : ev E x = some (N (16 * a))) (hy : ev E y = some (N b)) (ha : a < 16) (hb : b < 16) : OQ P n E C ⟨dst, .binOp .or t x y t', ty, pos, aft, g⟩ (N (16 * a + b)) :=
  OQ.bin hx hy rfl fun _ => okInt (k := .i64) (or_hex ⟨a, ha⟩ ⟨b, hb⟩)
theorem OQ.shlHex {P : Program} {n : Nat} {E : Env} {C : World → Prop} {dst : Option Tmp} {t t' ty : TypeId} {pos : String} {aft : Array Edge} {g : Option (Nat × Bool)} {x y : Operand} {a : Nat} (hx : ev E x = some (N a)) (hy : ev E y = some (.int .u64 4)) (ha : a < 16) : OQ P n E C ⟨dst, .binOp .shl t x y t', ty, pos, aft, g⟩ (N (16 * a)) :=
  OQ.to (OQ.shlI (a := (a : Int)) (m := 16) (yk := .u64) (k := 4) rfl (by decide) hx hy (by omega) (by omega)) (congrArg (Value.int .i64) (by omega))
theorem mixQu : Tryz.prog.follows .mixedOrders = true := by kernel_rfl
theorem goes_qblank : Goes Tryz.prog 116 := ⟨_, Tryz.func116, rfl, by kernel_rfl⟩
theorem goes_qbegins : Goes Tryz.prog 83 := ⟨_, Tryz.func83, rfl, by kernel_rfl⟩
theorem goes_qblanks : Goes Tryz.prog 106 := ⟨_, Tryz.func106, rfl, by kernel_rfl⟩
theorem goes_qending : Goes Tryz.prog 108 := ⟨_, Tryz.func108, rfl, by kernel_rfl⟩
theorem goes_qends : Goes Tryz.prog 107 := ⟨_, Tryz.func107, rfl, by kernel_rfl⟩
theorem goes_qworth : Goes Tryz.prog 142 := ⟨_, Tryz.func142, rfl, by kernel_rfl⟩
theorem goes_qesc : Goes Tryz.prog 109 := ⟨_, Tryz.func109, rfl, by kernel_rfl⟩
set_option maxHeartbeats 4000000 in
theorem qblank_any (c : Bt) (w : World) : Calls Tryz.prog 116 [U8 c].toArray w fun e w' => e = .returned (.bool (bl c)) ∧ Ext w w' := by
  refine enter (n := 9) Tryz.func116 rfl rfl rfl (Holds.start w []) ?_
  rw [show bl c = (decide (c = 32) || decide (c = 9)) from rfl]
  cases h1 : decide (c = 32) <;> cases h2 : decide (c = 9)
  all_goals (repeat (first | refine JL.q (by first | (apply OQ.eq8Q (b := 32); exact rfl; exact rfl; exact h1) | (apply OQ.eq8Q (b := 9); exact rfl; exact rfl; exact h2) | (apply OQ.pick_t; exact rfl; exact rfl) | (apply OQ.pick_f; exact rfl; exact rfl) | (apply OQ.move; exact rfl) | (apply OQ.assign; exact rfl)) rfl ?_ | refine JC.seq ?_ | refine JC.region ?_ | refine JL.nil ?_ | refine JE.next ?_ | refine JL.gon rfl rfl ?_ | refine JL.gskip rfl rfl rfl rfl ?_))
  all_goals exact JC.ret (JE.ret1 rfl (RV.tmp rfl) fun w' hw => ⟨rfl, hw.chg⟩)
def crlf (l : List Bt) : Bool := (decide ((2 : Int) ≤ (l.length : Int)) && decide (l.getD 0 0 = 13)) && decide (l.getD 1 0 = 10)
set_option maxHeartbeats 8000000 in
theorem begins_any (s : Sl8) (w : World) (hs : s.ok w) : Calls Tryz.prog 83 [s.v].toArray w fun e w' => e = .returned (.bool (crlf s.l)) ∧ Ext w w' := by
  refine enter (n := 18) Tryz.func83 rfl rfl rfl (Holds.start w []) ?_
  unfold crlf
  cases h2 : decide ((2 : Int) ≤ (s.l.length : Int))
  · repeat (first | refine JL.q (by first | (apply OQ.geqB (b := 2); exact rfl; exact rfl; exact h2) | (apply OQ.pick_f; exact rfl; exact rfl) | (apply OQ.move; exact rfl) | (apply OQ.assign; exact rfl) | (apply OQ.len; exact rfl; exact rfl)) rfl ?_ | refine JC.seq ?_ | refine JC.region ?_ | refine JL.nil ?_ | refine JE.next ?_ | refine JL.gskip rfl rfl rfl rfl ?_)
    exact JC.ret (JE.ret1 rfl (RV.tmp rfl) fun w' hw => ⟨rfl, hw.chg⟩)
  · have h2' : 2 ≤ s.l.length := by have := of_decide_eq_true h2; omega
    obtain ⟨ba, ja, hae, hca⟩ := hs.reads.at (by simp; omega)
    have i0 : 0 < s.l.length := by omega
    have i1 : 1 < s.l.length := by omega
    have hc0 := hca 0 _ (map_at U8 0 i0)
    have hc1 := hca 1 _ (map_at U8 0 i1)
    have hav : s.v = .slice (some ⟨ba, ja, none⟩) s.l.length s.cap := by rw [← hae]; rfl
    generalize s.l.getD 0 0 = c at hc0 ⊢
    generalize s.l.getD 1 0 = d at hc1 ⊢
    cases h13 : decide (c = 13) <;> cases h10 : decide (d = 10)
    all_goals (repeat (first | refine JL.q (by first | (apply OQ.geqB (b := 2); exact rfl; exact rfl; exact h2) | (apply OQ.idxS1 (i := 0); exact Tryz.underlying22; exact u8s; exact (congrArg some hav); exact rfl; exact i0) | (apply OQ.idxS1 (i := 1); exact Tryz.underlying22; exact u8s; exact (congrArg some hav); exact rfl; exact i1) | (apply OQ.load_old; exact u8c; exact rfl; exact (block_lt_of_cell hc0); exact (by simp); exact hc0) | (apply OQ.load_old; exact u8c; exact rfl; exact (block_lt_of_cell hc1); exact (by simp); exact hc1) | (apply OQ.eq8Q (b := 13); exact rfl; exact rfl; exact h13) | (apply OQ.eq8Q (b := 10); exact rfl; exact rfl; exact h10) | (apply OQ.pick_t; exact rfl; exact rfl) | (apply OQ.pick_f; exact rfl; exact rfl) | (apply OQ.move; exact rfl) | (apply OQ.assign; exact rfl) | (apply OQ.len; exact rfl; exact rfl)) rfl ?_ | refine JC.seq ?_ | refine JC.region ?_ | refine JL.nil ?_ | refine JE.next ?_ | refine JL.gon rfl rfl ?_ | refine JL.gskip rfl rfl rfl rfl ?_))
    all_goals exact JC.ret (JE.ret1 rfl (RV.tmp rfl) fun w' hw => ⟨rfl, hw.chg⟩)
/-! ### blanks -/
theorem bkn_next : ∀ (l : List Fld.By) (i : Nat), i ≤ bkn l → i < l.length → bl (l.getD i 0) = true → i + 1 ≤ bkn l
  | [], i, _, h, _ => by cases h
  | c :: l, i, hi, hl, hb => by
    rw [bkn_cons] at hi ⊢
    cases hc : bl c
    · rw [hc, if_neg (by decide)] at hi
      obtain rfl : i = 0 := by omega
      rw [List.getD_cons_zero, hc] at hb
      cases hb
    · rw [hc, if_pos rfl] at hi
      rw [if_pos rfl]
      cases i with
      | zero => omega
      | succ i =>
        have := bkn_next l i (by omega) (by simpa using hl) (by simpa using hb)
        omega
theorem bkn_stop : ∀ (l : List Fld.By) (i : Nat), i ≤ bkn l → i < l.length → bl (l.getD i 0) = false → bkn l = i
  | [], i, _, h, _ => by cases h
  | c :: l, i, hi, hl, hb => by
    rw [bkn_cons] at hi ⊢
    cases hc : bl c
    · rw [hc, if_neg (by decide)] at hi
      rw [if_neg (by decide)]
      omega
    · rw [hc, if_pos rfl] at hi
      rw [if_pos rfl]
      cases i with
      | zero => rw [List.getD_cons_zero, hc] at hb; cases hb
      | succ i =>
        have := bkn_stop l i (by omega) (by simpa using hl) (by simpa using hb)
        omega
set_option maxHeartbeats 8000000 in
theorem blanks_any (s : Sl8) (w : World) (hs : s.ok w) (hl : s.l.length < 9223372036854775807) : Calls Tryz.prog 106 [s.v].toArray w fun e w' => e = .returned (N (bkn s.l)) ∧ Ext w w' := by
  refine enter (n := 19) Tryz.func106 rfl rfl rfl (Holds.start w []) ?_
  repeat (first | refine JL.q (by first | (apply OQ.move; exact rfl) | (apply OQ.assign; exact rfl) | (apply OQ.len; exact rfl; exact rfl)) rfl ?_ | refine JC.seq ?_ | refine JC.region ?_ | refine JC.block ?_ | refine JL.nil ?_ | refine JE.next ?_)
  refine JC.loop (fun i : Nat => [(0, s.v), (5, s.v), (6, N s.l.length), (7, N i)]) (fun _ => []) (fun i => s.l.length - i) (fun i => i ≤ bkn s.l) 0 (Nat.zero_le _) (by repeat (first | exact SubE.nil | refine SubE.cons _ _ _ rfl ?_)) (Less.refl _) ?_
  intro i hi
  have hle := bkn_le s.l
  repeat (first | refine JL.q (by (apply OQ.lssN; exact rfl; exact rfl)) rfl ?_ | refine JC.seq ?_ | refine JC.region ?_ | refine JL.nil ?_ | refine JE.next ?_)
  refine JC.cond rfl (fun h => ?_) (fun h => ?_)
  · have hi' : i < s.l.length := of_decide_eq_true h
    clear h
    obtain ⟨ba, ja, hae, hca⟩ := hs.reads.at (by simp; omega)
    have hc := hca i _ (map_at U8 0 hi')
    have hav : s.v = .slice (some ⟨ba, ja, none⟩) s.l.length s.cap := by rw [← hae]; rfl
    have e1 := bkn_next s.l i hi hi'
    have e2 := bkn_stop s.l i hi hi'
    generalize s.l.getD i 0 = c at hc e1 e2
    cases hb : bl c
    · rw [e2 hb]
      repeat (first | refine JL.q (by first | (apply OQ.idxS1; exact Tryz.underlying22; exact u8s; exact (congrArg some hav); exact rfl; exact hi') | (apply OQ.load_old; exact u8c; exact rfl; exact (block_lt_of_cell hc); exact (by simp); exact hc) | (apply OQ.callb (vs := [U8 c]); exact goes_qblank; exact rfl; exact (fun w' => qblank_any c w'); exact hb) | (apply OQ.not; exact rfl) | (apply OQ.move; exact rfl) | (apply OQ.assign; exact rfl)) rfl ?_ | refine JC.seq ?_ | refine JC.region ?_ | refine JC.block ?_ | refine JC.skip ?_ | refine JL.nil ?_ | refine JE.next ?_)
      refine JC.cond rfl (fun _ => ?_) (fun h => by cases h)
      repeat (first | refine JL.q (by first | (apply OQ.move; exact rfl) | (apply OQ.assign; exact rfl)) rfl ?_ | refine JC.seq ?_ | refine JC.region ?_ | refine JL.nil ?_ | refine JE.next ?_)
      refine JC.ret ?_
      repeat (first | refine JE.then_ret ?_ | refine JE.blk_ret ?_)
      exact JE.ret1 rfl (RV.tmp rfl) fun w' hw => ⟨rfl, hw.chg⟩
    · repeat (first | refine JL.q (by first | (apply OQ.idxS1; exact Tryz.underlying22; exact u8s; exact (congrArg some hav); exact rfl; exact hi') | (apply OQ.load_old; exact u8c; exact rfl; exact (block_lt_of_cell hc); exact (by simp); exact hc) | (apply OQ.callb (vs := [U8 c]); exact goes_qblank; exact rfl; exact (fun w' => qblank_any c w'); exact hb) | (apply OQ.not; exact rfl) | (apply OQ.move; exact rfl) | (apply OQ.assign; exact rfl)) rfl ?_ | refine JC.seq ?_ | refine JC.region ?_ | refine JC.block ?_ | refine JC.skip ?_ | refine JL.nil ?_ | refine JE.next ?_)
      refine JC.cond rfl (fun h => by cases h) (fun _ => ?_)
      repeat (first | refine JL.q (by first | (apply OQ.move; exact rfl) | (apply OQ.addN; exact rfl; exact rfl; exact (by (try simp only []); omega))) rfl ?_ | refine JC.region ?_ | refine JC.skip ?_ | refine JL.nil ?_ | refine JE.next ?_ | refine JE.blk_normal ?_)
      exact JE.again (i := i) (i + 1) (e1 hb) (by omega) (by repeat (first | exact SubE.nil | refine SubE.cons _ _ _ rfl ?_)) (Less.refl _)
  · have hi' : ¬ i < s.l.length := of_decide_eq_false h
    obtain rfl : i = s.l.length := by omega
    have e : bkn s.l = s.l.length := by omega
    rw [e]
    clear h
    repeat (first | refine JL.q (by first | (apply OQ.move; exact rfl) | (apply OQ.assign; exact rfl) | (apply OQ.len; exact rfl; exact rfl)) rfl ?_ | refine JC.seq ?_ | refine JC.region ?_ | refine JC.exit ?_ | refine JL.nil ?_ | refine JE.next ?_ | refine JE.then_exit ?_ | refine JE.blk_hit ?_)
    refine JC.ret ?_
    exact JE.ret1 rfl (RV.tmp rfl) fun w' hw => ⟨rfl, hw.chg⟩
/-! ### ends -/
theorem enq_crlf (l : List Fld.By) : enq l = if crlf l then 2 else if l.length = 0 then 0 else if l.getD 0 0 = 10 then 1 else 0 := by
  match l with
  | [] => rfl
  | [c] =>
    have h : crlf [c] = false := rfl
    have h2 : ¬ (c = 13 ∧ ([] : List Fld.By).head? = some 10) := fun e => by cases e.2
    rw [enq_cons, h, if_neg h2, if_neg (Bool.false_ne_true), if_neg (show ¬ [c].length = 0 from Nat.one_ne_zero), List.getD_cons_zero]
  | c :: d :: r =>
    rw [enq_cons]
    have h2 : decide ((2 : Int) ≤ (((c :: d :: r).length : Nat) : Int)) = true := decide_eq_true (by simp only [List.length_cons]; omega)
    unfold crlf
    rw [h2, if_neg (by simp : ¬ (c :: d :: r).length = 0)]
    simp only [List.getD_cons_zero, List.getD_cons_succ, List.head?_cons, Option.some.injEq, Bool.true_and, Bool.and_eq_true, decide_eq_true_eq]
    by_cases h10 : c = 10
    · have h13 : ¬ (c = 13 ∧ d = 10) := fun e => by rw [h10] at e; exact absurd e.1 (by decide)
      rw [if_pos h10, if_neg h13, if_pos h10]
    · rw [if_neg h10, if_neg h10]
set_option maxHeartbeats 8000000 in
theorem ending_any (s : Sl8) (w : World) (hs : s.ok w) : Calls Tryz.prog 108 [s.v].toArray w fun e w' => e = .returned (N (enq s.l)) ∧ Ext w w' := by
  refine enter (n := 16) Tryz.func108 rfl rfl rfl (Holds.start w []) ?_
  rw [enq_crlf s.l]
  have cB := fun w' (hw' : Holds w [] [] w') => begins_any s w' (hs.holds hw' rfl)
  cases hb : crlf s.l
  · rw [if_neg (by decide)]
    cases h0 : decide ((0 : Int) < (s.l.length : Int))
    · have h0' : s.l.length = 0 := by have := of_decide_eq_false h0; omega
      rw [if_pos h0']
      repeat (first | refine JL.q (by first | (apply OQ.callbH (vs := [s.v]); exact goes_qbegins; exact rfl; exact cB; exact hb) | (apply OQ.move; exact rfl) | (apply OQ.assign; exact rfl)) rfl ?_ | refine JC.seq ?_ | refine JC.region ?_ | refine JC.block ?_ | refine JL.nil ?_ | refine JE.next ?_)
      refine JC.cond_false rfl rfl ?_
      repeat (first | refine JL.q (by first | (apply OQ.gtrB (b := 0); exact rfl; exact rfl; exact h0) | (apply OQ.pick_f; exact rfl; exact rfl) | (apply OQ.move; exact rfl) | (apply OQ.assign; exact rfl) | (apply OQ.len; exact rfl; exact rfl)) rfl ?_ | refine JC.seq ?_ | refine JC.region ?_ | refine JL.nil ?_ | refine JE.next ?_ | refine JL.gskip rfl rfl rfl rfl ?_)
      refine JC.cond_false rfl rfl ?_
      repeat (first | refine JL.q (by (apply OQ.assign; exact rfl)) rfl ?_ | refine JC.seq ?_ | refine JC.region ?_ | refine JC.skip ?_ | refine JL.nil ?_ | refine JE.next ?_ | refine JE.blk_normal ?_)
      refine JC.ret ?_
      exact JE.ret1 rfl (RV.tmp rfl) fun w' hw => ⟨rfl, hw.chg⟩
    · have i0 : 0 < s.l.length := by have := of_decide_eq_true h0; omega
      rw [if_neg (by omega)]
      obtain ⟨ba, ja, hae, hca⟩ := hs.reads.at (by simp; omega)
      have hc0 := hca 0 _ (map_at U8 0 i0)
      have hav : s.v = .slice (some ⟨ba, ja, none⟩) s.l.length s.cap := by rw [← hae]; rfl
      generalize s.l.getD 0 0 = c at hc0 ⊢
      cases h10 : decide (c = 10)
      · rw [if_neg (of_decide_eq_false h10)]
        repeat (first | refine JL.q (by first | (apply OQ.callbH (vs := [s.v]); exact goes_qbegins; exact rfl; exact cB; exact hb) | (apply OQ.move; exact rfl) | (apply OQ.assign; exact rfl)) rfl ?_ | refine JC.seq ?_ | refine JC.region ?_ | refine JC.block ?_ | refine JL.nil ?_ | refine JE.next ?_)
        refine JC.cond_false rfl rfl ?_
        repeat (first | refine JL.q (by first | (apply OQ.gtrB (b := 0); exact rfl; exact rfl; exact h0) | (apply OQ.idxS1 (i := 0); exact Tryz.underlying22; exact u8s; exact (congrArg some hav); exact rfl; exact i0) | (apply OQ.load_old; exact u8c; exact rfl; exact (block_lt_of_cell hc0); exact (by simp); exact hc0) | (apply OQ.eq8Q (b := 10); exact rfl; exact rfl; exact h10) | (apply OQ.pick_t; exact rfl; exact rfl) | (apply OQ.move; exact rfl) | (apply OQ.assign; exact rfl) | (apply OQ.len; exact rfl; exact rfl)) rfl ?_ | refine JC.seq ?_ | refine JC.region ?_ | refine JL.nil ?_ | refine JE.next ?_ | refine JL.gon rfl rfl ?_)
        refine JC.cond_false rfl rfl ?_
        repeat (first | refine JL.q (by (apply OQ.assign; exact rfl)) rfl ?_ | refine JC.seq ?_ | refine JC.region ?_ | refine JC.skip ?_ | refine JL.nil ?_ | refine JE.next ?_ | refine JE.blk_normal ?_)
        refine JC.ret ?_
        exact JE.ret1 rfl (RV.tmp rfl) fun w' hw => ⟨rfl, hw.chg⟩
      · rw [if_pos (of_decide_eq_true h10)]
        repeat (first | refine JL.q (by first | (apply OQ.callbH (vs := [s.v]); exact goes_qbegins; exact rfl; exact cB; exact hb) | (apply OQ.move; exact rfl) | (apply OQ.assign; exact rfl)) rfl ?_ | refine JC.seq ?_ | refine JC.region ?_ | refine JC.block ?_ | refine JL.nil ?_ | refine JE.next ?_)
        refine JC.cond_false rfl rfl ?_
        repeat (first | refine JL.q (by first | (apply OQ.gtrB (b := 0); exact rfl; exact rfl; exact h0) | (apply OQ.idxS1 (i := 0); exact Tryz.underlying22; exact u8s; exact (congrArg some hav); exact rfl; exact i0) | (apply OQ.load_old; exact u8c; exact rfl; exact (block_lt_of_cell hc0); exact (by simp); exact hc0) | (apply OQ.eq8Q (b := 10); exact rfl; exact rfl; exact h10) | (apply OQ.pick_t; exact rfl; exact rfl) | (apply OQ.move; exact rfl) | (apply OQ.assign; exact rfl) | (apply OQ.len; exact rfl; exact rfl)) rfl ?_ | refine JC.seq ?_ | refine JC.region ?_ | refine JL.nil ?_ | refine JE.next ?_ | refine JL.gon rfl rfl ?_)
        refine JC.cond_true rfl rfl ?_
        repeat (first | refine JL.q (by (apply OQ.assign; exact rfl)) rfl ?_ | refine JC.seq ?_ | refine JC.region ?_ | refine JL.nil ?_ | refine JE.next ?_)
        refine JC.ret ?_
        repeat (first | refine JE.then_ret ?_ | refine JE.blk_ret ?_)
        exact JE.ret1 rfl (RV.tmp rfl) fun w' hw => ⟨rfl, hw.chg⟩
  · rw [if_pos rfl]
    repeat (first | refine JL.q (by first | (apply OQ.callbH (vs := [s.v]); exact goes_qbegins; exact rfl; exact cB; exact hb) | (apply OQ.move; exact rfl) | (apply OQ.assign; exact rfl)) rfl ?_ | refine JC.seq ?_ | refine JC.region ?_ | refine JC.block ?_ | refine JL.nil ?_ | refine JE.next ?_)
    refine JC.cond_true rfl rfl ?_
    repeat (first | refine JL.q (by (apply OQ.assign; exact rfl)) rfl ?_ | refine JC.seq ?_ | refine JC.region ?_ | refine JL.nil ?_ | refine JE.next ?_)
    refine JC.ret ?_
    repeat (first | refine JE.then_ret ?_ | refine JE.blk_ret ?_)
    exact JE.ret1 rfl (RV.tmp rfl) fun w' hw => ⟨rfl, hw.chg⟩
theorem endsq_is (l : List Fld.By) : endsq l = (decide ((l.length : Int) = 0) || decide ((0 : Int) < (enq l : Int))) := by
  unfold endsq
  congr 1
  · exact decide_eq_decide.2 ⟨fun h => by rw [h]; rfl, fun h => List.eq_nil_of_length_eq_zero (by omega)⟩
  · exact decide_eq_decide.2 (by omega)
set_option maxHeartbeats 8000000 in
theorem ends_any (s : Sl8) (w : World) (hs : s.ok w) : Calls Tryz.prog 107 [s.v].toArray w fun e w' => e = .returned (.bool (endsq s.l)) ∧ Ext w w' := by
  refine enter (n := 11) Tryz.func107 rfl rfl rfl (Holds.start w []) ?_
  rw [endsq_is s.l]
  have cE := fun w' (hw' : Holds w [] [] w') => ending_any s w' (hs.holds hw' rfl)
  cases h0 : decide ((s.l.length : Int) = 0) <;> cases h1 : decide ((0 : Int) < (enq s.l : Int))
  all_goals (repeat (first | refine JL.q (by first | (apply OQ.eqB (b := 0); exact rfl; exact rfl; exact h0) | (apply OQ.callx (vs := [s.v]); exact goes_qending; exact rfl; exact cE) | (apply OQ.gtrB (b := 0); exact rfl; exact rfl; exact h1) | (apply OQ.pick_t; exact rfl; exact rfl) | (apply OQ.pick_f; exact rfl; exact rfl) | (apply OQ.move; exact rfl) | (apply OQ.assign; exact rfl) | (apply OQ.len; exact rfl; exact rfl)) rfl ?_ | refine JC.seq ?_ | refine JC.region ?_ | refine JL.nil ?_ | refine JE.next ?_ | refine JL.gon rfl rfl ?_ | refine JL.gskip rfl rfl rfl rfl ?_))
  all_goals exact JC.ret (JE.ret1 rfl (RV.tmp rfl) fun w' hw => ⟨rfl, hw.chg⟩)
/-! ### digits -/
theorem hexV1 (c : Fld.By) (h : 48 ≤ c.toNat) (h' : c.toNat ≤ 57) : hexV c = (((c - 48).toNat : Nat) : Int) := by
  unfold hexV
  rw [if_pos ⟨h, h'⟩, BitVec.toNat_sub_of_le (by simpa [BitVec.le_def] using h)]
  exact (Int.ofNat_sub h).symm
theorem hexV2 (c : Fld.By) (h : 65 ≤ c.toNat) (h' : c.toNat ≤ 70) : hexV c = (((c - 65).toNat + 10 : Nat) : Int) := by
  unfold hexV
  rw [if_neg (by omega), if_pos ⟨h, h'⟩, BitVec.toNat_sub_of_le (by simpa [BitVec.le_def] using h), show (65 : Fld.By).toNat = 65 from rfl]
  omega
theorem hexV3 (c : Fld.By) (h : 97 ≤ c.toNat) (h' : c.toNat ≤ 102) : hexV c = (((c - 97).toNat + 10 : Nat) : Int) := by
  unfold hexV
  rw [if_neg (by omega), if_neg (by omega), if_pos ⟨h, h'⟩, BitVec.toNat_sub_of_le (by simpa [BitVec.le_def] using h), show (97 : Fld.By).toNat = 97 from rfl]
  omega
theorem hexV4 (c : Fld.By) (h1 : ¬ (48 ≤ c.toNat ∧ c.toNat ≤ 57)) (h2 : ¬ (65 ≤ c.toNat ∧ c.toNat ≤ 70)) (h3 : ¬ (97 ≤ c.toNat ∧ c.toNat ≤ 102)) : hexV c = -1 := by
  unfold hexV
  rw [if_neg h1, if_neg h2, if_neg h3]
theorem hexV_bd (c : Fld.By) : -1 ≤ hexV c ∧ hexV c < 16 := by
  unfold hexV
  split
  · omega
  · split
    · omega
    · split <;> omega
set_option maxHeartbeats 16000000 in
theorem worth_any (c : Bt) (w : World) : Calls Tryz.prog 142 [U8 c].toArray w fun e w' => e = .returned (.int .i64 (hexV c)) ∧ Ext w w' := by
  refine enter (n := 35) Tryz.func142 rfl rfl rfl (Holds.start w []) ?_
  have hc := c.isLt
  rcases (by omega : (c.toNat < 48) ∨ (48 ≤ c.toNat ∧ c.toNat ≤ 57) ∨ (58 ≤ c.toNat ∧ c.toNat ≤ 64) ∨ (65 ≤ c.toNat ∧ c.toNat ≤ 70) ∨ (71 ≤ c.toNat ∧ c.toNat ≤ 96) ∨ (97 ≤ c.toNat ∧ c.toNat ≤ 102) ∨ (103 ≤ c.toNat)) with h | h | h | h | h | h | h
  · rw [hexV4 c (by omega) (by omega) (by omega)]
    have ha0 : decide ((48 : Int) ≤ (c.toNat : Int)) = false := decide_eq_false (by omega)
    have hb0 : decide ((c.toNat : Int) ≤ 57) = true := decide_eq_true (by omega)
    have ha1 : decide ((65 : Int) ≤ (c.toNat : Int)) = false := decide_eq_false (by omega)
    have hb1 : decide ((c.toNat : Int) ≤ 70) = true := decide_eq_true (by omega)
    have ha2 : decide ((97 : Int) ≤ (c.toNat : Int)) = false := decide_eq_false (by omega)
    have hb2 : decide ((c.toNat : Int) ≤ 102) = true := decide_eq_true (by omega)
    repeat (first | refine JL.q (by first | (apply OQ.geqB (b := 48); exact rfl; exact rfl; exact ha0) | (apply OQ.pick_f; exact rfl; exact rfl) | (apply OQ.move; exact rfl) | (apply OQ.assign; exact rfl)) rfl ?_ | refine JC.seq ?_ | refine JC.region ?_ | refine JC.block ?_ | refine JL.nil ?_ | refine JE.next ?_ | refine JL.gskip rfl rfl rfl rfl ?_)
    refine JC.cond_false rfl rfl ?_
    repeat (first | refine JL.q (by first | (apply OQ.geqB (b := 65); exact rfl; exact rfl; exact ha1) | (apply OQ.pick_f; exact rfl; exact rfl) | (apply OQ.move; exact rfl) | (apply OQ.assign; exact rfl)) rfl ?_ | refine JC.seq ?_ | refine JC.region ?_ | refine JL.nil ?_ | refine JE.next ?_ | refine JL.gskip rfl rfl rfl rfl ?_)
    refine JC.cond_false rfl rfl ?_
    repeat (first | refine JL.q (by first | (apply OQ.geqB (b := 97); exact rfl; exact rfl; exact ha2) | (apply OQ.pick_f; exact rfl; exact rfl) | (apply OQ.move; exact rfl) | (apply OQ.assign; exact rfl)) rfl ?_ | refine JC.seq ?_ | refine JC.region ?_ | refine JL.nil ?_ | refine JE.next ?_ | refine JL.gskip rfl rfl rfl rfl ?_)
    refine JC.cond_false rfl rfl ?_
    repeat (first | refine JL.q (by (apply OQ.assign; exact rfl)) rfl ?_ | refine JC.seq ?_ | refine JC.region ?_ | refine JC.skip ?_ | refine JL.nil ?_ | refine JE.next ?_ | refine JE.blk_normal ?_)
    refine JC.ret ?_
    exact JE.ret1 rfl (RV.tmp rfl) fun w' hw => ⟨rfl, hw.chg⟩
  · rw [hexV1 c h.1 h.2]
    have ha0 : decide ((48 : Int) ≤ (c.toNat : Int)) = true := decide_eq_true (by omega)
    have hb0 : decide ((c.toNat : Int) ≤ 57) = true := decide_eq_true (by omega)
    repeat (first | refine JL.q (by first | (apply OQ.geqB (b := 48); exact rfl; exact rfl; exact ha0) | (apply OQ.leqB (b := 57); exact rfl; exact rfl; exact hb0) | (apply OQ.pick_t; exact rfl; exact rfl) | (apply OQ.move; exact rfl) | (apply OQ.assign; exact rfl)) rfl ?_ | refine JC.seq ?_ | refine JC.region ?_ | refine JC.block ?_ | refine JL.nil ?_ | refine JE.next ?_ | refine JL.gon rfl rfl ?_)
    refine JC.cond_true rfl rfl ?_
    repeat (first | refine JL.q (by first | (apply OQ.sub8Q (b := 48); exact rfl; exact rfl; exact h.1) | (apply OQ.conv8_N; exact Tryz.underlying5; exact Tryz.underlying3; exact rfl) | (apply OQ.move; exact rfl) | (apply OQ.assign; exact rfl)) rfl ?_ | refine JC.seq ?_ | refine JC.region ?_ | refine JL.nil ?_ | refine JE.next ?_)
    refine JC.ret ?_
    repeat (first | refine JE.then_ret ?_ | refine JE.blk_ret ?_)
    exact JE.ret1 rfl (RV.tmp rfl) fun w' hw => ⟨rfl, hw.chg⟩
  · rw [hexV4 c (by omega) (by omega) (by omega)]
    have ha0 : decide ((48 : Int) ≤ (c.toNat : Int)) = true := decide_eq_true (by omega)
    have hb0 : decide ((c.toNat : Int) ≤ 57) = false := decide_eq_false (by omega)
    have ha1 : decide ((65 : Int) ≤ (c.toNat : Int)) = false := decide_eq_false (by omega)
    have hb1 : decide ((c.toNat : Int) ≤ 70) = true := decide_eq_true (by omega)
    have ha2 : decide ((97 : Int) ≤ (c.toNat : Int)) = false := decide_eq_false (by omega)
    have hb2 : decide ((c.toNat : Int) ≤ 102) = true := decide_eq_true (by omega)
    repeat (first | refine JL.q (by first | (apply OQ.geqB (b := 48); exact rfl; exact rfl; exact ha0) | (apply OQ.leqB (b := 57); exact rfl; exact rfl; exact hb0) | (apply OQ.pick_t; exact rfl; exact rfl) | (apply OQ.move; exact rfl) | (apply OQ.assign; exact rfl)) rfl ?_ | refine JC.seq ?_ | refine JC.region ?_ | refine JC.block ?_ | refine JL.nil ?_ | refine JE.next ?_ | refine JL.gon rfl rfl ?_)
    refine JC.cond_false rfl rfl ?_
    repeat (first | refine JL.q (by first | (apply OQ.geqB (b := 65); exact rfl; exact rfl; exact ha1) | (apply OQ.pick_f; exact rfl; exact rfl) | (apply OQ.move; exact rfl) | (apply OQ.assign; exact rfl)) rfl ?_ | refine JC.seq ?_ | refine JC.region ?_ | refine JL.nil ?_ | refine JE.next ?_ | refine JL.gskip rfl rfl rfl rfl ?_)
    refine JC.cond_false rfl rfl ?_
    repeat (first | refine JL.q (by first | (apply OQ.geqB (b := 97); exact rfl; exact rfl; exact ha2) | (apply OQ.pick_f; exact rfl; exact rfl) | (apply OQ.move; exact rfl) | (apply OQ.assign; exact rfl)) rfl ?_ | refine JC.seq ?_ | refine JC.region ?_ | refine JL.nil ?_ | refine JE.next ?_ | refine JL.gskip rfl rfl rfl rfl ?_)
    refine JC.cond_false rfl rfl ?_
    repeat (first | refine JL.q (by (apply OQ.assign; exact rfl)) rfl ?_ | refine JC.seq ?_ | refine JC.region ?_ | refine JC.skip ?_ | refine JL.nil ?_ | refine JE.next ?_ | refine JE.blk_normal ?_)
    refine JC.ret ?_
    exact JE.ret1 rfl (RV.tmp rfl) fun w' hw => ⟨rfl, hw.chg⟩
  · rw [hexV2 c h.1 h.2]
    have ha0 : decide ((48 : Int) ≤ (c.toNat : Int)) = true := decide_eq_true (by omega)
    have hb0 : decide ((c.toNat : Int) ≤ 57) = false := decide_eq_false (by omega)
    have ha1 : decide ((65 : Int) ≤ (c.toNat : Int)) = true := decide_eq_true (by omega)
    have hb1 : decide ((c.toNat : Int) ≤ 70) = true := decide_eq_true (by omega)
    repeat (first | refine JL.q (by first | (apply OQ.geqB (b := 48); exact rfl; exact rfl; exact ha0) | (apply OQ.leqB (b := 57); exact rfl; exact rfl; exact hb0) | (apply OQ.pick_t; exact rfl; exact rfl) | (apply OQ.move; exact rfl) | (apply OQ.assign; exact rfl)) rfl ?_ | refine JC.seq ?_ | refine JC.region ?_ | refine JC.block ?_ | refine JL.nil ?_ | refine JE.next ?_ | refine JL.gon rfl rfl ?_)
    refine JC.cond_false rfl rfl ?_
    repeat (first | refine JL.q (by first | (apply OQ.geqB (b := 65); exact rfl; exact rfl; exact ha1) | (apply OQ.leqB (b := 70); exact rfl; exact rfl; exact hb1) | (apply OQ.pick_t; exact rfl; exact rfl) | (apply OQ.move; exact rfl) | (apply OQ.assign; exact rfl)) rfl ?_ | refine JC.seq ?_ | refine JC.region ?_ | refine JL.nil ?_ | refine JE.next ?_ | refine JL.gon rfl rfl ?_)
    refine JC.cond_true rfl rfl ?_
    repeat (first | refine JL.q (by first | (apply OQ.sub8Q (b := 65); exact rfl; exact rfl; exact h.1) | (apply OQ.conv8_N; exact Tryz.underlying5; exact Tryz.underlying3; exact rfl) | (apply OQ.addN (b := 10); exact rfl; exact rfl; exact (by have := (c - 65).isLt; omega)) | (apply OQ.move; exact rfl) | (apply OQ.assign; exact rfl)) rfl ?_ | refine JC.seq ?_ | refine JC.region ?_ | refine JL.nil ?_ | refine JE.next ?_)
    refine JC.ret ?_
    repeat (first | refine JE.then_ret ?_ | refine JE.blk_ret ?_)
    exact JE.ret1 rfl (RV.tmp rfl) fun w' hw => ⟨rfl, hw.chg⟩
  · rw [hexV4 c (by omega) (by omega) (by omega)]
    have ha0 : decide ((48 : Int) ≤ (c.toNat : Int)) = true := decide_eq_true (by omega)
    have hb0 : decide ((c.toNat : Int) ≤ 57) = false := decide_eq_false (by omega)
    have ha1 : decide ((65 : Int) ≤ (c.toNat : Int)) = true := decide_eq_true (by omega)
    have hb1 : decide ((c.toNat : Int) ≤ 70) = false := decide_eq_false (by omega)
    have ha2 : decide ((97 : Int) ≤ (c.toNat : Int)) = false := decide_eq_false (by omega)
    have hb2 : decide ((c.toNat : Int) ≤ 102) = true := decide_eq_true (by omega)
    repeat (first | refine JL.q (by first | (apply OQ.geqB (b := 48); exact rfl; exact rfl; exact ha0) | (apply OQ.leqB (b := 57); exact rfl; exact rfl; exact hb0) | (apply OQ.pick_t; exact rfl; exact rfl) | (apply OQ.move; exact rfl) | (apply OQ.assign; exact rfl)) rfl ?_ | refine JC.seq ?_ | refine JC.region ?_ | refine JC.block ?_ | refine JL.nil ?_ | refine JE.next ?_ | refine JL.gon rfl rfl ?_)
    refine JC.cond_false rfl rfl ?_
    repeat (first | refine JL.q (by first | (apply OQ.geqB (b := 65); exact rfl; exact rfl; exact ha1) | (apply OQ.leqB (b := 70); exact rfl; exact rfl; exact hb1) | (apply OQ.pick_t; exact rfl; exact rfl) | (apply OQ.move; exact rfl) | (apply OQ.assign; exact rfl)) rfl ?_ | refine JC.seq ?_ | refine JC.region ?_ | refine JL.nil ?_ | refine JE.next ?_ | refine JL.gon rfl rfl ?_)
    refine JC.cond_false rfl rfl ?_
    repeat (first | refine JL.q (by first | (apply OQ.geqB (b := 97); exact rfl; exact rfl; exact ha2) | (apply OQ.pick_f; exact rfl; exact rfl) | (apply OQ.move; exact rfl) | (apply OQ.assign; exact rfl)) rfl ?_ | refine JC.seq ?_ | refine JC.region ?_ | refine JL.nil ?_ | refine JE.next ?_ | refine JL.gskip rfl rfl rfl rfl ?_)
    refine JC.cond_false rfl rfl ?_
    repeat (first | refine JL.q (by (apply OQ.assign; exact rfl)) rfl ?_ | refine JC.seq ?_ | refine JC.region ?_ | refine JC.skip ?_ | refine JL.nil ?_ | refine JE.next ?_ | refine JE.blk_normal ?_)
    refine JC.ret ?_
    exact JE.ret1 rfl (RV.tmp rfl) fun w' hw => ⟨rfl, hw.chg⟩
  · rw [hexV3 c h.1 h.2]
    have ha0 : decide ((48 : Int) ≤ (c.toNat : Int)) = true := decide_eq_true (by omega)
    have hb0 : decide ((c.toNat : Int) ≤ 57) = false := decide_eq_false (by omega)
    have ha1 : decide ((65 : Int) ≤ (c.toNat : Int)) = true := decide_eq_true (by omega)
    have hb1 : decide ((c.toNat : Int) ≤ 70) = false := decide_eq_false (by omega)
    have ha2 : decide ((97 : Int) ≤ (c.toNat : Int)) = true := decide_eq_true (by omega)
    have hb2 : decide ((c.toNat : Int) ≤ 102) = true := decide_eq_true (by omega)
    repeat (first | refine JL.q (by first | (apply OQ.geqB (b := 48); exact rfl; exact rfl; exact ha0) | (apply OQ.leqB (b := 57); exact rfl; exact rfl; exact hb0) | (apply OQ.pick_t; exact rfl; exact rfl) | (apply OQ.move; exact rfl) | (apply OQ.assign; exact rfl)) rfl ?_ | refine JC.seq ?_ | refine JC.region ?_ | refine JC.block ?_ | refine JL.nil ?_ | refine JE.next ?_ | refine JL.gon rfl rfl ?_)
    refine JC.cond_false rfl rfl ?_
    repeat (first | refine JL.q (by first | (apply OQ.geqB (b := 65); exact rfl; exact rfl; exact ha1) | (apply OQ.leqB (b := 70); exact rfl; exact rfl; exact hb1) | (apply OQ.pick_t; exact rfl; exact rfl) | (apply OQ.move; exact rfl) | (apply OQ.assign; exact rfl)) rfl ?_ | refine JC.seq ?_ | refine JC.region ?_ | refine JL.nil ?_ | refine JE.next ?_ | refine JL.gon rfl rfl ?_)
    refine JC.cond_false rfl rfl ?_
    repeat (first | refine JL.q (by first | (apply OQ.geqB (b := 97); exact rfl; exact rfl; exact ha2) | (apply OQ.leqB (b := 102); exact rfl; exact rfl; exact hb2) | (apply OQ.pick_t; exact rfl; exact rfl) | (apply OQ.move; exact rfl) | (apply OQ.assign; exact rfl)) rfl ?_ | refine JC.seq ?_ | refine JC.region ?_ | refine JL.nil ?_ | refine JE.next ?_ | refine JL.gon rfl rfl ?_)
    refine JC.cond_true rfl rfl ?_
    repeat (first | refine JL.q (by first | (apply OQ.sub8Q (b := 97); exact rfl; exact rfl; exact h.1) | (apply OQ.conv8_N; exact Tryz.underlying5; exact Tryz.underlying3; exact rfl) | (apply OQ.addN (b := 10); exact rfl; exact rfl; exact (by have := (c - 97).isLt; omega)) | (apply OQ.move; exact rfl) | (apply OQ.assign; exact rfl)) rfl ?_ | refine JC.seq ?_ | refine JC.region ?_ | refine JL.nil ?_ | refine JE.next ?_)
    refine JC.ret ?_
    repeat (first | refine JE.then_ret ?_ | refine JE.blk_ret ?_)
    exact JE.ret1 rfl (RV.tmp rfl) fun w' hw => ⟨rfl, hw.chg⟩
  · rw [hexV4 c (by omega) (by omega) (by omega)]
    have ha0 : decide ((48 : Int) ≤ (c.toNat : Int)) = true := decide_eq_true (by omega)
    have hb0 : decide ((c.toNat : Int) ≤ 57) = false := decide_eq_false (by omega)
    have ha1 : decide ((65 : Int) ≤ (c.toNat : Int)) = true := decide_eq_true (by omega)
    have hb1 : decide ((c.toNat : Int) ≤ 70) = false := decide_eq_false (by omega)
    have ha2 : decide ((97 : Int) ≤ (c.toNat : Int)) = true := decide_eq_true (by omega)
    have hb2 : decide ((c.toNat : Int) ≤ 102) = false := decide_eq_false (by omega)
    repeat (first | refine JL.q (by first | (apply OQ.geqB (b := 48); exact rfl; exact rfl; exact ha0) | (apply OQ.leqB (b := 57); exact rfl; exact rfl; exact hb0) | (apply OQ.pick_t; exact rfl; exact rfl) | (apply OQ.move; exact rfl) | (apply OQ.assign; exact rfl)) rfl ?_ | refine JC.seq ?_ | refine JC.region ?_ | refine JC.block ?_ | refine JL.nil ?_ | refine JE.next ?_ | refine JL.gon rfl rfl ?_)
    refine JC.cond_false rfl rfl ?_
    repeat (first | refine JL.q (by first | (apply OQ.geqB (b := 65); exact rfl; exact rfl; exact ha1) | (apply OQ.leqB (b := 70); exact rfl; exact rfl; exact hb1) | (apply OQ.pick_t; exact rfl; exact rfl) | (apply OQ.move; exact rfl) | (apply OQ.assign; exact rfl)) rfl ?_ | refine JC.seq ?_ | refine JC.region ?_ | refine JL.nil ?_ | refine JE.next ?_ | refine JL.gon rfl rfl ?_)
    refine JC.cond_false rfl rfl ?_
    repeat (first | refine JL.q (by first | (apply OQ.geqB (b := 97); exact rfl; exact rfl; exact ha2) | (apply OQ.leqB (b := 102); exact rfl; exact rfl; exact hb2) | (apply OQ.pick_t; exact rfl; exact rfl) | (apply OQ.move; exact rfl) | (apply OQ.assign; exact rfl)) rfl ?_ | refine JC.seq ?_ | refine JC.region ?_ | refine JL.nil ?_ | refine JE.next ?_ | refine JL.gon rfl rfl ?_)
    refine JC.cond_false rfl rfl ?_
    repeat (first | refine JL.q (by (apply OQ.assign; exact rfl)) rfl ?_ | refine JC.seq ?_ | refine JC.region ?_ | refine JC.skip ?_ | refine JL.nil ?_ | refine JE.next ?_ | refine JE.blk_normal ?_)
    refine JC.ret ?_
    exact JE.ret1 rfl (RV.tmp rfl) fun w' hw => ⟨rfl, hw.chg⟩
set_option maxHeartbeats 16000000 in
theorem esc_any (s : Sl8) (w : World) (hs : s.ok w) : Calls Tryz.prog 109 [s.v].toArray w fun e w' => e = .returned (.tuple #[U8 ((hexs s.l).getD 0), .bool (hexs s.l).isSome]) ∧ Ext w w' := by
  refine enter (n := 28) Tryz.func109 rfl rfl rfl (Holds.start w []) ?_
  cases h3 : decide ((s.l.length : Int) < 3)
  · have h3' : 3 ≤ s.l.length := by have := of_decide_eq_false h3; omega
    obtain ⟨ba, ja, hae, hca⟩ := hs.reads.at (by simp; omega)
    have i1 : 1 < s.l.length := by omega
    have i2 : 2 < s.l.length := by omega
    have hc1 := hca 1 _ (map_at U8 0 i1)
    have hc2 := hca 2 _ (map_at U8 0 i2)
    have hav : s.v = .slice (some ⟨ba, ja, none⟩) s.l.length s.cap := by rw [← hae]; rfl
    have eH : hexs s.l = if 3 ≤ s.l.length ∧ 0 ≤ hexV (s.l.getD 1 0) ∧ 0 ≤ hexV (s.l.getD 2 0) then some (BitVec.ofInt 8 (16 * hexV (s.l.getD 1 0) + hexV (s.l.getD 2 0))) else none := rfl
    have b1 := hexV_bd (s.l.getD 1 0)
    have b2 := hexV_bd (s.l.getD 2 0)
    have w1 := fun w' => worth_any (s.l.getD 1 0) w'
    have w2 := fun w' => worth_any (s.l.getD 2 0) w'
    generalize hp : hexV (s.l.getD 1 0) = p at eH b1 w1
    generalize hq : hexV (s.l.getD 2 0) = q at eH b2 w2
    generalize s.l.getD 1 0 = c at hc1 w1
    generalize s.l.getD 2 0 = d at hc2 w2
    repeat (first | refine JL.q (by first | (apply OQ.lssB (b := 3); exact rfl; exact rfl; exact h3) | (apply OQ.move; exact rfl) | (apply OQ.assign; exact rfl) | (apply OQ.len; exact rfl; exact rfl)) rfl ?_ | refine JC.seq ?_ | refine JC.region ?_ | refine JL.nil ?_ | refine JE.next ?_)
    refine JC.cond_false rfl rfl ?_
    repeat (first | refine JC.seq ?_ | refine JC.skip ?_ | refine JE.next ?_)
    refine JC.quiet mixQu (by kernel_rfl) ?_
    repeat (first | refine JL.q (by first | (apply OQ.idxS1 (i := 1); exact Tryz.underlying22; exact u8s; exact (congrArg some hav); exact rfl; exact i1) | (apply OQ.idxS1 (i := 2); exact Tryz.underlying22; exact u8s; exact (congrArg some hav); exact rfl; exact i2) | (apply OQ.load_old; exact u8c; exact rfl; exact (block_lt_of_cell hc1); exact (by simp); exact hc1) | (apply OQ.load_old; exact u8c; exact rfl; exact (block_lt_of_cell hc2); exact (by simp); exact hc2) | (apply OQ.callx (vs := [U8 c]); exact goes_qworth; exact rfl; exact (fun w' _ => w1 w')) | (apply OQ.callx (vs := [U8 d]); exact goes_qworth; exact rfl; exact (fun w' _ => w2 w')) | (apply OQ.move; exact rfl) | (apply OQ.assign; exact rfl)) rfl ?_ | refine JQ.q (by first | (apply OQ.idxS1 (i := 1); exact Tryz.underlying22; exact u8s; exact (congrArg some hav); exact rfl; exact i1) | (apply OQ.idxS1 (i := 2); exact Tryz.underlying22; exact u8s; exact (congrArg some hav); exact rfl; exact i2) | (apply OQ.load_old; exact u8c; exact rfl; exact (block_lt_of_cell hc1); exact (by simp); exact hc1) | (apply OQ.load_old; exact u8c; exact rfl; exact (block_lt_of_cell hc2); exact (by simp); exact hc2) | (apply OQ.callx (vs := [U8 c]); exact goes_qworth; exact rfl; exact (fun w' _ => w1 w')) | (apply OQ.callx (vs := [U8 d]); exact goes_qworth; exact rfl; exact (fun w' _ => w2 w')) | (apply OQ.move; exact rfl) | (apply OQ.assign; exact rfl)) rfl ?_ | refine JC.seq ?_ | refine JC.region ?_ | refine JQ.nil ?_ | refine JE.next ?_)
    cases hpn : decide (p < 0)
    · cases hqn : decide (q < 0)
      · have hp0 : 0 ≤ p := by have := of_decide_eq_false hpn; omega
        have hq0 : 0 ≤ q := by have := of_decide_eq_false hqn; omega
        rw [if_pos ⟨h3', hp0, hq0⟩] at eH
        rw [eH]
        clear eH hpn hqn
        obtain ⟨a, rfl⟩ : ∃ a : Nat, p = (a : Int) := ⟨p.toNat, by omega⟩
        obtain ⟨b, rfl⟩ : ∃ b : Nat, q = (b : Int) := ⟨q.toNat, by omega⟩
        have ha : a < 16 := by omega
        have hb : b < 16 := by omega
        have n1 : decide ((a : Int) < 0) = false := decide_eq_false (by omega)
        have n2 : decide ((b : Int) < 0) = false := decide_eq_false (by omega)
        have e16 : (16 * (a : Int) + (b : Int)) = ((16 * a + b : Nat) : Int) := by omega
        rw [e16]
        repeat (first | refine JL.q (by first | (apply OQ.lssB (b := 0); exact rfl; exact rfl; exact n1) | (apply OQ.pick_f; exact rfl; exact rfl) | (apply OQ.move; exact rfl)) rfl ?_ | refine JL.nil ?_ | refine JE.next ?_ | refine JL.gon rfl rfl ?_)
        refine JC.cond_false rfl rfl ?_
        repeat (first | refine JL.q (by first | (apply OQ.shlHex (a := a); exact rfl; exact rfl; exact ha) | (apply OQ.orHex (a := a) (b := b); exact rfl; exact rfl; exact ha; exact hb) | (apply OQ.convI_8; exact Tryz.underlying3; exact Tryz.underlying5; exact rfl) | (apply OQ.move; exact rfl) | (apply OQ.assign; exact rfl)) rfl ?_ | refine JC.seq ?_ | refine JC.region ?_ | refine JC.skip ?_ | refine JL.nil ?_ | refine JE.next ?_)
        refine JC.ret ?_
        exact JE.ret2 rfl (RV.tmp rfl) (RV.tmp rfl) fun w' hw => ⟨rfl, hw.chg⟩
      · have hq0 : ¬ 0 ≤ q := by have := of_decide_eq_true hqn; omega
        rw [if_neg fun h => hq0 h.2.2] at eH
        rw [eH]
        repeat (first | refine JL.q (by first | (apply OQ.lssB (b := 0); exact rfl; exact rfl; exact hpn) | (apply OQ.lssB (b := 0); exact rfl; exact rfl; exact hqn) | (apply OQ.pick_f; exact rfl; exact rfl) | (apply OQ.move; exact rfl)) rfl ?_ | refine JL.nil ?_ | refine JE.next ?_ | refine JL.gon rfl rfl ?_)
        refine JC.cond_true rfl rfl ?_
        repeat (first | refine JL.q (by (apply OQ.assign; exact rfl)) rfl ?_ | refine JC.seq ?_ | refine JC.region ?_ | refine JL.nil ?_ | refine JE.next ?_)
        refine JC.ret ?_
        repeat (refine JE.then_ret ?_)
        exact JE.ret2 rfl (RV.tmp rfl) (RV.tmp rfl) fun w' hw => ⟨rfl, hw.chg⟩
    · have hp0 : ¬ 0 ≤ p := by have := of_decide_eq_true hpn; omega
      rw [if_neg fun h => hp0 h.2.1] at eH
      rw [eH]
      repeat (first | refine JL.q (by first | (apply OQ.lssB (b := 0); exact rfl; exact rfl; exact hpn) | (apply OQ.pick_t; exact rfl; exact rfl) | (apply OQ.move; exact rfl)) rfl ?_ | refine JL.nil ?_ | refine JE.next ?_ | refine JL.gskip rfl rfl rfl rfl ?_)
      refine JC.cond_true rfl rfl ?_
      repeat (first | refine JL.q (by (apply OQ.assign; exact rfl)) rfl ?_ | refine JC.seq ?_ | refine JC.region ?_ | refine JL.nil ?_ | refine JE.next ?_)
      refine JC.ret ?_
      repeat (refine JE.then_ret ?_)
      exact JE.ret2 rfl (RV.tmp rfl) (RV.tmp rfl) fun w' hw => ⟨rfl, hw.chg⟩
  · have h3' : ¬ 3 ≤ s.l.length := by have := of_decide_eq_true h3; omega
    have eH : hexs s.l = none := if_neg fun h => h3' h.1
    rw [eH]
    repeat (first | refine JL.q (by first | (apply OQ.lssB (b := 3); exact rfl; exact rfl; exact h3) | (apply OQ.move; exact rfl) | (apply OQ.assign; exact rfl) | (apply OQ.len; exact rfl; exact rfl)) rfl ?_ | refine JC.seq ?_ | refine JC.region ?_ | refine JL.nil ?_ | refine JE.next ?_)
    refine JC.cond_true rfl rfl ?_
    repeat (first | refine JL.q (by (apply OQ.assign; exact rfl)) rfl ?_ | refine JC.seq ?_ | refine JC.region ?_ | refine JL.nil ?_ | refine JE.next ?_)
    refine JC.ret ?_
    repeat (refine JE.then_ret ?_)
    exact JE.ret2 rfl (RV.tmp rfl) (RV.tmp rfl) fun w' hw => ⟨rfl, hw.chg⟩
end Go.Proofs.YtbbmhkdfdgnkpaaGreatDoor

/-
  Of no statement by itself: a rule for a scope with several labels that are jumped to, over partial knowledge of frame and memory, for any program P.
  Conditions: the rule's own hypotheses.
-/
namespace Go.Proofs.YtbbmhkdfdgnkpaaGreatDoor
set_option maxRecDepth 10000
namespace Sl
/-- as Q; by a goto to label l: J l -/
def JumpsTo (J : Nat → Act → World → Prop) (Q : Exit → Act → World → Prop) : Exit → Act → World → Prop
  | .goto l', a, w => J l' a w
  | e, a, w => Q e a w
abbrev JmpL (n : Nat) (w0 : World) (S : List Nat) {ι : Type} (lab : ι → Nat) (Ei : ι → Env) (Mi : ι → List Ent) (p : ι → Prop) : Nat → Act → World → Prop := fun l a w => ∃ j, p j ∧ lab j = l ∧ Knows n (Ei j) a ∧ Holds w0 S (Mi j) w
section
variable {P : Program} {n : Nat} {w0 : World} {S : List Nat} {Q : Exit → Act → World → Prop} {E : Env} {M : List Ent}
theorem JC.scopes {ι : Type} (lab : ι → Nat) (rest : ι → Code) (Ei : ι → Env) (Mi : ι → List Ent) (μ : ι → Nat) (I : ι → Prop) {c : Code} (hf : ∀ i, I i → findLabel c (lab i) = some (rest i))
    (first : JC P n w0 S (JumpsTo (JmpL n w0 S lab Ei Mi I) Q) c E M)
    (pass : ∀ i, I i → JC P n w0 S (JumpsTo (JmpL n w0 S lab Ei Mi fun j => I j ∧ μ j < μ i) Q) (rest i) (Ei i) (Mi i)) : JC P n w0 S Q (.scope c) E M := by
  refine ⟨fun a0 w0' ha0 hw0 b k cs => ?_⟩
  have hg : ∀ i, I i → gotoIn (lab i) (.inScope c :: k) = some (.code (rest i) :: .inScope c :: k) := fun i hi => by simp [gotoIn, hf i hi]
  have key : ∀ m i, μ i = m → I i → ∀ a w, Knows n (Ei i) a → Holds w0 S (Mi i) w → ∃ e a' w', Q e a' w' ∧ Arrives P (lone (b.at a (.code (rest i) :: .inScope c :: k)) cs w) b k cs e a' w' := by
    intro m
    induction m using Nat.strongRecOn with
    | _ m ih =>
      intro i hm hI a w ha hw
      obtain ⟨e, a₁, w₁, hq, harr⟩ := (pass i hI).go a w ha hw b (.inScope c :: k) cs
      cases e with
      | normal => exact ⟨.normal, a₁, w₁, hq, Steps.trans harr (.one step_inScope)⟩
      | exit id => exact ⟨.exit id, a₁, w₁, hq, fun k' hk => harr k' (by simp [exitTo, hk])⟩
      | goto l' =>
        obtain ⟨j, ⟨hJ, hlt⟩, rfl, ha₁, hw₁⟩ := hq
        obtain ⟨e₂, a₂, w₂, hq₂, harr₂⟩ := ih (μ j) (by omega) j rfl hJ a₁ w₁ ha₁ hw₁
        exact ⟨e₂, a₂, w₂, hq₂, .of_steps (harr _ (hg j hJ)) harr₂⟩
      | ret => exact ⟨_, a₁, w₁, hq, harr⟩
      | panic ch => exact ⟨_, a₁, w₁, hq, harr⟩
      | outgrown => exact ⟨_, a₁, w₁, hq, harr⟩
  obtain ⟨e, a₁, w₁, hq, harr⟩ := first.go a0 w0' ha0 hw0 b (.inScope c :: k) cs
  cases e with
  | normal => exact ⟨.normal, a₁, w₁, hq, .head step_scope (Steps.trans harr (.one step_inScope))⟩
  | exit id => exact ⟨.exit id, a₁, w₁, hq, fun k' hk => .head step_scope (harr k' (by simp [exitTo, hk]))⟩
  | goto l' =>
    obtain ⟨j, hJ, rfl, ha₁, hw₁⟩ := hq
    obtain ⟨e₂, a₂, w₂, hq₂, harr₂⟩ := key _ j rfl hJ a₁ w₁ ha₁ hw₁
    exact ⟨e₂, a₂, w₂, hq₂, .of_steps (.head step_scope (harr _ (hg j hJ))) harr₂⟩
  | ret => exact ⟨_, a₁, w₁, hq, .of_steps (.one step_scope) harr⟩
  | panic ch => exact ⟨_, a₁, w₁, hq, .of_steps (.one step_scope) harr⟩
  | outgrown => exact ⟨_, a₁, w₁, hq, .of_steps (.one step_scope) harr⟩
/-- the way to the first label is the pass from there -/
theorem JC.scopesP {ι : Type} (lab : ι → Nat) (rest : ι → Code) (Ei : ι → Env) (Mi : ι → List Ent) (μ : ι → Nat) (I : ι → Prop) {c : Code} (hf : ∀ i, I i → findLabel c (lab i) = some (.seq .skip (rest i)))
    (pass : ∀ i, I i → JC P n w0 S (JumpsTo (JmpL n w0 S lab Ei Mi fun j => I j ∧ μ j < μ i) Q) (rest i) (Ei i) (Mi i))
    (first : (∀ i, I i → JC P n w0 S (JumpsTo (JmpL n w0 S lab Ei Mi I) Q) (rest i) (Ei i) (Mi i)) → JC P n w0 S (JumpsTo (JmpL n w0 S lab Ei Mi I) Q) c E M) : JC P n w0 S Q (.scope c) E M :=
  JC.scopes lab (fun i => .seq .skip (rest i)) Ei Mi μ I hf (first fun i hi => (pass i hi).mono fun e a w hq => by
    cases e with
    | goto l' => obtain ⟨j, h1, h2⟩ := hq; exact ⟨j, h1.1, h2⟩
    | _ => exact hq) fun i hi => JC.seq (JC.skip (JE.next (pass i hi)))
/-- two labels: 0, that one comes to by itself, and 1 -/
theorem JC.scopes2 {ι : Type} (esc : ι → Bool) (Ei : ι → Env) (Mi : ι → List Ent) (μ : ι → Nat) (I : ι → Prop) {c r0 r1 : Code} (h0 : findLabel c 0 = some (.seq .skip r0)) (h1 : findLabel c 1 = some (.seq .skip r1))
    (pass0 : ∀ i, esc i = false → I i → JC P n w0 S (JumpsTo (JmpL n w0 S (fun i => if esc i then 1 else 0) Ei Mi fun j => I j ∧ μ j < μ i) Q) r0 (Ei i) (Mi i))
    (pass1 : ∀ i, esc i = true → I i → JC P n w0 S (JumpsTo (JmpL n w0 S (fun i => if esc i then 1 else 0) Ei Mi fun j => I j ∧ μ j < μ i) Q) r1 (Ei i) (Mi i))
    (first : (∀ i, esc i = false → I i → JC P n w0 S (JumpsTo (JmpL n w0 S (fun i => if esc i then 1 else 0) Ei Mi I) Q) r0 (Ei i) (Mi i)) → JC P n w0 S (JumpsTo (JmpL n w0 S (fun i => if esc i then 1 else 0) Ei Mi I) Q) c E M) : JC P n w0 S Q (.scope c) E M := by
  refine JC.scopesP (fun i => if esc i then 1 else 0) (fun i => if esc i then r1 else r0) Ei Mi μ I (fun i _ => ?_) (fun i hi => ?_) fun hp => first fun i he hi => ?_
  · cases esc i
    · exact h0
    · exact h1
  · cases he : esc i
    · exact pass0 i he hi
    · exact pass1 i he hi
  · have := hp i hi
    rw [he] at this
    exact this
theorem JE.jumps_to {ι : Type} {l : Nat} {lab : ι → Nat} {Ei : ι → Env} {Mi : ι → List Ent} {p : ι → Prop} (j : ι) (hp : p j) (hl : lab j = l) (hE : SubE E (Ei j)) (hM : Less (Mi j) M) : JE n w0 S (JumpsTo (JmpL n w0 S lab Ei Mi p) Q) (.goto l) E M :=
  ⟨fun _ _ ha hw => ⟨j, hp, hl, ha.sub hE, hw.weak hM⟩⟩
theorem JE.jumps_ret {J : Nat → Act → World → Prop} (h : JE n w0 S Q .ret E M) : JE n w0 S (JumpsTo J Q) .ret E M := ⟨h.go⟩
end
end Sl
end Go.Proofs.YtbbmhkdfdgnkpaaGreatDoor

/-
  Of no statement by itself: what the landed quoted.Decode gives.
  Conditions: the theorem's own.
-/
namespace Go.Proofs.YtbbmhkdfdgnkpaaGreatDoor
set_option maxRecDepth 10000
open Sl Fld Quo
theorem goes_qdec : Goes Tryz.prog 70 := ⟨_, Tryz.func70, rfl, by kernel_rfl⟩
namespace Quo
theorem dec_blanks {b : List By} (h1 : ¬ b.getD 0 0 = 61) (hk : 0 < bkn b) : decQ b = accQ (if endsq (b.drop (bkn b)) then [] else b.take (bkn b)) (decQ (b.drop (bkn b))) := by
  have hb : b ≠ [] := by rintro rfl; cases hk
  have hs : stepQ b = some (if endsq (b.drop (bkn b)) then [] else b.take (bkn b), bkn b) := by
    unfold stepQ
    rw [if_neg h1, if_pos hk]
  rw [decQ_step hb, hs]
theorem dec_one {b : List By} (hb : b ≠ []) (h1 : ¬ b.getD 0 0 = 61) (hk : bkn b = 0) (he : enq b = 0) : decQ b = accQ [b.getD 0 0] (decQ (b.drop 1)) := by
  have hs : stepQ b = some ([b.getD 0 0], 1) := by
    unfold stepQ
    rw [if_neg h1, if_neg (by omega), if_neg (by omega)]
  rw [decQ_step hb, hs]
end Quo
structure QdS where
  esc : Bool
  x : Sl8
  k : Nat
  o : List Bt
  b : Nat
  cap : Nat
def QdS.left (z : QdS) : List Bt := if z.esc then z.x.l else z.x.l.drop z.k
theorem qd_f (x : Sl8) (k : Nat) (o : List Bt) (b cap : Nat) : QdS.left ⟨false, x, k, o, b, cap⟩ = x.l.drop k := rfl
theorem qd_t (x : Sl8) (k : Nat) (o : List Bt) (b cap : Nat) : QdS.left ⟨true, x, k, o, b, cap⟩ = x.l := rfl
set_option maxHeartbeats 64000000 in
theorem qdec_any (s : Sl8) (w : World) (hs : s.ok w) (hl : s.l.length ≤ 1099511627776) : Calls Tryz.prog 70 [s.v].toArray w
    fun e w' => ∃ q : Sl8, e = .returned (.tuple #[q.v, N (codeQ (decQ s.l))]) ∧ Ans q (outQ (decQ s.l)) ∧ Holds w [] q.ents w' := by
  refine enter (n := 73) Tryz.func70 rfl rfl rfl (Holds.start w []) ?_
  refine JC.seq (JC.region ?_)
  repeat (refine JL.q (by (apply OQ.assign; exact rfl)) rfl ?_)
  refine JL.nil (JE.next ?_)
  refine JC.scopes2 (ι := QdS) QdS.esc (fun z => [(0, z.x.v), (4, .slice (some ⟨z.b, 0, none⟩) z.o.length z.cap), (5, N z.k)]) (fun z => [⟨z.b, Sl.Own 5 1 z.o.length z.cap (z.o.map U8), true⟩])
    (fun z => 2 * z.left.length + (if z.esc then 0 else 1))
    (fun z => z.x.ok w ∧ z.x.l.length ≤ s.l.length ∧ (z.esc = false → z.k ≤ z.x.l.length) ∧ (z.esc = true → z.x.l.getD 0 0 = 61) ∧ z.o.length + 2 * z.left.length ≤ 2 * s.l.length ∧ decQ s.l = accQ z.o (decQ z.left)) rfl rfl ?_ ?_ ?_
  · rintro ⟨esc, x, k, o, b, cap⟩ he ⟨hx, hxl, hk, -, ho, hc⟩
    obtain rfl : esc = false := he
    rw [qd_f] at ho hc
    replace hk := hk rfl
    dsimp only at hx hxl hk ho hc ⊢
    have hy : (x.snd k).ok w := hx.snd k hk
    have hyl : (x.snd k).l = x.l.drop k := rfl
    have hyn : (x.snd k).l.length = x.l.length - k := by rw [hyl, List.length_drop]
    repeat (first | refine JL.q (by first | (apply OQ.snd (s := x) (m := k); exact Tryz.underlying22; exact u8s; exact rfl; exact rfl; exact hk) | (apply OQ.move; exact rfl) | (apply OQ.assign; exact rfl) | (apply OQ.len; exact rfl; exact rfl)) rfl ?_ | refine JC.seq ?_ | refine JC.region ?_ | refine JL.nil ?_ | refine JE.next ?_)
    rw [← hyl] at ho hc
    generalize x.snd k = y at hy hyl hyn ho hc ⊢
    clear hyl
    have hyL : y.l.length ≤ s.l.length := by omega
    have hxk : (x.l.drop k).length = y.l.length := by rw [List.length_drop]; exact hyn.symm
    cases h0 : decide ((y.l.length : Int) = 0)
    · have i0 : 0 < y.l.length := by have := of_decide_eq_false h0; omega
      have hne : y.l ≠ [] := List.length_pos_iff.1 i0
      have hcap := hy.len
      obtain ⟨ba, ja, hae, hca⟩ := hy.reads.at (by simp; omega)
      have hc0 := hca 0 _ (map_at U8 0 i0)
      have hav : y.v = .slice (some ⟨ba, ja, none⟩) y.l.length y.cap := by rw [← hae]; rfl
      repeat (first | refine JL.q (by (apply OQ.eqB (b := 0); exact rfl; exact rfl; exact h0)) rfl ?_ | refine JL.nil ?_ | refine JE.next ?_)
      refine JC.cond_false rfl rfl ?_
      cases h61 : decide (y.l.getD 0 0 = 61)
      · have n61 : ¬ y.l.getD 0 0 = 61 := of_decide_eq_false h61
        have cK := fun w' (hw' : Holds w [] [⟨b, Sl.Own 5 1 o.length cap (o.map U8), true⟩] w') => blanks_any y w' (hy.holds hw' rfl) (by omega)
        repeat (first | refine JL.q (by first | (apply OQ.idxS1 (i := 0); exact Tryz.underlying22; exact u8s; exact (congrArg some hav); exact rfl; exact i0) | (apply OQ.load_old; exact u8c; exact rfl; exact (block_lt_of_cell hc0); exact (by simp); exact hc0) | (apply OQ.eq8Q (b := 61); exact rfl; exact rfl; exact h61) | (apply OQ.move; exact rfl)) rfl ?_ | refine JC.seq ?_ | refine JC.region ?_ | refine JC.skip ?_ | refine JL.nil ?_ | refine JE.next ?_)
        refine JC.cond_false rfl rfl ?_
        have hbl := bkn_le y.l
        have hel := enq_le y.l
        cases hk0 : decide ((0 : Int) < (bkn y.l : Int))
        · have k0 : bkn y.l = 0 := by have := of_decide_eq_false hk0; omega
          have cE := fun w' (hw' : Holds w [] [⟨b, Sl.Own 5 1 o.length cap (o.map U8), true⟩] w') => ending_any y w' (hy.holds hw' rfl)
          repeat (first | refine JL.q (by first | (apply OQ.callx (vs := [y.v]); exact goes_qblanks; exact rfl; exact cK) | (apply OQ.gtrB (b := 0); exact rfl; exact rfl; exact hk0) | (apply OQ.move; exact rfl) | (apply OQ.assign; exact rfl)) rfl ?_ | refine JC.seq ?_ | refine JC.region ?_ | refine JC.skip ?_ | refine JL.nil ?_ | refine JE.next ?_)
          refine JC.cond_false rfl rfl ?_
          cases he0 : decide ((0 : Int) < (enq y.l : Int))
          · have e0 : enq y.l = 0 := by have := of_decide_eq_false he0; omega
            have hstep := dec_one hne n61 k0 e0
            repeat (first | refine JL.q (by first | (apply OQ.callx (vs := [y.v]); exact goes_qending; exact rfl; exact cE) | (apply OQ.gtrB (b := 0); exact rfl; exact rfl; exact he0) | (apply OQ.move; exact rfl) | (apply OQ.assign; exact rfl)) rfl ?_ | refine JC.seq ?_ | refine JC.region ?_ | refine JC.skip ?_ | refine JL.nil ?_ | refine JE.next ?_)
            refine JC.cond_false rfl rfl ?_
            repeat (first | refine JL.q (by first | (apply OQ.idxS1 (i := 0); exact Tryz.underlying22; exact u8s; exact (congrArg some hav); exact rfl; exact i0) | (apply OQ.load_old; exact u8c; exact rfl; exact (block_lt_of_cell hc0); exact (by simp); exact hc0) | (apply OQ.move; exact rfl)) rfl ?_ | refine JC.seq ?_ | refine JC.region ?_ | refine JC.skip ?_ | refine JE.next ?_)
            refine JL.push1 (v := U8 (y.l.getD 0 0)) (xs := o.map U8) (fun b' cap' => [⟨b', Sl.Own 5 1 (o.length + 1) cap' (o.map U8 ++ [U8 (y.l.getD 0 0)]), true⟩]) Tryz.underlying22 u8e rfl rfl rfl rfl (fun _ => rfl) (by intro _ _; repeat (first | exact Repl.here | apply Repl.there)) (by omega) (by omega) rfl rfl fun bl b' cap' => ?_
            repeat (first | refine JL.q (by (apply OQ.assign; exact rfl)) rfl ?_ | refine JC.seq ?_ | refine JC.region ?_ | refine JL.nil ?_ | refine JE.next ?_)
            refine JC.goto ?_
            repeat refine JE.then_goto ?_
            refine JE.jumps_to ⟨false, y, 1, o ++ [y.l.getD 0 0], b', cap'⟩ ⟨⟨hy, hyL, fun _ => i0, (fun h => by cases h), ?_, ?_⟩, ?_⟩ rfl ?_ ?_
            · show (o ++ [y.l.getD 0 0]).length + 2 * (y.l.drop (1)).length ≤ 2 * s.l.length; rw [List.length_append, List.length_drop]; simp only [List.length_cons, List.length_nil]; omega
            · rw [qd_f, ← accQ_acc, ← hstep]; exact hc
            · rw [qd_f, qd_f, List.length_drop (l := x.l), ← hyn, List.length_drop, if_neg Bool.false_ne_true]; omega
            · dsimp only; rw [List.length_append]; exact (by repeat (first | exact SubE.nil | refine SubE.cons _ _ _ rfl ?_))
            · dsimp only; rw [List.length_append, List.map_append]; exact Less.refl _
          · have e0 : 0 < enq y.l := by have := of_decide_eq_true he0; omega
            have hstep := dec_end e0
            repeat (first | refine JL.q (by first | (apply OQ.callx (vs := [y.v]); exact goes_qending; exact rfl; exact cE) | (apply OQ.gtrB (b := 0); exact rfl; exact rfl; exact he0) | (apply OQ.move; exact rfl) | (apply OQ.assign; exact rfl)) rfl ?_ | refine JC.seq ?_ | refine JC.region ?_ | refine JC.skip ?_ | refine JL.nil ?_ | refine JE.next ?_)
            refine JC.cond_true rfl rfl ?_
            repeat (first | refine JL.q (by (apply OQ.move; exact rfl)) rfl ?_ | refine JC.seq ?_ | refine JC.region ?_)
            refine JL.appendS (r := [13, 10]) (xs := o.map U8) (fun b' cap' => [⟨b', Sl.Own 5 1 (o.length + 2) cap' (o.map U8 ++ [13, 10].map U8), true⟩]) Tryz.underlying22 Tryz.underlying9 u8e rfl rfl (by intro _ _; repeat (first | exact Repl.here | apply Repl.there)) (by simp only [List.length_cons, List.length_nil]; omega) rfl fun b' cap' => ?_
            repeat (first | refine JL.q (by (apply OQ.assign; exact rfl)) rfl ?_ | refine JL.nil ?_ | refine JE.next ?_)
            refine JC.goto ?_
            repeat refine JE.then_goto ?_
            refine JE.jumps_to ⟨false, y, enq y.l, o ++ [13, 10], b', cap'⟩ ⟨⟨hy, hyL, fun _ => hel, (fun h => by cases h), ?_, ?_⟩, ?_⟩ rfl ?_ ?_
            · show (o ++ [13, 10]).length + 2 * (y.l.drop (enq y.l)).length ≤ 2 * s.l.length; rw [List.length_append, List.length_drop]; simp only [List.length_cons, List.length_nil]; omega
            · rw [qd_f, ← accQ_acc, ← hstep]; exact hc
            · rw [qd_f, qd_f, List.length_drop (l := x.l), ← hyn, List.length_drop, if_neg Bool.false_ne_true]; omega
            · dsimp only; rw [List.length_append]; exact (by repeat (first | exact SubE.nil | refine SubE.cons _ _ _ rfl ?_))
            · dsimp only; rw [List.length_append, List.map_append]; exact Less.refl _
        · have k0 : 0 < bkn y.l := by have := of_decide_eq_true hk0; omega
          have hstep := dec_blanks n61 k0
          repeat (first | refine JL.q (by first | (apply OQ.callx (vs := [y.v]); exact goes_qblanks; exact rfl; exact cK) | (apply OQ.gtrB (b := 0); exact rfl; exact rfl; exact hk0) | (apply OQ.move; exact rfl) | (apply OQ.assign; exact rfl)) rfl ?_ | refine JC.seq ?_ | refine JC.region ?_ | refine JC.skip ?_ | refine JL.nil ?_ | refine JE.next ?_)
          refine JC.cond_true rfl rfl ?_
          have hz : (y.snd (bkn y.l)).ok w := hy.snd _ hbl
          have cE := fun w' (hw' : Holds w [] [⟨b, Sl.Own 5 1 o.length cap (o.map U8), true⟩] w') => ends_any (y.snd (bkn y.l)) w' (hz.holds hw' rfl)
          rw [show (y.snd (bkn y.l)).l = y.l.drop (bkn y.l) from rfl] at cE
          cases hE : endsq (y.l.drop (bkn y.l))
          · rw [hE, if_neg Bool.false_ne_true] at hstep
            have hT : (y.fst (bkn y.l)).ok w := hy.fst _
            have hTl : (y.fst (bkn y.l)).l = y.l.take (bkn y.l) := rfl
            have hTn : (y.fst (bkn y.l)).l.length = bkn y.l := by rw [hTl, List.length_take]; omega
            repeat (first | refine JL.q (by first | (apply OQ.snd (s := y) (m := bkn y.l); exact Tryz.underlying22; exact u8s; exact rfl; exact rfl; exact hbl) | (apply OQ.callbH (vs := [(y.snd (bkn y.l)).v]); exact goes_qends; exact rfl; exact cE; exact hE) | (apply OQ.not; exact rfl) | (apply OQ.move; exact rfl)) rfl ?_ | refine JC.seq ?_ | refine JC.region ?_ | refine JL.nil ?_ | refine JE.next ?_)
            refine JC.cond_true rfl rfl ?_
            repeat (first | refine JL.q (by first | (apply OQ.fst (s := y) (m := bkn y.l); exact Tryz.underlying22; exact u8s; exact rfl; exact rfl; exact hbl; exact hcap) | (apply OQ.move; exact rfl)) rfl ?_ | refine JC.region ?_)
            rw [← hTl] at hstep
            generalize y.fst (bkn y.l) = T at hT hTl hTn hstep ⊢
            refine JL.append (cs := T.l.map U8) (m := T.l.length) (xs := o.map U8) (fun b' cap' => [⟨b', Sl.Own 5 1 (o.length + T.l.length) cap' (o.map U8 ++ T.l.map U8), true⟩]) Tryz.underlying22 u8e rfl rfl (by intro _ _; repeat (first | exact Repl.here | apply Repl.there)) (by simp) (fun w' hw' => (hT.holds hw' rfl).reads) (fun v hv => by obtain ⟨c, _, rfl⟩ := List.mem_map.1 hv; rfl) rfl (by decide) (by omega) (by omega) rfl fun b' cap' => ?_
            repeat (first | refine JL.q (by (apply OQ.assign; exact rfl)) rfl ?_ | refine JL.nil ?_ | refine JE.next ?_)
            refine JC.goto ?_
            repeat refine JE.then_goto ?_
            refine JE.jumps_to ⟨false, y, bkn y.l, o ++ T.l, b', cap'⟩ ⟨⟨hy, hyL, fun _ => hbl, (fun h => by cases h), ?_, ?_⟩, ?_⟩ rfl ?_ ?_
            · show (o ++ T.l).length + 2 * (y.l.drop (bkn y.l)).length ≤ 2 * s.l.length; rw [List.length_append, List.length_drop]; omega
            · rw [qd_f, ← accQ_acc, ← hstep]; exact hc
            · rw [qd_f, qd_f, List.length_drop (l := x.l), ← hyn, List.length_drop, if_neg Bool.false_ne_true]; omega
            · dsimp only; rw [List.length_append]; exact (by repeat (first | exact SubE.nil | refine SubE.cons _ _ _ rfl ?_))
            · dsimp only; rw [List.length_append, List.map_append]; exact Less.refl _
          · rw [hE, if_pos rfl, accQ_nil] at hstep
            repeat (first | refine JL.q (by first | (apply OQ.snd (s := y) (m := bkn y.l); exact Tryz.underlying22; exact u8s; exact rfl; exact rfl; exact hbl) | (apply OQ.callbH (vs := [(y.snd (bkn y.l)).v]); exact goes_qends; exact rfl; exact cE; exact hE) | (apply OQ.not; exact rfl) | (apply OQ.move; exact rfl)) rfl ?_ | refine JC.seq ?_ | refine JC.region ?_ | refine JL.nil ?_ | refine JE.next ?_)
            refine JC.cond_false rfl rfl ?_
            repeat (first | refine JC.skip ?_ | refine JE.next ?_)
            refine JC.goto ?_
            repeat refine JE.then_goto ?_
            refine JE.jumps_to ⟨false, y, bkn y.l, o, b, cap⟩ ⟨⟨hy, hyL, fun _ => hbl, (fun h => by cases h), ?_, ?_⟩, ?_⟩ rfl (by repeat (first | exact SubE.nil | refine SubE.cons _ _ _ rfl ?_)) (Less.refl _)
            · show o.length + 2 * (y.l.drop (bkn y.l)).length ≤ 2 * s.l.length; rw [List.length_drop]; omega
            · rw [qd_f, ← hstep]; exact hc
            · show 2 * (y.l.drop (bkn y.l)).length + 1 < 2 * (x.l.drop k).length + 1; rw [hxk, List.length_drop]; omega
      · have e61 : y.l.getD 0 0 = 61 := of_decide_eq_true h61
        repeat (first | refine JL.q (by first | (apply OQ.idxS1 (i := 0); exact Tryz.underlying22; exact u8s; exact (congrArg some hav); exact rfl; exact i0) | (apply OQ.load_old; exact u8c; exact rfl; exact (block_lt_of_cell hc0); exact (by simp); exact hc0) | (apply OQ.eq8Q (b := 61); exact rfl; exact rfl; exact h61) | (apply OQ.move; exact rfl)) rfl ?_ | refine JC.seq ?_ | refine JC.region ?_ | refine JC.skip ?_ | refine JL.nil ?_ | refine JE.next ?_)
        refine JC.cond_true rfl rfl ?_
        refine JC.goto (JE.then_goto ?_)
        exact JE.jumps_to ⟨true, y, k, o, b, cap⟩ ⟨⟨hy, hyL, (fun h => by cases h), fun _ => e61, ho, hc⟩, by show 2 * y.l.length + 0 < 2 * (x.l.drop k).length + 1; rw [hxk]; omega⟩ rfl (by repeat (first | exact SubE.nil | refine SubE.cons _ _ _ rfl ?_)) (Less.refl _)
    · have e0 : y.l = [] := List.eq_nil_of_length_eq_zero (by have := of_decide_eq_true h0; omega)
      rw [e0] at hc
      rw [show decQ s.l = some o by rw [hc]; show some (o ++ []) = _; rw [List.append_nil]]
      repeat (first | refine JL.q (by (apply OQ.eqB (b := 0); exact rfl; exact rfl; exact h0)) rfl ?_ | refine JL.nil ?_ | refine JE.next ?_)
      refine JC.cond_true rfl rfl ?_
      repeat (first | refine JL.q (by first | (apply OQ.move; exact rfl) | (apply OQ.assign; exact rfl)) rfl ?_ | refine JC.seq ?_ | refine JC.region ?_ | refine JL.nil ?_ | refine JE.next ?_)
      refine JC.ret (JE.then_ret (JE.jumps_ret ?_))
      exact JE.ret2 rfl (RV.tmp rfl) (RV.tmp rfl) fun w' hw => ⟨⟨some ⟨b, 0, none⟩, cap, o⟩, rfl, ⟨rfl, nofun⟩, hw.weak (own_less rfl)⟩
  · rintro ⟨esc, x, k, o, b, cap⟩ he ⟨hx, hxl, -, h61, ho, hc⟩
    obtain rfl : esc = true := he
    rw [qd_t] at ho hc
    replace h61 := h61 rfl
    dsimp only at hx hxl h61 ho hc ⊢
    have hne : x.l ≠ [] := fun h => by rw [h] at h61; cases h61
    have i0 : 0 < x.l.length := List.length_pos_iff.2 hne
    have hcap := hx.len
    have cX := fun w' (hw' : Holds w [] [⟨b, Sl.Own 5 1 o.length cap (o.map U8), true⟩] w') => esc_any x w' (hx.holds hw' rfl)
    cases hh : hexs x.l
    · have hy : (x.snd 1).ok w := hx.snd 1 i0
      have hyl : (x.snd 1).l = x.l.drop 1 := rfl
      have hyn : (x.snd 1).l.length = x.l.length - 1 := by rw [hyl, List.length_drop]
      have hbl := bkn_le (x.snd 1).l
      have hm : 1 + bkn (x.snd 1).l ≤ x.l.length := by omega
      have hz : (x.snd (1 + bkn (x.snd 1).l)).ok w := hx.snd _ hm
      have hzl : (x.snd (1 + bkn (x.snd 1).l)).l = x.l.drop (1 + bkn (x.l.drop 1)) := rfl
      have hzn : (x.snd (1 + bkn (x.snd 1).l)).l.length = x.l.length - (1 + bkn (x.snd 1).l) := by rw [hzl, List.length_drop]; rfl
      have hel := enq_le (x.snd (1 + bkn (x.snd 1).l)).l
      have eS : softQ x.l = if endsq (x.snd (1 + bkn (x.snd 1).l)).l then some (1 + bkn (x.snd 1).l + enq (x.snd (1 + bkn (x.snd 1).l)).l) else none := rfl
      have cK := fun w' (hw' : Holds w [] [⟨b, Sl.Own 5 1 o.length cap (o.map U8), true⟩] w') => blanks_any (x.snd 1) w' (hy.holds hw' rfl) (by omega)
      clear hyl hzl
      generalize bkn (x.snd 1).l = j at *
      generalize hyE : x.snd 1 = y at *
      have cE := fun w' (hw' : Holds w [] [⟨b, Sl.Own 5 1 o.length cap (o.map U8), true⟩] w') => ends_any (x.snd (1 + j)) w' (hz.holds hw' rfl)
      have cN := fun w' (hw' : Holds w [] [⟨b, Sl.Own 5 1 o.length cap (o.map U8), true⟩] w') => ending_any (x.snd (1 + j)) w' (hz.holds hw' rfl)
      generalize hzE : x.snd (1 + j) = z at *
      generalize hE : endsq z.l = ee at eS cE
      generalize enq z.l = q at *
      repeat (first | refine JL.q (by first | (apply OQ.callx (vs := [x.v]); exact goes_qesc; exact rfl; exact cX) | (apply OQ.extract; exact rfl; exact rfl) | (apply OQ.move; exact rfl) | (apply OQ.assign; exact rfl)) rfl ?_ | refine JC.seq ?_ | refine JC.region ?_ | refine JL.nil ?_ | refine JE.next ?_)
      refine JC.cond_false rfl (by rw [hh]; rfl) ?_
      repeat (first | refine JL.q (by first | (apply OQ.to; exact (OQ.snd (s := x) (m := 1) Tryz.underlying22 u8s rfl rfl i0); exact (congrArg Sl8.v hyE)) | (apply OQ.callx (vs := [y.v]); exact goes_qblanks; exact rfl; exact cK) | (apply OQ.addN (a := 1); exact rfl; exact rfl; exact (by omega)) | (apply OQ.move; exact rfl) | (apply OQ.assign; exact rfl)) rfl ?_ | refine JC.seq ?_ | refine JC.region ?_ | refine JC.skip ?_ | refine JL.nil ?_ | refine JE.next ?_)
      cases ee
      · rw [if_neg Bool.false_ne_true] at eS
        rw [dec_bad h61 hh eS] at hc
        rw [hc]
        repeat (first | refine JL.q (by first | (apply OQ.to; exact (OQ.snd (s := x) (m := 1 + j) Tryz.underlying22 u8s rfl rfl hm); exact (congrArg Sl8.v hzE)) | (apply OQ.callbH (vs := [z.v]); exact goes_qends; exact rfl; exact cE; exact rfl) | (apply OQ.not; exact rfl)) rfl ?_ | refine JL.nil ?_ | refine JE.next ?_)
        refine JC.cond_true rfl rfl ?_
        repeat (first | refine JL.q (by (apply OQ.assign; exact rfl)) rfl ?_ | refine JC.seq ?_ | refine JC.region ?_ | refine JL.nil ?_ | refine JE.next ?_)
        refine JC.ret (JE.then_ret (JE.jumps_ret ?_))
        exact JE.ret2 rfl (RV.tmp rfl) (RV.tmp rfl) fun w' hw => ⟨nilS, rfl, ⟨rfl, fun _ => rfl⟩, hw.weak (.drop _ _ _ (Less.refl _))⟩
      · rw [if_pos rfl] at eS
        rw [dec_soft h61 hh eS] at hc
        repeat (first | refine JL.q (by first | (apply OQ.to; exact (OQ.snd (s := x) (m := 1 + j) Tryz.underlying22 u8s rfl rfl hm); exact (congrArg Sl8.v hzE)) | (apply OQ.callbH (vs := [z.v]); exact goes_qends; exact rfl; exact cE; exact rfl) | (apply OQ.not; exact rfl)) rfl ?_ | refine JL.nil ?_ | refine JE.next ?_)
        refine JC.cond_false rfl rfl ?_
        repeat (first | refine JL.q (by first | (apply OQ.to; exact (OQ.snd (s := x) (m := 1 + j) Tryz.underlying22 u8s rfl rfl hm); exact (congrArg Sl8.v hzE)) | (apply OQ.callx (vs := [z.v]); exact goes_qending; exact rfl; exact cN) | (apply OQ.move; exact rfl) | (apply OQ.assign; exact rfl) | (apply OQ.addN; exact rfl; exact rfl; exact (by (try simp only []); omega))) rfl ?_ | refine JC.seq ?_ | refine JC.region ?_ | refine JC.skip ?_ | refine JL.nil ?_ | refine JE.next ?_)
        refine JC.goto ?_
        repeat refine JE.then_goto ?_
        refine JE.jumps_to ⟨false, x, 1 + j + q, o, b, cap⟩ ⟨⟨hx, hxl, fun _ => by dsimp only; omega, (fun h => by cases h), ?_, hc⟩, ?_⟩ rfl (by repeat (first | exact SubE.nil | refine SubE.cons _ _ _ rfl ?_)) (Less.refl _)
        · show o.length + 2 * (x.l.drop (1 + j + q)).length ≤ 2 * s.l.length; rw [List.length_drop]; omega
        · show 2 * (x.l.drop (1 + j + q)).length + 1 < 2 * x.l.length + 0; rw [List.length_drop]; omega
    · next c =>
      have h3 : 3 ≤ x.l.length := by
        unfold hexs at hh
        split at hh
        · next h => exact h.1
        · cases hh
      have hstep := dec_hex h61 hh
      rw [hh] at cX
      repeat (first | refine JL.q (by first | (apply OQ.callx (vs := [x.v]); exact goes_qesc; exact rfl; exact cX) | (apply OQ.extract; exact rfl; exact rfl) | (apply OQ.move; exact rfl) | (apply OQ.assign; exact rfl)) rfl ?_ | refine JC.seq ?_ | refine JC.region ?_ | refine JL.nil ?_ | refine JE.next ?_)
      refine JC.cond_true rfl rfl ?_
      repeat (first | refine JL.q (by (apply OQ.move; exact rfl)) rfl ?_ | refine JC.seq ?_ | refine JC.region ?_)
      refine JL.push1 (v := U8 c) (xs := o.map U8) (fun b' cap' => [⟨b', Sl.Own 5 1 (o.length + 1) cap' (o.map U8 ++ [U8 c]), true⟩]) Tryz.underlying22 u8e rfl rfl rfl rfl (fun _ => rfl) (by intro _ _; repeat (first | exact Repl.here | apply Repl.there)) (by omega) (by omega) rfl rfl fun bl b' cap' => ?_
      repeat (first | refine JL.q (by (apply OQ.assign; exact rfl)) rfl ?_ | refine JC.seq ?_ | refine JC.region ?_ | refine JL.nil ?_ | refine JE.next ?_)
      refine JC.goto ?_
      repeat refine JE.then_goto ?_
      refine JE.jumps_to ⟨false, x, 3, o ++ [c], b', cap'⟩ ⟨⟨hx, hxl, fun _ => h3, (fun h => by cases h), ?_, ?_⟩, ?_⟩ rfl ?_ ?_
      · show (o ++ [c]).length + 2 * (x.l.drop 3).length ≤ 2 * s.l.length; rw [List.length_append, List.length_drop]; simp only [List.length_cons, List.length_nil]; omega
      · rw [qd_f, ← accQ_acc, ← hstep]; exact hc
      · show 2 * (x.l.drop 3).length + 1 < 2 * x.l.length + 0; rw [List.length_drop]; omega
      · dsimp only; rw [List.length_append]; exact (by repeat (first | exact SubE.nil | refine SubE.cons _ _ _ rfl ?_))
      · dsimp only; rw [List.length_append, List.map_append]; exact Less.refl _
  · intro hp
    refine JC.seq (JC.region ?_)
    repeat (refine JL.q (by first | (apply OQ.move; exact rfl) | (apply OQ.len; exact rfl; exact rfl)) rfl ?_)
    refine JL.make0 (c := s.l.length) Tryz.underlying22 u8e rfl rfl (by omega) rfl fun b0 _ => ?_
    repeat (refine JL.q (by (apply OQ.assign; exact rfl)) rfl ?_)
    refine JL.nil (JE.next ?_)
    refine JC.seq (JC.region ?_)
    repeat (refine JL.q (by (apply OQ.assign; exact rfl)) rfl ?_)
    refine JL.nil (JE.next ?_)
    refine JC.seq (JC.label (JE.next ?_))
    exact (hp ⟨false, s, 0, [], b0, s.l.length⟩ rfl ⟨hs, Nat.le_refl _, fun _ => Nat.zero_le _, (fun h => by cases h), by rw [qd_f]; simp, by rw [qd_f, accQ_nil]; rfl⟩).weak (by repeat (first | exact SubE.nil | refine SubE.cons _ _ _ rfl ?_)) (Less.refl _)
end Go.Proofs.YtbbmhkdfdgnkpaaGreatDoor

/-
  Of no statement by itself: how the landed token reads values: comments, quoted texts, runs of bytes, ids: pure; no program stands here.
  Conditions: none but each lemma's own.
-/
namespace Go.Proofs.YtbbmhkdfdgnkpaaGreatDoor
namespace Tok
open Fld
/-! ### comments: what is left of one, so many begun in it, so many bytes behind -/
def commR : List Fld.By → Nat → Nat → Except Nat Nat
  | [], _, _ => .error 3
  | c :: r, d, k =>
    if c = 40 then (if 8 < d then .error 5 else commR r (d + 1) (k + 1))
    else if c = 41 then (if d - 1 = 0 then .ok (k + 1) else commR r (d - 1) (k + 1))
    else if c = 92 then
      match r with
      | [] => .error 3
      | _ :: r' => commR r' d (k + 2)
    else commR r d (k + 1)
theorem comm_40 (r : List Fld.By) (d k : Nat) : commR (40 :: r) d k = if 8 < d then .error 5 else commR r (d + 1) (k + 1) := by
  rw [commR.eq_def]; rfl
theorem comm_41 (r : List Fld.By) (d k : Nat) : commR (41 :: r) d k = if d - 1 = 0 then .ok (k + 1) else commR r (d - 1) (k + 1) := by
  rw [commR.eq_def]; rfl
theorem comm_92e (d k : Nat) : commR [92] d k = .error 3 := by rw [commR.eq_def]; rfl
theorem comm_92 (c : Fld.By) (r : List Fld.By) (d k : Nat) : commR (92 :: c :: r) d k = commR r d (k + 2) := by
  conv => lhs; rw [commR.eq_def]
  rfl
theorem comm_c {c : Fld.By} (h1 : ¬ c = 40) (h2 : ¬ c = 41) (h3 : ¬ c = 92) (r : List Fld.By) (d k : Nat) : commR (c :: r) d k = commR r d (k + 1) := by
  conv => lhs; rw [commR.eq_def]
  dsimp only
  rw [if_neg h1, if_neg h2, if_neg h3]
theorem comm_e (d k : Nat) : commR [] d k = .error 3 := by rw [commR.eq_def]
/-- a comment is one blank -/
theorem comm_bare : ∀ (n : Nat) (r : List Fld.By) (d k : Nat) (o : List Fld.By), r.length ≤ n → 0 < d →
    (∀ e, commR r d k = .error e → bareR r d false o = ([], e)) ∧ (∀ m, commR r d k = .ok m → k < m ∧ m ≤ k + r.length ∧ bareR r d false o = bareR (r.drop (m - k)) 0 false (o ++ [32])) := by
  intro n
  induction n with
  | zero =>
    intro r d k o h hd
    obtain rfl : r = [] := List.eq_nil_of_length_eq_zero (by omega)
    rw [comm_e, bare_end]
    refine ⟨fun e he => ?_, fun m hm => by cases hm⟩
    cases he
    rw [decide_eq_true (by omega), Bool.true_or, if_pos rfl]
  | succ n ih =>
    intro r d k o h hd
    match r, h with
    | [], _ =>
      rw [comm_e, bare_end]
      refine ⟨fun e he => ?_, fun m hm => by cases hm⟩
      cases he
      rw [decide_eq_true (by omega), Bool.true_or, if_pos rfl]
    | c :: r, h =>
      simp only [List.length_cons] at h ⊢
      have step : ∀ (r' : List Fld.By) (j d' : Nat) (o' : List Fld.By), r'.length ≤ n → 0 < d' → (∀ x, (c :: r).drop (j + x) = r'.drop x) → j + r'.length = r.length + 1 → 0 < j → o' = o → bareR (c :: r) d false o = bareR r' d' false o' →
          commR (c :: r) d k = commR r' d' (k + j) →
          (∀ e, commR (c :: r) d k = .error e → bareR (c :: r) d false o = ([], e)) ∧ (∀ m, commR (c :: r) d k = .ok m → k < m ∧ m ≤ k + (r.length + 1) ∧ bareR (c :: r) d false o = bareR ((c :: r).drop (m - k)) 0 false (o ++ [32])) := by
        intro r' j d' o' hl hd' hdr hjl hj ho hb hc
        subst ho
        obtain ⟨i1, i2⟩ := ih r' d' (k + j) o' hl hd'
        rw [hb, hc]
        refine ⟨i1, fun m hm => ?_⟩
        obtain ⟨a1, a2, a3⟩ := i2 m hm
        refine ⟨by omega, by omega, ?_⟩
        rw [a3, show m - k = j + (m - (k + j)) by omega, hdr]
      by_cases h40 : c = 40
      · subst h40
        by_cases h8 : 8 < d
        · rw [comm_40, if_pos h8]
          refine ⟨fun e he => ?_, fun m hm => by cases hm⟩
          cases he
          rw [bare_40, if_pos (by omega)]
        · exact step r 1 (d + 1) o (by omega) (by omega) (fun x => by rw [Nat.add_comm]; rfl) (by omega) (by omega) rfl (by rw [bare_40, if_neg (by omega)]) (by rw [comm_40, if_neg h8])
      · by_cases h41 : c = 41
        · subst h41
          by_cases h1 : d - 1 = 0
          · rw [comm_41, if_pos h1]
            refine ⟨fun e he => by (cases he), fun m hm => ?_⟩
            cases hm
            refine ⟨by omega, by omega, ?_⟩
            rw [bare_41, if_neg (by omega), if_pos h1, h1, show k + 1 - k = 1 by omega]
            rfl
          · exact step r 1 (d - 1) o (by omega) (by omega) (fun x => by rw [Nat.add_comm]; rfl) (by omega) (by omega) rfl (by rw [bare_41, if_neg (by omega), if_neg h1]) (by rw [comm_41, if_neg h1])
        · by_cases h92 : c = 92
          · subst h92
            match r, h with
            | [], _ =>
              rw [comm_92e, bare_d92e hd]
              exact ⟨fun e he => by cases he; rfl, fun m hm => by cases hm⟩
            | c2 :: r, h =>
              simp only [List.length_cons] at h
              exact step r 2 d o (by omega) hd (fun x => by rw [Nat.add_comm]; rfl) (by simp only [List.length_cons]; omega) (by omega) rfl (bare_d92 hd c2 r o) (comm_92 c2 r d k)
          · exact step r 1 d o (by omega) hd (fun x => by rw [Nat.add_comm]; rfl) (by omega) (by omega) rfl (bare_s h92 h40 h41 (by omega) r o) (comm_c h40 h41 h92 r d k)
/-! ### quoted texts: behind their first sign, where they end; 0, if they don't -/
def quotR : List Fld.By → Nat → Nat
  | [], _ => 0
  | c :: r, k =>
    if c = 92 then
      match r with
      | [] => 0
      | _ :: r' => quotR r' (k + 2)
    else if c = 34 then k + 1 else quotR r (k + 1)
theorem quot_e (k : Nat) : quotR [] k = 0 := by rw [quotR.eq_def]
theorem quot_34 (r : List Fld.By) (k : Nat) : quotR (34 :: r) k = k + 1 := by rw [quotR.eq_def]; rfl
theorem quot_92e (k : Nat) : quotR [92] k = 0 := by rw [quotR.eq_def]; rfl
theorem quot_92 (c : Fld.By) (r : List Fld.By) (k : Nat) : quotR (92 :: c :: r) k = quotR r (k + 2) := by
  conv => lhs; rw [quotR.eq_def]
  rfl
theorem quot_c {c : Fld.By} (h1 : ¬ c = 34) (h2 : ¬ c = 92) (r : List Fld.By) (k : Nat) : quotR (c :: r) k = quotR r (k + 1) := by
  conv => lhs; rw [quotR.eq_def]
  dsimp only
  rw [if_neg h2, if_neg h1]
theorem quot_bare : ∀ (n : Nat) (r : List Fld.By) (k : Nat) (o : List Fld.By), r.length ≤ n →
    (quotR r k = 0 → bareR r 0 true o = ([], 3)) ∧ (quotR r k ≠ 0 → k < quotR r k ∧ quotR r k ≤ k + r.length ∧ bareR r 0 true o = bareR (r.drop (quotR r k - k)) 0 false (o ++ r.take (quotR r k - k))) := by
  intro n
  induction n with
  | zero =>
    intro r k o h
    obtain rfl : r = [] := List.eq_nil_of_length_eq_zero (by omega)
    rw [quot_e, bare_end]
    exact ⟨fun _ => rfl, fun h => absurd rfl h⟩
  | succ n ih =>
    intro r k o h
    match r, h with
    | [], _ =>
      rw [quot_e, bare_end]
      exact ⟨fun _ => rfl, fun h => absurd rfl h⟩
    | c :: r, h =>
      simp only [List.length_cons] at h ⊢
      by_cases h92 : c = 92
      · subst h92
        match r, h with
        | [], _ =>
          rw [quot_92e, bare_q92e]
          exact ⟨fun _ => rfl, fun h => absurd rfl h⟩
        | c2 :: r, h =>
          simp only [List.length_cons] at h ⊢
          obtain ⟨i1, i2⟩ := ih r (k + 2) (o ++ [92] ++ [c2]) (by omega)
          rw [quot_92, bare_q92]
          refine ⟨i1, fun hn => ?_⟩
          obtain ⟨a1, a2, a3⟩ := i2 hn
          refine ⟨by omega, by omega, ?_⟩
          rw [a3, show quotR r (k + 2) - k = (quotR r (k + 2) - (k + 2)) + 1 + 1 by omega, List.drop_succ_cons, List.drop_succ_cons, List.take_succ_cons, List.take_succ_cons]
          simp
      · by_cases h34 : c = 34
        · subst h34
          rw [quot_34]
          refine ⟨fun h => absurd h (by omega), fun _ => ⟨by omega, by omega, ?_⟩⟩
          rw [bare_q (by decide), show k + 1 - k = 0 + 1 by omega, List.drop_succ_cons, List.take_succ_cons]
          rfl
        · obtain ⟨i1, i2⟩ := ih r (k + 1) (o ++ [c]) (by omega)
          rw [quot_c h34 h92, bare_q h92]
          have hb : (!(c == 34)) = true := by
            rw [Bool.not_eq_true', beq_eq_false_iff_ne]
            exact h34
          rw [hb]
          refine ⟨i1, fun hn => ?_⟩
          obtain ⟨a1, a2, a3⟩ := i2 hn
          refine ⟨by omega, by omega, ?_⟩
          rw [a3, show quotR r (k + 1) - k = (quotR r (k + 1) - (k + 1)) + 1 by omega, List.drop_succ_cons, List.take_succ_cons]
          simp
/-! ### one step of Bare -/
theorem step_comm {r : List Fld.By} {e : Nat} (o : List Fld.By) (h : commR (40 :: r) 0 0 = .error e) : bareR (40 :: r) 0 false o = ([], e) := by
  rw [comm_40, if_neg (by omega)] at h
  rw [bare_40, if_neg (by omega)]
  exact (comm_bare r.length r 1 1 o (Nat.le_refl _) (by omega)).1 e h
theorem step_comm_ok {r : List Fld.By} {m : Nat} (o : List Fld.By) (h : commR (40 :: r) 0 0 = .ok m) : 0 < m ∧ m ≤ r.length + 1 ∧ bareR (40 :: r) 0 false o = bareR ((40 :: r).drop m) 0 false (o ++ [32]) := by
  rw [comm_40, if_neg (by omega)] at h
  rw [bare_40, if_neg (by omega)]
  obtain ⟨h1, h2, h3⟩ := (comm_bare r.length r 1 1 o (Nat.le_refl _) (by omega)).2 m h
  refine ⟨by omega, by omega, ?_⟩
  rw [h3]
  obtain ⟨m', rfl⟩ : ∃ m', m = m' + 1 := ⟨m - 1, by omega⟩
  rfl
theorem step_quot {r : List Fld.By} (o : List Fld.By) (h : quotR r 1 = 0) : bareR (34 :: r) 0 false o = ([], 3) := by
  rw [bare_0 (by decide) (by decide)]
  exact (quot_bare r.length r 1 _ (Nat.le_refl _)).1 h
theorem step_quot_ok {r : List Fld.By} (o : List Fld.By) (h : quotR r 1 ≠ 0) : 1 < quotR r 1 ∧ quotR r 1 ≤ r.length + 1 ∧ bareR (34 :: r) 0 false o = bareR ((34 :: r).drop (quotR r 1)) 0 false (o ++ (34 :: r).take (quotR r 1)) := by
  rw [bare_0 (by decide) (by decide)]
  obtain ⟨h1, h2, h3⟩ := (quot_bare r.length r 1 (o ++ [34]) (Nat.le_refl _)).2 h
  refine ⟨h1, by omega, ?_⟩
  show bareR r 0 true (o ++ [34]) = _
  rw [h3]
  generalize quotR r 1 = m at h1 ⊢
  obtain ⟨m', rfl⟩ : ∃ m', m = m' + 1 := ⟨m - 1, by omega⟩
  simp
/-! ### runs of bytes -/
def runB (p : Fld.By → Bool) (s : List Fld.By) : Nat := (s.takeWhile p).length
theorem runB_le (p : Fld.By → Bool) (s : List Fld.By) : runB p s ≤ s.length := (List.takeWhile_sublist _).length_le
theorem runB_cons (p : Fld.By → Bool) (c : Fld.By) (s : List Fld.By) : runB p (c :: s) = if p c then runB p s + 1 else 0 := by
  unfold runB
  rw [List.takeWhile_cons]
  cases p c <;> simp
theorem runB_take (p : Fld.By → Bool) : ∀ s : List Fld.By, s.take (runB p s) = s.takeWhile p
  | [] => rfl
  | c :: s => by
    rw [runB_cons, List.takeWhile_cons]
    cases p c with
    | true => simp [runB_take p s]
    | false => simp
theorem runB_drop (p : Fld.By → Bool) : ∀ s : List Fld.By, s.drop (runB p s) = s.dropWhile p
  | [] => rfl
  | c :: s => by
    rw [runB_cons, List.dropWhile_cons]
    cases p c with
    | true => simp [runB_drop p s]
    | false => simp
theorem runB_all (p : Fld.By → Bool) : ∀ s : List Fld.By, (runB p s = s.length) ↔ s.all p = true
  | [] => by simp [runB]
  | c :: s => by
    rw [runB_cons, List.all_cons, List.length_cons]
    have ih := runB_all p s
    cases p c with
    | true => simpa using ih
    | false => simp
theorem atom_run (s : List Fld.By) : atomB s = (decide (s ≠ []) && decide (runB plainB s = s.length)) := by
  unfold atomB
  rw [Bool.eq_iff_iff, Bool.and_eq_true, Bool.and_eq_true, decide_eq_true_eq, decide_eq_true_eq, decide_eq_true_eq, runB_all, List.length_pos_iff]
  exact and_comm
theorem simple_run (s : List Fld.By) : simpleB s = (decide (s ≠ []) && decide (runB looseB s = s.length)) := by
  unfold simpleB
  rw [Bool.eq_iff_iff, Bool.and_eq_true, Bool.and_eq_true, decide_eq_true_eq, decide_eq_true_eq, decide_eq_true_eq, runB_all, List.length_pos_iff]
  exact and_comm
/-! ### ids -/
end Tok
end Go.Proofs.YtbbmhkdfdgnkpaaGreatDoor

/-
  Of no statement by itself: what the landed token's printed, run, made and Atom give.
  Conditions: each theorem's own.
-/
namespace Go.Proofs.YtbbmhkdfdgnkpaaGreatDoor
set_option maxRecDepth 10000
open Sl Fld Tok
theorem OQ.eq8T {P : Program} {n : Nat} {E : Env} {C : World → Prop} {dst : Option Tmp} {t t' ty : TypeId} {pos : String} {aft : Array Edge} {g : Option (Nat × Bool)} {x y : Operand} {a b : BitVec 8} {c : Bool} (hx : ev E x = some (U8 a)) (hy : ev E y = some (U8 b)) (h : decide (a = b) = c) : OQ P n E C ⟨dst, .binOp .eql t x y t', ty, pos, aft, g⟩ (.bool c) := h ▸ OQ.eq8 hx hy
theorem strC1 : scal Tryz.prog 9 = true := by kernel_rfl
/-! ### printed signs, but some -/
def prB (but : List Fld.By) (c : Fld.By) : Bool := (decide ((33 : Int) ≤ (c.toNat : Int)) && decide ((c.toNat : Int) ≤ 126)) && decide (ixC c but < 0)
def notAtom : List Fld.By := [40, 41, 60, 62, 64, 44, 59, 92, 34, 91, 93, 61, 47, 58, 63, 46]
def notWord : List Fld.By := [40, 41, 60, 62, 64, 44, 59, 92, 34, 91, 93, 61]
theorem prB_atom : prB notAtom = plainB := by
  funext c
  have h : ∀ c : Fin 256, prB notAtom (BitVec.ofNat 8 c.val) = plainB (BitVec.ofNat 8 c.val) := by decide +kernel
  simpa using h ⟨c.toNat, c.isLt⟩
theorem prB_word : prB notWord = looseB := by
  funext c
  have h : ∀ c : Fin 256, prB notWord (BitVec.ofNat 8 c.val) = looseB (BitVec.ofNat 8 c.val) := by decide +kernel
  simpa using h ⟨c.toNat, c.isLt⟩
theorem goes_printed : Goes Tryz.prog 78 := ⟨_, Tryz.func78, rfl, by kernel_rfl⟩
theorem goes_printed1 : Goes Tryz.prog 112 := ⟨_, Tryz.func112, rfl, by kernel_rfl⟩
theorem goes_run : Goes Tryz.prog 75 := ⟨_, Tryz.func75, rfl, by kernel_rfl⟩
theorem goes_made : Goes Tryz.prog 77 := ⟨_, Tryz.func77, rfl, by kernel_rfl⟩
theorem goes_atomA : Goes Tryz.prog 55 := ⟨_, Tryz.func55, rfl, by kernel_rfl⟩
theorem goes_comment : Goes Tryz.prog 121 := ⟨_, Tryz.func121, rfl, by kernel_rfl⟩
theorem goes_quoted : Goes Tryz.prog 122 := ⟨_, Tryz.func122, rfl, by kernel_rfl⟩
theorem goes_bareA : Goes Tryz.prog 90 := ⟨_, Tryz.func90, rfl, by kernel_rfl⟩
set_option maxHeartbeats 4000000 in
theorem printed1_any (but : List Fld.By) (b : Nat) (c : Bt) (w : World) (hc : w.cell? ⟨b, 0, none⟩ = some (Z but)) : Calls Tryz.prog 112 [U8 c, Pt b 0].toArray w fun e w' => e = .returned (.bool (prB but c)) ∧ Ext w w' := by
  refine enter (n := 16) Tryz.func112 rfl rfl rfl (Holds.start w []) ?_
  unfold prB
  cases h1 : decide ((33 : Int) ≤ (c.toNat : Int)) <;> cases h2 : decide ((c.toNat : Int) ≤ 126) <;> cases h3 : decide (ixC c but < 0)
  all_goals (repeat (first | refine JL.q (by first | (apply OQ.geqB (b := 33); exact rfl; exact rfl; exact h1) | (apply OQ.leqB (b := 126); exact rfl; exact rfl; exact h2) | (apply OQ.load_old; exact strC1; exact rfl; exact (block_lt_of_cell hc); exact (by simp); exact hc) | (apply OQ.callx (vs := [Z but, U8 c]); exact goes_idxb; exact rfl; exact (fun w' _ => idxb_any but c w')) | (apply OQ.lssB (b := 0); exact rfl; exact rfl; exact h3) | (apply OQ.pick_t; exact rfl; exact rfl) | (apply OQ.pick_f; exact rfl; exact rfl) | (apply OQ.move; exact rfl) | (apply OQ.assign; exact rfl)) rfl ?_ | refine JC.seq ?_ | refine JC.region ?_ | refine JL.nil ?_ | refine JE.next ?_ | refine JL.gon rfl rfl ?_ | refine JL.gskip rfl rfl rfl rfl ?_))
  all_goals exact JC.ret (JE.ret1 rfl (RV.tmp rfl) fun w' hw => ⟨rfl, hw.chg⟩)
/-- the function value that tells printed signs -/
@[reducible] def prF (b : Nat) : Value := .func (.func 112) #[] [Pt b 0].toArray
theorem fun_printed {w0 w : World} {S : List Nat} {M : List Ent} {b : Nat} {but : List Fld.By} {wr : Bool} (hw : Holds w0 S M w) (hM : Has M b (Row 9 [Z but]) wr) : Fun8 Tryz.prog w (prF b) (prB but) := by
  refine ⟨_, [Pt b 0], rfl, goes_printed1, fun c w' hx => printed1_any but b c w' ?_⟩
  obtain ⟨o, ho, hA⟩ := hw.get hM
  have hlt : b < w.heap.size := hw.lt hM.mem
  exact cell_of ((hx.block b hlt (by simp)).trans ho) (Row.cell rfl o hA)
theorem printed_any (but : List Fld.By) (w : World) : Calls Tryz.prog 78 [Z but].toArray w fun e w' => ∃ b, e = .returned (prF b) ∧ Holds w [] [⟨b, Row 9 [Z but], true⟩] w' := by
  refine enter (n := 4) Tryz.func78 rfl rfl rfl (Holds.start w []) ?_
  refine JC.seq (JC.region (JL.box (r := [Z but]) rfl rfl rfl fun b _ => ?_))
  repeat (first | refine JL.q (by first | (apply OQ.mkF (caps := [Pt b 0]); exact rfl) | (apply OQ.assign; exact rfl)) rfl ?_ | refine JC.seq ?_ | refine JC.region ?_ | refine JL.nil ?_ | refine JE.next ?_)
  exact JC.ret (JE.ret1 rfl (RV.tmp rfl) fun w' hw => ⟨b, rfl, hw⟩)
set_option maxHeartbeats 4000000 in
theorem run_any (s : List Bt) (fv : Value) (p : Bt → Bool) (w : World) (hF : Fun8 Tryz.prog w fv p) (hl : s.length < 9223372036854775808) : Calls Tryz.prog 75 [Z s, fv].toArray w fun e w' => e = .returned (N (runB p s)) ∧ Ext w w' := by
  refine enter (n := 21) Tryz.func75 rfl rfl rfl (Holds.start w []) ?_
  repeat (first | refine JL.q (by first | (apply OQ.lenS; exact Tryz.underlying9; exact rfl) | (apply OQ.move; exact rfl) | (apply OQ.assign; exact rfl)) rfl ?_ | refine JC.seq ?_ | refine JC.region ?_ | refine JC.block ?_ | refine JL.nil ?_ | refine JE.next ?_)
  refine JC.loop (fun i : Nat => [(0, Z s), (1, fv), (7, N s.length), (8, N i)]) (fun _ => []) (fun i => s.length - i) (fun i => i ≤ s.length ∧ runB p s = i + runB p (s.drop i)) 0 ⟨Nat.zero_le _, by simp⟩ (by repeat (first | exact SubE.nil | refine SubE.cons _ _ _ rfl ?_)) (Less.refl _) ?_
  rintro i ⟨hi, ha⟩
  repeat (first | refine JL.q (by (apply OQ.lssN; exact rfl; exact rfl)) rfl ?_ | refine JC.seq ?_ | refine JC.region ?_ | refine JL.nil ?_ | refine JE.next ?_)
  refine JC.cond rfl (fun h => ?_) (fun h => ?_)
  · have hi' : i < s.length := of_decide_eq_true h
    clear h hi
    have hd : s.drop i = s.getD i 0 :: s.drop (i + 1) := by rw [List.drop_eq_getElem_cons hi', List.getD_eq_getElem?_getD, List.getElem?_eq_getElem hi']; rfl
    rw [hd, runB_cons] at ha
    have i0 := fun {n : Nat} {E : Env} {C : World → Prop} {dst : Option Tmp} {ty : TypeId} {pos : String} {aft : Array Edge} {g : Option (Nat × Bool)} {x y : Operand} => idxAt10 hi' (n := n) (E := E) (C := C) (dst := dst) (ty := ty) (pos := pos) (aft := aft) (g := g) (x := x) (y := y)
    generalize s.getD i 0 = c at ha i0
    cases h1 : p c
    · rw [h1, if_neg (by decide), Nat.add_zero] at ha
      rw [ha]
      repeat (first | refine JL.q (by first | (apply i0; exact rfl; exact rfl) | (apply OQ.callF; exact hF; exact rfl; exact rfl; exact h1) | (apply OQ.not; exact rfl) | (apply OQ.move; exact rfl) | (apply OQ.assign; exact rfl)) rfl ?_ | refine JC.seq ?_ | refine JC.region ?_ | refine JC.block ?_ | refine JC.skip ?_ | refine JL.nil ?_ | refine JE.next ?_)
      refine JC.cond rfl (fun _ => ?_) (fun h => by cases h)
      repeat (first | refine JL.q (by first | (apply OQ.move; exact rfl) | (apply OQ.assign; exact rfl)) rfl ?_ | refine JC.seq ?_ | refine JC.region ?_ | refine JL.nil ?_ | refine JE.next ?_)
      refine JC.ret ?_
      repeat (first | refine JE.then_ret ?_ | refine JE.blk_ret ?_)
      exact JE.ret1 rfl (RV.tmp rfl) fun w' hw => ⟨rfl, hw.chg⟩
    · rw [h1, if_pos rfl] at ha
      repeat (first | refine JL.q (by first | (apply i0; exact rfl; exact rfl) | (apply OQ.callF; exact hF; exact rfl; exact rfl; exact h1) | (apply OQ.not; exact rfl) | (apply OQ.move; exact rfl) | (apply OQ.assign; exact rfl)) rfl ?_ | refine JC.seq ?_ | refine JC.region ?_ | refine JC.block ?_ | refine JC.skip ?_ | refine JL.nil ?_ | refine JE.next ?_)
      refine JC.cond rfl (fun h => by cases h) (fun _ => ?_)
      repeat (first | refine JL.q (by first | (apply OQ.move; exact rfl) | (apply OQ.addN; exact rfl; exact rfl; exact (by (try simp only []); omega))) rfl ?_ | refine JC.region ?_ | refine JC.skip ?_ | refine JL.nil ?_ | refine JE.next ?_ | refine JE.blk_normal ?_)
      exact JE.again (i := i) (i + 1) ⟨hi', by omega⟩ (by omega) (by repeat (first | exact SubE.nil | refine SubE.cons _ _ _ rfl ?_)) (Less.refl _)
  · have hi' : ¬ i < s.length := of_decide_eq_false h
    obtain rfl : i = s.length := by omega
    clear h hi hi'
    rw [List.drop_length] at ha
    have : runB p s = s.length := ha
    rw [this]
    repeat (first | refine JL.q (by first | (apply OQ.lenS; exact Tryz.underlying9; exact rfl) | (apply OQ.move; exact rfl) | (apply OQ.assign; exact rfl)) rfl ?_ | refine JC.seq ?_ | refine JC.region ?_ | refine JC.exit ?_ | refine JL.nil ?_ | refine JE.next ?_ | refine JE.then_exit ?_ | refine JE.blk_hit ?_)
    refine JC.ret ?_
    exact JE.ret1 rfl (RV.tmp rfl) fun w' hw => ⟨rfl, hw.chg⟩
def madeB (p : Fld.By → Bool) (s : List Fld.By) : Bool := !decide (s = []) && decide ((runB p s : Int) = (s.length : Int))
set_option maxHeartbeats 4000000 in
theorem made_any (s : List Bt) (fv : Value) (p : Bt → Bool) (w : World) (hF : Fun8 Tryz.prog w fv p) (hl : s.length < 9223372036854775808) : Calls Tryz.prog 77 [Z s, fv].toArray w fun e w' => e = .returned (.bool (madeB p s)) ∧ Ext w w' := by
  refine enter (n := 15) Tryz.func77 rfl rfl rfl (Holds.start w []) ?_
  unfold madeB
  cases h1 : decide (s = []) <;> cases h2 : decide ((runB p s : Int) = (s.length : Int))
  all_goals (repeat (first | refine JL.q (by first | (apply OQ.neSB (r := []); exact rfl; exact rfl; exact h1) | (apply OQ.callx (vs := [Z s, fv]); exact goes_run; exact rfl; exact (fun w' hw' => run_any s fv p w' (hF.holds hw') hl)) | (apply OQ.lenS; exact Tryz.underlying9; exact rfl) | (apply OQ.eqB; exact rfl; exact rfl; exact h2) | (apply OQ.pick_t; exact rfl; exact rfl) | (apply OQ.pick_f; exact rfl; exact rfl) | (apply OQ.move; exact rfl) | (apply OQ.assign; exact rfl)) rfl ?_ | refine JC.seq ?_ | refine JC.region ?_ | refine JL.nil ?_ | refine JE.next ?_ | refine JL.gon rfl rfl ?_ | refine JL.gskip rfl rfl rfl rfl ?_))
  all_goals exact JC.ret (JE.ret1 rfl (RV.tmp rfl) fun w' hw => ⟨rfl, hw.chg⟩)
theorem made_atom (s : List Fld.By) : madeB (prB notAtom) s = atomB s := by
  rw [atom_run, prB_atom]
  unfold madeB
  congr 1
  · cases s <;> simp
  · exact decide_eq_decide.2 (by omega)
theorem made_word (s : List Fld.By) : madeB (prB notWord) s = simpleB s := by
  rw [simple_run, prB_word]
  unfold madeB
  congr 1
  · cases s <;> simp
  · exact decide_eq_decide.2 (by omega)
set_option maxHeartbeats 4000000 in
theorem atomA_any (s : List Bt) (w : World) (hl : s.length < 9223372036854775808) : Calls Tryz.prog 55 [Z s].toArray w fun e w' => e = .returned (.bool (atomB s)) ∧ Ext w w' := by
  refine enter (n := 6) Tryz.func55 rfl rfl rfl (Holds.start w []) ?_
  rw [← made_atom]
  repeat (first | refine JL.q (by first | (apply OQ.move; exact rfl) | (apply OQ.assign; exact rfl)) rfl ?_ | refine JC.seq ?_ | refine JC.region ?_ | refine JL.nil ?_ | refine JE.next ?_)
  refine JL.callg (ι := Nat) (vs := [Z notAtom]) prF (fun b => [⟨b, Row 9 [Z notAtom], true⟩]) goes_printed rfl rfl (fun b e he => by rw [List.mem_singleton.1 he]) (fun w' _ => printed_any notAtom w') fun b => ?_
  repeat (first | refine JL.q (by first | (apply OQ.callx (vs := [Z s, prF b]); exact goes_made; exact rfl; exact (fun w' hw' => made_any s (prF b) (prB notAtom) w' (fun_printed hw' .here) hl)) | (apply OQ.assign; exact rfl)) rfl ?_ | refine JL.nil ?_ | refine JE.next ?_)
  exact JC.ret (JE.ret1 rfl (RV.tmp rfl) fun w' hw => ⟨rfl, hw.chg⟩)
end Go.Proofs.YtbbmhkdfdgnkpaaGreatDoor

/-
  Of no statement by itself: what the landed token's comment and quoted give.
  Conditions: each theorem's own.
-/
namespace Go.Proofs.YtbbmhkdfdgnkpaaGreatDoor
set_option maxRecDepth 10000
open Sl Fld Tok
theorem accE_own {e : TypeId} (p : Nat × Nat) (o : List Bt) : accE e (some p) (o.map U8) = [⟨p.1, Sl.Own e 1 o.length p.2 (o.map U8), true⟩] := by
  show [(⟨p.1, Sl.Own e 1 (o.map U8).length p.2 (o.map U8), true⟩ : Ent)] = _
  rw [List.length_map]
theorem JC.scopeP {P : Program} {n : Nat} {w0 : World} {S : List Nat} {Q : Exit → Act → World → Prop} {E : Env} {M : List Ent} {ι : Type} (l : Nat) (Ei : ι → Env) (Mi : ι → List Ent) (μ : ι → Nat) (I : ι → Prop) {c rest : Code} (hf : findLabel c l = some (.seq .skip rest))
    (pass : ∀ i, I i → JC P n w0 S (Exit.jump l (Jmp n w0 S Ei Mi fun j => I j ∧ μ j < μ i) Q) rest (Ei i) (Mi i))
    (first : (∀ i, I i → JC P n w0 S (Exit.jump l (Jmp n w0 S Ei Mi I) Q) rest (Ei i) (Mi i)) → JC P n w0 S (Exit.jump l (Jmp n w0 S Ei Mi I) Q) c E M) : JC P n w0 S Q (.scope c) E M :=
  JC.scope l Ei Mi μ I hf (first fun i hi => (pass i hi).mono fun e a w hq => by
    cases e with
    | goto l' => exact ⟨hq.1, let ⟨j, h1, h2⟩ := hq.2; ⟨j, h1.1, h2⟩⟩
    | _ => exact hq) fun i hi => JC.seq (JC.skip (JE.next (pass i hi)))
/-! ### comments -/
def cmV (o : Except Nat Nat) : Value := match o with
  | .ok m => .tuple #[N m, N 0]
  | .error e => .tuple #[N 0, N e]
set_option maxHeartbeats 16000000 in
theorem comment_any (r : List Bt) (w : World) (hl : r.length < 9223372036854770000) : Calls Tryz.prog 121 [Z (40 :: r)].toArray w fun e w' => e = .returned (cmV (commR (40 :: r) 0 0)) ∧ Ext w w' := by
  refine enter (n := 32) Tryz.func121 rfl rfl rfl (Holds.start w []) ?_
  generalize hs : 40 :: r = s
  have hsl : s.length < 9223372036854770001 := by rw [← hs, List.length_cons]; omega
  have hs0 : s.getD 0 0 = 40 := by rw [← hs]; rfl
  clear hs
  repeat (refine JL.q (by fail) rfl ?_)
  refine JC.seq (JC.region ?_)
  repeat (refine JL.q (by (apply OQ.assign; exact rfl)) rfl ?_)
  refine JL.nil (JE.next ?_)
  refine JC.scopeP (ι := Nat × Nat) 0 (fun i => [(0, Z s), (4, N i.1), (5, N i.2)]) (fun _ => []) (fun i => s.length + 1 - i.1) (fun i => i.1 ≤ s.length + 1 ∧ i.2 ≤ 9 ∧ (0 < i.2 ∨ i.1 = 0) ∧ commR (s.drop i.1) i.2 i.1 = commR s 0 0) rfl ?_ ?_
  · rintro ⟨k, d⟩ ⟨hk, hd, h0, hc⟩
    dsimp only at hk hd h0 hc ⊢
    repeat (first | refine JL.q (by first | (apply OQ.lenS; exact Tryz.underlying9; exact rfl) | (apply OQ.move; exact rfl) | (apply OQ.geqN; exact rfl; exact rfl)) rfl ?_ | refine JC.seq ?_ | refine JC.region ?_ | refine JL.nil ?_ | refine JE.next ?_)
    refine JC.cond rfl (fun h => ?_) (fun h => ?_)
    · have hk' : s.length ≤ k := of_decide_eq_true h
      rw [List.drop_eq_nil_of_le hk', comm_e] at hc
      rw [← hc]
      repeat (first | refine JL.q (by (apply OQ.assign; exact rfl)) rfl ?_ | refine JC.seq ?_ | refine JC.region ?_ | refine JL.nil ?_ | refine JE.next ?_)
      refine JC.ret (JE.then_ret (JE.jump_ret ?_))
      exact JE.ret2 rfl (RV.tmp rfl) (RV.tmp rfl) fun w' hw => ⟨rfl, hw.chg⟩
    · have hk' : k < s.length := by have := of_decide_eq_false h; omega
      clear h hk
      have hdr : s.drop k = s.getD k 0 :: s.drop (k + 1) := by rw [List.drop_eq_getElem_cons hk', List.getD_eq_getElem?_getD, List.getElem?_eq_getElem hk']; rfl
      have h0' : 0 < d ∨ s.getD k 0 = 40 := h0.imp id fun h => by rw [h]; exact hs0
      clear h0
      rw [hdr] at hc
      have i0 := fun {n : Nat} {E : Env} {C : World → Prop} {dst : Option Tmp} {ty : TypeId} {pos : String} {aft : Array Edge} {g : Option (Nat × Bool)} {x y : Operand} => idxAt10 hk' (n := n) (E := E) (C := C) (dst := dst) (ty := ty) (pos := pos) (aft := aft) (g := g) (x := x) (y := y)
      generalize s.getD k 0 = c at hc i0 h0'
      cases h40 : decide (c = 40)
      · cases h41 : decide (c = 41)
        · cases h92 : decide (c = 92)
          · rw [comm_c (of_decide_eq_false h40) (of_decide_eq_false h41) (of_decide_eq_false h92)] at hc
            have hd0 : 0 < d := h0'.resolve_right (of_decide_eq_false h40)
            repeat (first | refine JL.q (by first | (apply i0; exact rfl; exact rfl) | (apply OQ.eq8T (b := 40); exact rfl; exact rfl; exact h40) | (apply OQ.move; exact rfl) | (apply OQ.assign; exact rfl)) rfl ?_ | refine JC.seq ?_ | refine JC.region ?_ | refine JC.block ?_ | refine JC.skip ?_ | refine JL.nil ?_ | refine JE.next ?_)
            refine JC.cond rfl (fun h => by cases h) (fun _ => ?_)
            repeat (first | refine JL.q (by first | (apply OQ.eq8T (b := 41); exact rfl; exact rfl; exact h41) | (apply OQ.assign; exact rfl)) rfl ?_ | refine JC.seq ?_ | refine JC.region ?_ | refine JL.nil ?_ | refine JE.next ?_)
            refine JC.cond rfl (fun h => by cases h) (fun _ => ?_)
            repeat (first | refine JL.q (by first | (apply OQ.eq8T (b := 92); exact rfl; exact rfl; exact h92) | (apply OQ.assign; exact rfl)) rfl ?_ | refine JC.seq ?_ | refine JC.region ?_ | refine JL.nil ?_ | refine JE.next ?_)
            refine JC.cond rfl (fun h => by cases h) (fun _ => ?_)
            repeat (first | refine JL.q (by first | (apply OQ.move; exact rfl) | (apply OQ.assign; exact rfl) | (apply OQ.addN; exact rfl; exact rfl; exact (by (try simp only []); omega)) | (apply OQ.gtrN; exact rfl; exact rfl)) rfl ?_ | refine JC.seq ?_ | refine JC.region ?_ | refine JC.skip ?_ | refine JL.nil ?_ | refine JE.next ?_ | refine JE.blk_normal ?_)
            refine JC.cond rfl (fun _ => JC.goto (JE.then_goto ?_)) (fun h => absurd hd0 (of_decide_eq_false h))
            exact JE.jump_to (k + 1, d) ⟨⟨by dsimp only; omega, hd, Or.inl hd0, hc⟩, by dsimp only; omega⟩ (by repeat (first | exact SubE.nil | refine SubE.cons _ _ _ rfl ?_)) (Less.refl _)
          · rw [of_decide_eq_true h92] at hc
            have hd0 : 0 < d := h0'.resolve_right (of_decide_eq_false h40)
            have hc' : commR (s.drop (k + 2)) d (k + 2) = commR s 0 0 := by
              by_cases he : k + 1 < s.length
              · have hdr' : s.drop (k + 1) = s.getD (k + 1) 0 :: s.drop (k + 2) := by rw [List.drop_eq_getElem_cons he, List.getD_eq_getElem?_getD, List.getElem?_eq_getElem he]; rfl
                rw [hdr', comm_92] at hc
                exact hc
              · rw [List.drop_eq_nil_of_le (by omega), comm_92e] at hc
                rw [List.drop_eq_nil_of_le (by omega), comm_e]
                exact hc
            repeat (first | refine JL.q (by first | (apply i0; exact rfl; exact rfl) | (apply OQ.eq8T (b := 40); exact rfl; exact rfl; exact h40) | (apply OQ.move; exact rfl) | (apply OQ.assign; exact rfl)) rfl ?_ | refine JC.seq ?_ | refine JC.region ?_ | refine JC.block ?_ | refine JC.skip ?_ | refine JL.nil ?_ | refine JE.next ?_)
            refine JC.cond rfl (fun h => by cases h) (fun _ => ?_)
            repeat (first | refine JL.q (by first | (apply OQ.eq8T (b := 41); exact rfl; exact rfl; exact h41) | (apply OQ.assign; exact rfl)) rfl ?_ | refine JC.seq ?_ | refine JC.region ?_ | refine JL.nil ?_ | refine JE.next ?_)
            refine JC.cond rfl (fun h => by cases h) (fun _ => ?_)
            repeat (first | refine JL.q (by first | (apply OQ.eq8T (b := 92); exact rfl; exact rfl; exact h92) | (apply OQ.assign; exact rfl)) rfl ?_ | refine JC.seq ?_ | refine JC.region ?_ | refine JL.nil ?_ | refine JE.next ?_)
            refine JC.cond rfl (fun _ => ?_) (fun h => by cases h)
            repeat (first | refine JL.q (by first | (apply OQ.move; exact rfl) | (apply OQ.assign; exact rfl) | (apply OQ.addN; exact rfl; exact rfl; exact (by (try simp only []); omega)) | (apply OQ.gtrN; exact rfl; exact rfl)) rfl ?_ | refine JC.seq ?_ | refine JC.region ?_ | refine JL.nil ?_ | refine JE.next ?_ | refine JE.blk_normal ?_)
            refine JC.cond rfl (fun _ => JC.goto (JE.then_goto ?_)) (fun h => absurd hd0 (of_decide_eq_false h))
            exact JE.jump_to (k + 2, d) ⟨⟨by dsimp only; omega, hd, Or.inl hd0, hc'⟩, by dsimp only; omega⟩ (by repeat (first | exact SubE.nil | refine SubE.cons _ _ _ rfl ?_)) (Less.refl _)
        · have h40' : ¬ c = 40 := of_decide_eq_false h40
          rw [of_decide_eq_true h41, comm_41] at hc
          have hd0 : 0 < d := h0'.resolve_right h40'
          repeat (first | refine JL.q (by first | (apply i0; exact rfl; exact rfl) | (apply OQ.eq8T (b := 40); exact rfl; exact rfl; exact h40) | (apply OQ.move; exact rfl) | (apply OQ.assign; exact rfl)) rfl ?_ | refine JC.seq ?_ | refine JC.region ?_ | refine JC.block ?_ | refine JC.skip ?_ | refine JL.nil ?_ | refine JE.next ?_)
          refine JC.cond rfl (fun h => by cases h) (fun _ => ?_)
          repeat (first | refine JL.q (by first | (apply OQ.eq8T (b := 41); exact rfl; exact rfl; exact h41) | (apply OQ.assign; exact rfl)) rfl ?_ | refine JC.seq ?_ | refine JC.region ?_ | refine JL.nil ?_ | refine JE.next ?_)
          refine JC.cond rfl (fun _ => ?_) (fun h => by cases h)
          repeat (first | refine JL.q (by first | (apply OQ.move; exact rfl) | (apply OQ.assign; exact rfl) | (apply OQ.addN; exact rfl; exact rfl; exact (by (try simp only []); omega)) | (apply OQ.subN; exact rfl; exact rfl; exact (by (try simp only []); omega); exact (by (try simp only []); omega)) | (apply OQ.gtrN; exact rfl; exact rfl)) rfl ?_ | refine JC.seq ?_ | refine JC.region ?_ | refine JL.nil ?_ | refine JE.next ?_ | refine JE.blk_normal ?_)
          refine JC.cond rfl (fun h => ?_) (fun h => ?_)
          · have hd1 : 0 < d - 1 := of_decide_eq_true h
            rw [if_neg (by omega)] at hc
            refine JC.goto (JE.then_goto ?_)
            exact JE.jump_to (k + 1, d - 1) ⟨⟨by dsimp only; omega, by dsimp only; omega, Or.inl hd1, hc⟩, by dsimp only; omega⟩ (by repeat (first | exact SubE.nil | refine SubE.cons _ _ _ rfl ?_)) (Less.refl _)
          · have hd1 : ¬ 0 < d - 1 := of_decide_eq_false h
            rw [if_pos (by omega)] at hc
            rw [← hc]
            repeat (first | refine JL.q (by first | (apply OQ.move; exact rfl) | (apply OQ.assign; exact rfl)) rfl ?_ | refine JC.seq ?_ | refine JC.region ?_ | refine JC.skip ?_ | refine JL.nil ?_ | refine JE.next ?_)
            refine JC.ret (JE.jump_ret ?_)
            exact JE.ret2 rfl (RV.tmp rfl) (RV.tmp rfl) fun w' hw => ⟨rfl, hw.chg⟩
      · rw [of_decide_eq_true h40, comm_40] at hc
        clear h0'
        by_cases h8 : 8 < d
        · rw [if_pos h8] at hc
          rw [← hc]
          repeat (first | refine JL.q (by first | (apply i0; exact rfl; exact rfl) | (apply OQ.eq8T (b := 40); exact rfl; exact rfl; exact h40) | (apply OQ.move; exact rfl) | (apply OQ.assign; exact rfl)) rfl ?_ | refine JC.seq ?_ | refine JC.region ?_ | refine JC.block ?_ | refine JC.skip ?_ | refine JL.nil ?_ | refine JE.next ?_)
          refine JC.cond rfl (fun _ => ?_) (fun h => by cases h)
          repeat (first | refine JL.q (by first | (apply OQ.move; exact rfl) | (apply OQ.gtrN; exact rfl; exact rfl)) rfl ?_ | refine JC.seq ?_ | refine JC.region ?_ | refine JL.nil ?_ | refine JE.next ?_)
          refine JC.cond rfl (fun _ => ?_) (fun h => absurd h8 (of_decide_eq_false h))
          repeat (first | refine JL.q (by (apply OQ.assign; exact rfl)) rfl ?_ | refine JC.seq ?_ | refine JC.region ?_ | refine JL.nil ?_ | refine JE.next ?_)
          refine JC.ret ?_
          repeat (first | refine JE.then_ret ?_ | refine JE.blk_ret ?_)
          refine JE.jump_ret ?_
          exact JE.ret2 rfl (RV.tmp rfl) (RV.tmp rfl) fun w' hw => ⟨rfl, hw.chg⟩
        · rw [if_neg h8] at hc
          repeat (first | refine JL.q (by first | (apply i0; exact rfl; exact rfl) | (apply OQ.eq8T (b := 40); exact rfl; exact rfl; exact h40) | (apply OQ.move; exact rfl) | (apply OQ.assign; exact rfl)) rfl ?_ | refine JC.seq ?_ | refine JC.region ?_ | refine JC.block ?_ | refine JC.skip ?_ | refine JL.nil ?_ | refine JE.next ?_)
          refine JC.cond rfl (fun _ => ?_) (fun h => by cases h)
          repeat (first | refine JL.q (by first | (apply OQ.move; exact rfl) | (apply OQ.gtrN; exact rfl; exact rfl)) rfl ?_ | refine JC.seq ?_ | refine JC.region ?_ | refine JL.nil ?_ | refine JE.next ?_)
          refine JC.cond rfl (fun h => absurd (of_decide_eq_true h) h8) (fun _ => ?_)
          repeat (first | refine JL.q (by first | (apply OQ.move; exact rfl) | (apply OQ.assign; exact rfl) | (apply OQ.addN; exact rfl; exact rfl; exact (by (try simp only []); omega)) | (apply OQ.gtrN; exact rfl; exact rfl)) rfl ?_ | refine JC.seq ?_ | refine JC.region ?_ | refine JC.skip ?_ | refine JL.nil ?_ | refine JE.next ?_ | refine JE.blk_normal ?_)
          refine JC.cond rfl (fun _ => JC.goto (JE.then_goto ?_)) (fun h => absurd (Nat.succ_pos d) (of_decide_eq_false h))
          exact JE.jump_to (k + 1, d + 1) ⟨⟨by dsimp only; omega, by dsimp only; omega, Or.inl (Nat.succ_pos d), hc⟩, by dsimp only; omega⟩ (by repeat (first | exact SubE.nil | refine SubE.cons _ _ _ rfl ?_)) (Less.refl _)
  · intro hp
    refine JC.seq (JC.region ?_)
    repeat (refine JL.q (by (apply OQ.assign; exact rfl)) rfl ?_)
    refine JL.nil (JE.next ?_)
    refine JC.seq (JC.region ?_)
    repeat (refine JL.q (by (apply OQ.assign; exact rfl)) rfl ?_)
    refine JL.nil (JE.next ?_)
    refine JC.seq (JC.label (JE.next ?_))
    exact (hp (0, 0) ⟨Nat.zero_le _, Nat.zero_le _, Or.inr rfl, rfl⟩).weak (by repeat (first | exact SubE.nil | refine SubE.cons _ _ _ rfl ?_)) (Less.refl _)
/-! ### quoted texts -/
set_option maxHeartbeats 16000000 in
theorem quoted_any (c0 : Bt) (r : List Bt) (w : World) (hl : r.length < 9223372036854770000) : Calls Tryz.prog 122 [Z (c0 :: r)].toArray w fun e w' => e = .returned (N (quotR r 1)) ∧ Ext w w' := by
  refine enter (n := 21) Tryz.func122 rfl rfl rfl (Holds.start w []) ?_
  rw [show quotR r 1 = quotR ((c0 :: r).drop 1) 1 from rfl]
  generalize hs : c0 :: r = s
  have hsl : s.length < 9223372036854770001 := by rw [← hs, List.length_cons]; omega
  clear hs
  repeat (first | refine JL.q (by (apply OQ.assign; exact rfl)) rfl ?_ | refine JC.seq ?_ | refine JC.region ?_ | refine JC.block ?_ | refine JL.nil ?_ | refine JE.next ?_)
  refine JC.loop (fun k : Nat => [(0, Z s), (3, N k)]) (fun _ => []) (fun k => s.length + 1 - k) (fun k => k ≤ s.length + 1 ∧ quotR (s.drop k) k = quotR (s.drop 1) 1) 1 ⟨by omega, rfl⟩ (by repeat (first | exact SubE.nil | refine SubE.cons _ _ _ rfl ?_)) (Less.refl _) ?_
  rintro k ⟨hk, hc⟩
  repeat (first | refine JL.q (by first | (apply OQ.lenS; exact Tryz.underlying9; exact rfl) | (apply OQ.move; exact rfl) | (apply OQ.lssN; exact rfl; exact rfl)) rfl ?_ | refine JC.seq ?_ | refine JC.region ?_ | refine JL.nil ?_ | refine JE.next ?_)
  refine JC.cond rfl (fun h => ?_) (fun h => ?_)
  · have hk' : k < s.length := of_decide_eq_true h
    clear h hk
    have hdr : s.drop k = s.getD k 0 :: s.drop (k + 1) := by rw [List.drop_eq_getElem_cons hk', List.getD_eq_getElem?_getD, List.getElem?_eq_getElem hk']; rfl
    rw [hdr] at hc
    have i0 := fun {n : Nat} {E : Env} {C : World → Prop} {dst : Option Tmp} {ty : TypeId} {pos : String} {aft : Array Edge} {g : Option (Nat × Bool)} {x y : Operand} => idxAt10 hk' (n := n) (E := E) (C := C) (dst := dst) (ty := ty) (pos := pos) (aft := aft) (g := g) (x := x) (y := y)
    generalize s.getD k 0 = c at hc i0
    cases h92 : decide (c = 92)
    · cases h34 : decide (c = 34)
      · rw [quot_c (of_decide_eq_false h34) (of_decide_eq_false h92)] at hc
        repeat (first | refine JL.q (by first | (apply i0; exact rfl; exact rfl) | (apply OQ.eq8T (b := 92); exact rfl; exact rfl; exact h92) | (apply OQ.move; exact rfl) | (apply OQ.assign; exact rfl)) rfl ?_ | refine JC.seq ?_ | refine JC.region ?_ | refine JC.block ?_ | refine JC.skip ?_ | refine JL.nil ?_ | refine JE.next ?_)
        refine JC.cond rfl (fun h => by cases h) (fun _ => ?_)
        repeat (first | refine JL.q (by first | (apply OQ.eq8T (b := 34); exact rfl; exact rfl; exact h34) | (apply OQ.assign; exact rfl)) rfl ?_ | refine JC.seq ?_ | refine JC.region ?_ | refine JL.nil ?_ | refine JE.next ?_)
        refine JC.cond rfl (fun h => by cases h) (fun _ => ?_)
        repeat (first | refine JL.q (by first | (apply OQ.move; exact rfl) | (apply OQ.assign; exact rfl) | (apply OQ.addN; exact rfl; exact rfl; exact (by (try simp only []); omega))) rfl ?_ | refine JC.region ?_ | refine JC.skip ?_ | refine JL.nil ?_ | refine JE.next ?_ | refine JE.blk_normal ?_)
        exact JE.again (i := k) (k + 1) ⟨by omega, hc⟩ (by omega) (by repeat (first | exact SubE.nil | refine SubE.cons _ _ _ rfl ?_)) (Less.refl _)
      · rw [of_decide_eq_true h34, quot_34] at hc
        rw [← hc]
        repeat (first | refine JL.q (by first | (apply i0; exact rfl; exact rfl) | (apply OQ.eq8T (b := 92); exact rfl; exact rfl; exact h92) | (apply OQ.move; exact rfl) | (apply OQ.assign; exact rfl)) rfl ?_ | refine JC.seq ?_ | refine JC.region ?_ | refine JC.block ?_ | refine JC.skip ?_ | refine JL.nil ?_ | refine JE.next ?_)
        refine JC.cond rfl (fun h => by cases h) (fun _ => ?_)
        repeat (first | refine JL.q (by first | (apply OQ.eq8T (b := 34); exact rfl; exact rfl; exact h34) | (apply OQ.assign; exact rfl)) rfl ?_ | refine JC.seq ?_ | refine JC.region ?_ | refine JL.nil ?_ | refine JE.next ?_)
        refine JC.cond rfl (fun _ => ?_) (fun h => by cases h)
        repeat (first | refine JL.q (by first | (apply OQ.move; exact rfl) | (apply OQ.assign; exact rfl) | (apply OQ.addN; exact rfl; exact rfl; exact (by (try simp only []); omega))) rfl ?_ | refine JC.seq ?_ | refine JC.region ?_ | refine JL.nil ?_ | refine JE.next ?_)
        refine JC.ret ?_
        repeat (first | refine JE.then_ret ?_ | refine JE.blk_ret ?_)
        exact JE.ret1 rfl (RV.tmp rfl) fun w' hw => ⟨rfl, hw.chg⟩
    · rw [of_decide_eq_true h92] at hc
      have hc' : quotR (s.drop (k + 2)) (k + 2) = quotR (s.drop 1) 1 := by
        by_cases he : k + 1 < s.length
        · have hdr' : s.drop (k + 1) = s.getD (k + 1) 0 :: s.drop (k + 2) := by rw [List.drop_eq_getElem_cons he, List.getD_eq_getElem?_getD, List.getElem?_eq_getElem he]; rfl
          rw [hdr', quot_92] at hc
          exact hc
        · rw [List.drop_eq_nil_of_le (by omega), quot_92e] at hc
          rw [List.drop_eq_nil_of_le (by omega), quot_e]
          exact hc
      repeat (first | refine JL.q (by first | (apply i0; exact rfl; exact rfl) | (apply OQ.eq8T (b := 92); exact rfl; exact rfl; exact h92) | (apply OQ.move; exact rfl) | (apply OQ.assign; exact rfl)) rfl ?_ | refine JC.seq ?_ | refine JC.region ?_ | refine JC.block ?_ | refine JC.skip ?_ | refine JL.nil ?_ | refine JE.next ?_)
      refine JC.cond rfl (fun _ => ?_) (fun h => by cases h)
      repeat (first | refine JL.q (by first | (apply OQ.move; exact rfl) | (apply OQ.assign; exact rfl) | (apply OQ.addN; exact rfl; exact rfl; exact (by (try simp only []); omega))) rfl ?_ | refine JC.region ?_ | refine JL.nil ?_ | refine JE.next ?_ | refine JE.blk_normal ?_)
      exact JE.again (i := k) (k + 2) ⟨by omega, hc'⟩ (by omega) (by repeat (first | exact SubE.nil | refine SubE.cons _ _ _ rfl ?_)) (Less.refl _)
  · have hk' : s.length ≤ k := by have := of_decide_eq_false h; omega
    rw [List.drop_eq_nil_of_le hk', quot_e] at hc
    rw [← hc]
    repeat (first | refine JL.q (by (apply OQ.assign; exact rfl)) rfl ?_ | refine JC.seq ?_ | refine JC.region ?_ | refine JC.exit ?_ | refine JL.nil ?_ | refine JE.next ?_ | refine JE.then_exit ?_ | refine JE.blk_hit ?_)
    refine JC.ret ?_
    exact JE.ret1 rfl (RV.tmp rfl) fun w' hw => ⟨rfl, hw.chg⟩
/-! ### Bare -/
def needBa : Nat → List (Nat × Nat)
  | 2 => [(0, 25), (1, 26)]
  | 5 => [(3, 28), (4, 29)]
  | 6 => [(2, 27)]
  | 7 => [(5, 30)]
  | _ => []
def inpBa : Nat → List Nat
  | 2 => [8, 1]
  | _ => []
def eatBa : Nat → List Nat
  | 2 => [8]
  | _ => []
def srcBa : Nat → Option Nat
  | 6 => some 2
  | _ => none
def needBb : Nat → List (Nat × Nat)
  | 3 => [(1, 40), (2, 41)]
  | 4 => [(0, 39), (3, 42)]
  | 7 => [(5, 44), (6, 45)]
  | 8 => [(4, 43)]
  | 9 => [(7, 46)]
  | _ => []
def inpBb : Nat → List Nat
  | 4 => [10]
  | _ => []
def eatBb : Nat → List Nat
  | 4 => [10]
  | _ => []
def srcBb : Nat → Option Nat
  | 8 => some 4
  | _ => none
theorem comm_err : ∀ (n : Nat) (r : List Fld.By) (d k e : Nat), r.length ≤ n → commR r d k = .error e → decide ((e : Int) = 0) = false := by
  intro n
  induction n with
  | zero =>
    intro r d k e h hc
    obtain rfl : r = [] := List.eq_nil_of_length_eq_zero (by omega)
    rw [comm_e] at hc
    cases hc
    rfl
  | succ n ih =>
    intro r d k e h hc
    match r, h with
    | [], _ =>
      rw [comm_e] at hc
      cases hc
      rfl
    | c :: r, h =>
      simp only [List.length_cons] at h
      by_cases h40 : c = 40
      · rw [h40, comm_40] at hc
        split at hc
        · cases hc
          rfl
        · exact ih _ _ _ _ (by omega) hc
      by_cases h41 : c = 41
      · rw [h41, comm_41] at hc
        split at hc
        · cases hc
        · exact ih _ _ _ _ (by omega) hc
      by_cases h92 : c = 92
      · rw [h92] at hc
        match r, h with
        | [], _ =>
          rw [comm_92e] at hc
          cases hc
          rfl
        | c2 :: r, h =>
          rw [comm_92] at hc
          simp only [List.length_cons] at h
          exact ih _ _ _ _ (by omega) hc
      · rw [comm_c h40 h41 h92] at hc
        exact ih _ _ _ _ (by omega) hc
structure BaS where
  r : List Bt
  o : List Bt
  b : Nat
  cap : Nat
set_option maxHeartbeats 32000000 in
theorem bareA_any (s : List Bt) (w : World) (hl : s.length < 140000000) : Calls Tryz.prog 90 [Z s].toArray w fun e w' => e = .returned (.tuple #[Z (bareB s).1, N (bareB s).2]) ∧ Ext w w' := by
  refine enter (n := 49) Tryz.func90 rfl rfl rfl (Holds.start w []) ?_
  repeat (first | refine JL.q (by first | (apply OQ.lenS; exact Tryz.underlying9; exact rfl) | (apply OQ.move; exact rfl) | (apply OQ.assign; exact rfl)) rfl ?_ | refine JC.seq ?_ | refine JC.region ?_ | refine JL.nil ?_ | refine JE.next ?_)
  refine JL.make0 (c := s.length) Tryz.underlying22 u8e rfl rfl (by omega) rfl fun b0 _ => ?_
  repeat (first | refine JL.q (by (apply OQ.assign; exact rfl)) rfl ?_ | refine JC.seq ?_ | refine JC.block ?_ | refine JL.nil ?_ | refine JE.next ?_)
  refine JC.loop (fun z : BaS => [(0, Z z.r), (4, .slice (some ⟨z.b, 0, none⟩) z.o.length z.cap)]) (fun z => [⟨z.b, Sl.Own 5 1 z.o.length z.cap (z.o.map U8), true⟩]) (fun z => z.r.length) (fun z => z.r.length + z.o.length ≤ s.length ∧ bareB s = bareR z.r 0 false z.o) ⟨s, [], b0, s.length⟩ ⟨Nat.le_refl _, rfl⟩ (by repeat (first | exact SubE.nil | refine SubE.cons _ _ _ rfl ?_)) (Less.refl _) ?_
  rintro ⟨r, o, b, cap⟩ ⟨hlen, hc⟩
  dsimp only at hlen hc ⊢
  cases hr0 : decide (r = [])
  · obtain ⟨c, r, rfl⟩ : ∃ c r', r = c :: r' := by
      cases r with
      | nil => cases hr0
      | cons c r => exact ⟨c, r, rfl⟩
    have hrl : r.length + 1 + o.length ≤ s.length := by rw [List.length_cons] at hlen; exact hlen
    have i0 := fun {n : Nat} {E : Env} {C : World → Prop} {dst : Option Tmp} {ty : TypeId} {pos : String} {aft : Array Edge} {g : Option (Nat × Bool)} {x y : Operand} => idxAt10 (s := c :: r) (i := 0) (Nat.succ_pos _) (n := n) (E := E) (C := C) (dst := dst) (ty := ty) (pos := pos) (aft := aft) (g := g) (x := x) (y := y)
    rw [List.getD_cons_zero] at i0
    repeat (first | refine JL.q (by first | (apply OQ.neSB (r := []); exact rfl; exact rfl; exact hr0) | (apply OQ.move; exact rfl)) rfl ?_ | refine JC.seq ?_ | refine JC.region ?_ | refine JL.nil ?_ | refine JE.next ?_)
    refine JC.cond rfl (fun _ => ?_) (fun h => by cases h)
    cases h40 : decide (c = 40)
    · cases h41 : decide (c = 41)
      · cases h34 : decide (c = 34)
        · rw [bare_0 (of_decide_eq_false h40) (of_decide_eq_false h41), show (c == 34) = false from beq_eq_false_iff_ne.2 (of_decide_eq_false h34)] at hc
          replace hc : bareB s = bareR ((c :: r).drop 1) 0 false (o ++ (c :: r).take 1) := hc
          repeat (first | refine JL.q (by first | (apply i0; exact rfl; exact rfl) | (apply OQ.eq8T (b := 40); exact rfl; exact rfl; exact h40) | (apply OQ.move; exact rfl) | (apply OQ.assign; exact rfl)) rfl ?_ | refine JC.seq ?_ | refine JC.region ?_ | refine JC.block ?_ | refine JC.skip ?_ | refine JL.nil ?_ | refine JE.next ?_)
          refine JC.cond rfl (fun h => by cases h) (fun _ => ?_)
          repeat (first | refine JL.q (by first | (apply OQ.eq8T (b := 41); exact rfl; exact rfl; exact h41) | (apply OQ.assign; exact rfl)) rfl ?_ | refine JC.seq ?_ | refine JC.region ?_ | refine JL.nil ?_ | refine JE.next ?_)
          refine JC.cond rfl (fun h => by cases h) (fun _ => ?_)
          repeat (first | refine JL.q (by first | (apply OQ.eq8T (b := 34); exact rfl; exact rfl; exact h34) | (apply OQ.assign; exact rfl)) rfl ?_ | refine JC.seq ?_ | refine JC.region ?_ | refine JL.nil ?_ | refine JE.next ?_)
          refine JC.cond rfl (fun h => by cases h) (fun _ => ?_)
          repeat (first | refine JC.skip ?_ | refine JE.next ?_ | refine JE.blk_normal ?_)
          have hml : ((c :: r).take 1).length = 1 := by rw [List.length_take, List.length_cons]; omega
          have hdl : ((c :: r).drop 1).length = r.length + 1 - 1 := by rw [List.length_drop, List.length_cons]
          have hne : (c :: r).take 1 ≠ [] := fun h => by rw [h] at hml; rw [List.length_nil] at hml; omega
          have hlm : 1 ≤ (c :: r).length := by rw [List.length_cons]; omega
          let vs : Nat → X → Value := fun j x => match j with
            | 0 => .slice (some ⟨b, 0, none⟩) o.length cap
            | 1 => Z (c :: r)
            | 2 => N 1
            | 3 => Z ((c :: r).take 1)
            | 5 => Z (c :: r)
            | 6 => N 1
            | 7 => Z ((c :: r).drop 1)
            | 9 => Z ((c :: r).drop 1)
            | _ => .slice (some ⟨x.1, 0, none⟩) (o ++ (c :: r).take 1).length x.2
          let Ms : Nat → X → List Ent := fun j x => match j with
            | 4 => [⟨x.1, Sl.Own 5 1 (o ++ (c :: r).take 1).length x.2 ((o ++ (c :: r).take 1).map U8), true⟩]
            | 10 => [⟨b, Sl.Own 5 1 o.length cap (o.map U8), true⟩]
            | _ => []
          refine JC.growO (g := ⟨[(5, N 1)], 11, vs, Ms, needBb, inpBb, eatBb, srcBb, fun j => match j with | 0 => [(4, .slice (some ⟨b, 0, none⟩) o.length cap)] | 1 => [(0, Z (c :: r))] | 5 => [(0, Z (c :: r))] | _ => []⟩) [(8, 4), (9, 0)] [4] mixT (by repeat (first | exact SubE.nil | refine SubE.cons _ _ _ rfl ?_)) (fun j _ => match j with | 0 => (by repeat (first | exact SubE.nil | refine SubE.cons _ _ _ rfl ?_)) | 1 => (by repeat (first | exact SubE.nil | refine SubE.cons _ _ _ rfl ?_)) | 2 => .nil | 3 => .nil | 4 => .nil | 5 => (by repeat (first | exact SubE.nil | refine SubE.cons _ _ _ rfl ?_)) | _ + 6 => .nil) (Less.refl _) (by kernel_rfl) (by kernel_rfl) (by kernel_rfl) ?_ ?_
          · refine ⟨?_, ?_, ?_, ?_, ?_, ?_, ?_, ?_, ?_, ?_, trivial⟩
            iterate 4 (focus (intro x EF MF Q kk; (try refine JL.gon rfl rfl ?_); exact JL.q (by first | (apply OQ.subS_hi; exact Tryz.underlying9; exact rfl; exact rfl; exact hlm) | (apply OQ.move; exact rfl)) rfl (JL.nil (kk default nofun))))
            · intro x EF MF Q kk
              refine JL.lessM (M' := accE 5 (some (b, cap)) (o.map U8) ++ MF) ?_ (by show Less ([⟨b, Sl.Own 5 1 (o.map U8).length cap (o.map U8), true⟩] ++ MF) _; rw [List.length_map]; exact Less.refl _)
              refine JL.appendZ (r := (c :: r).take 1) (xs := o.map U8) (M := MF) (some (b, cap)) Tryz.underlying22 Tryz.underlying9 u8e (fun h => by cases h) (by rw [List.length_map]; rfl) rfl hne (by rw [List.length_map]; omega) rfl fun p => JL.nil ?_
              rw [← List.map_append, List.length_map, accE_own]
              exact kk p (fun k h => by cases h)
            iterate 3 (focus (intro x EF MF Q kk; (try refine JL.gon rfl rfl ?_); exact JL.q (by first | (apply OQ.subS_lo; exact Tryz.underlying9; exact rfl; exact rfl; exact hlm) | (apply OQ.move; exact rfl)) rfl (JL.nil (kk default nofun))))
            · intro x EF MF Q kk
              exact JL.q (OQ.assign rfl) rfl (JL.nil (kk (x 4) (fun k h => by cases h; rfl)))
            · (intro x EF MF Q kk; (try refine JL.gon rfl rfl ?_); exact JL.q (by (apply OQ.assign; exact rfl)) rfl (JL.nil (kk default nofun)))
          · intro x hx'
            have h84 := hx' 8 4 (by decide) rfl
            show JE _ _ _ _ _ [(4, .slice (some ⟨(x 8).1, 0, none⟩) (o ++ (c :: r).take 1).length (x 8).2), (0, Z ((c :: r).drop 1)), (5, N 1)] [⟨(x 4).1, Sl.Own 5 1 (o ++ (c :: r).take 1).length (x 4).2 ((o ++ (c :: r).take 1).map U8), true⟩]
            rw [h84]
            obtain ⟨b', cap'⟩ := x 4
            clear hx' h84 x vs Ms
            dsimp only
            repeat (refine JE.blk_normal ?_)
            exact JE.again (i := BaS.mk (c :: r) o b cap) (BaS.mk ((c :: r).drop 1) (o ++ (c :: r).take 1) b' cap') ⟨by dsimp only; rw [List.length_append]; omega, hc⟩ (by dsimp only; rw [List.length_cons]; omega) (by repeat (first | exact SubE.nil | refine SubE.cons _ _ _ rfl ?_)) (Less.refl _)
        · obtain rfl : c = 34 := of_decide_eq_true h34
          have cQ := fun w' => quoted_any 34 r w' (by omega)
          cases hq : decide ((quotR r 1 : Int) = 0)
          · have hqn : quotR r 1 ≠ 0 := by have := of_decide_eq_false hq; omega
            obtain ⟨m0, m1, hb⟩ := step_quot_ok o hqn
            rw [hb] at hc
            generalize quotR r 1 = m at cQ hq m0 m1 hc
            clear hb hqn
            repeat (first | refine JL.q (by first | (apply i0; exact rfl; exact rfl) | (apply OQ.eq8T (b := 40); exact rfl; exact rfl; exact h40) | (apply OQ.move; exact rfl) | (apply OQ.assign; exact rfl)) rfl ?_ | refine JC.seq ?_ | refine JC.region ?_ | refine JC.block ?_ | refine JC.skip ?_ | refine JL.nil ?_ | refine JE.next ?_)
            refine JC.cond rfl (fun h => by cases h) (fun _ => ?_)
            repeat (first | refine JL.q (by first | (apply OQ.eq8T (b := 41); exact rfl; exact rfl; exact h41) | (apply OQ.assign; exact rfl)) rfl ?_ | refine JC.seq ?_ | refine JC.region ?_ | refine JL.nil ?_ | refine JE.next ?_)
            refine JC.cond rfl (fun h => by cases h) (fun _ => ?_)
            repeat (first | refine JL.q (by first | (apply OQ.eq8T (b := 34); exact rfl; exact rfl; exact h34) | (apply OQ.assign; exact rfl)) rfl ?_ | refine JC.seq ?_ | refine JC.region ?_ | refine JL.nil ?_ | refine JE.next ?_)
            refine JC.cond rfl (fun _ => ?_) (fun h => by cases h)
            repeat (first | refine JL.q (by first | (apply OQ.callx (vs := [Z (34 :: r)]); exact goes_quoted; exact rfl; exact (fun w' _ => cQ w')) | (apply OQ.eqB (b := 0); exact rfl; exact rfl; exact hq) | (apply OQ.move; exact rfl) | (apply OQ.assign; exact rfl)) rfl ?_ | refine JC.seq ?_ | refine JC.region ?_ | refine JL.nil ?_ | refine JE.next ?_)
            refine JC.cond rfl (fun h => by cases h) (fun _ => ?_)
            repeat (first | refine JC.skip ?_ | refine JE.next ?_ | refine JE.blk_normal ?_)
            have hml : ((34 :: r).take m).length = m := by rw [List.length_take, List.length_cons]; omega
            have hdl : ((34 :: r).drop m).length = r.length + 1 - m := by rw [List.length_drop, List.length_cons]
            have hne : (34 :: r).take m ≠ [] := fun h => by rw [h] at hml; rw [List.length_nil] at hml; omega
            have hlm : m ≤ (34 :: r).length := by rw [List.length_cons]; omega
            let vs : Nat → X → Value := fun j x => match j with
              | 0 => .slice (some ⟨b, 0, none⟩) o.length cap
              | 1 => Z (34 :: r)
              | 2 => N m
              | 3 => Z ((34 :: r).take m)
              | 5 => Z (34 :: r)
              | 6 => N m
              | 7 => Z ((34 :: r).drop m)
              | 9 => Z ((34 :: r).drop m)
              | _ => .slice (some ⟨x.1, 0, none⟩) (o ++ (34 :: r).take m).length x.2
            let Ms : Nat → X → List Ent := fun j x => match j with
              | 4 => [⟨x.1, Sl.Own 5 1 (o ++ (34 :: r).take m).length x.2 ((o ++ (34 :: r).take m).map U8), true⟩]
              | 10 => [⟨b, Sl.Own 5 1 o.length cap (o.map U8), true⟩]
              | _ => []
            refine JC.growO (g := ⟨[(5, N m)], 11, vs, Ms, needBb, inpBb, eatBb, srcBb, fun j => match j with | 0 => [(4, .slice (some ⟨b, 0, none⟩) o.length cap)] | 1 => [(0, Z (34 :: r))] | 5 => [(0, Z (34 :: r))] | _ => []⟩) [(8, 4), (9, 0)] [4] mixT (by repeat (first | exact SubE.nil | refine SubE.cons _ _ _ rfl ?_)) (fun j _ => match j with | 0 => (by repeat (first | exact SubE.nil | refine SubE.cons _ _ _ rfl ?_)) | 1 => (by repeat (first | exact SubE.nil | refine SubE.cons _ _ _ rfl ?_)) | 2 => .nil | 3 => .nil | 4 => .nil | 5 => (by repeat (first | exact SubE.nil | refine SubE.cons _ _ _ rfl ?_)) | _ + 6 => .nil) (Less.refl _) (by kernel_rfl) (by kernel_rfl) (by kernel_rfl) ?_ ?_
            · refine ⟨?_, ?_, ?_, ?_, ?_, ?_, ?_, ?_, ?_, ?_, trivial⟩
              iterate 4 (focus (intro x EF MF Q kk; (try refine JL.gon rfl rfl ?_); exact JL.q (by first | (apply OQ.subS_hi; exact Tryz.underlying9; exact rfl; exact rfl; exact hlm) | (apply OQ.move; exact rfl)) rfl (JL.nil (kk default nofun))))
              · intro x EF MF Q kk
                refine JL.lessM (M' := accE 5 (some (b, cap)) (o.map U8) ++ MF) ?_ (by show Less ([⟨b, Sl.Own 5 1 (o.map U8).length cap (o.map U8), true⟩] ++ MF) _; rw [List.length_map]; exact Less.refl _)
                refine JL.appendZ (r := (34 :: r).take m) (xs := o.map U8) (M := MF) (some (b, cap)) Tryz.underlying22 Tryz.underlying9 u8e (fun h => by cases h) (by rw [List.length_map]; rfl) rfl hne (by rw [List.length_map]; omega) rfl fun p => JL.nil ?_
                rw [← List.map_append, List.length_map, accE_own]
                exact kk p (fun k h => by cases h)
              iterate 3 (focus (intro x EF MF Q kk; (try refine JL.gon rfl rfl ?_); exact JL.q (by first | (apply OQ.subS_lo; exact Tryz.underlying9; exact rfl; exact rfl; exact hlm) | (apply OQ.move; exact rfl)) rfl (JL.nil (kk default nofun))))
              · intro x EF MF Q kk
                exact JL.q (OQ.assign rfl) rfl (JL.nil (kk (x 4) (fun k h => by cases h; rfl)))
              · (intro x EF MF Q kk; (try refine JL.gon rfl rfl ?_); exact JL.q (by (apply OQ.assign; exact rfl)) rfl (JL.nil (kk default nofun)))
            · intro x hx'
              have h84 := hx' 8 4 (by decide) rfl
              show JE _ _ _ _ _ [(4, .slice (some ⟨(x 8).1, 0, none⟩) (o ++ (34 :: r).take m).length (x 8).2), (0, Z ((34 :: r).drop m)), (5, N m)] [⟨(x 4).1, Sl.Own 5 1 (o ++ (34 :: r).take m).length (x 4).2 ((o ++ (34 :: r).take m).map U8), true⟩]
              rw [h84]
              obtain ⟨b', cap'⟩ := x 4
              clear hx' h84 x vs Ms
              dsimp only
              repeat (refine JE.blk_normal ?_)
              exact JE.again (i := BaS.mk (34 :: r) o b cap) (BaS.mk ((34 :: r).drop m) (o ++ (34 :: r).take m) b' cap') ⟨by dsimp only; rw [List.length_append]; omega, hc⟩ (by dsimp only; rw [List.length_cons]; omega) (by repeat (first | exact SubE.nil | refine SubE.cons _ _ _ rfl ?_)) (Less.refl _)
          · rw [step_quot o (by have := of_decide_eq_true hq; omega)] at hc
            rw [hc]
            generalize quotR r 1 = m at cQ hq
            repeat (first | refine JL.q (by first | (apply i0; exact rfl; exact rfl) | (apply OQ.eq8T (b := 40); exact rfl; exact rfl; exact h40) | (apply OQ.move; exact rfl) | (apply OQ.assign; exact rfl)) rfl ?_ | refine JC.seq ?_ | refine JC.region ?_ | refine JC.block ?_ | refine JC.skip ?_ | refine JL.nil ?_ | refine JE.next ?_)
            refine JC.cond rfl (fun h => by cases h) (fun _ => ?_)
            repeat (first | refine JL.q (by first | (apply OQ.eq8T (b := 41); exact rfl; exact rfl; exact h41) | (apply OQ.assign; exact rfl)) rfl ?_ | refine JC.seq ?_ | refine JC.region ?_ | refine JL.nil ?_ | refine JE.next ?_)
            refine JC.cond rfl (fun h => by cases h) (fun _ => ?_)
            repeat (first | refine JL.q (by first | (apply OQ.eq8T (b := 34); exact rfl; exact rfl; exact h34) | (apply OQ.assign; exact rfl)) rfl ?_ | refine JC.seq ?_ | refine JC.region ?_ | refine JL.nil ?_ | refine JE.next ?_)
            refine JC.cond rfl (fun _ => ?_) (fun h => by cases h)
            repeat (first | refine JL.q (by first | (apply OQ.callx (vs := [Z (34 :: r)]); exact goes_quoted; exact rfl; exact (fun w' _ => cQ w')) | (apply OQ.eqB (b := 0); exact rfl; exact rfl; exact hq) | (apply OQ.move; exact rfl) | (apply OQ.assign; exact rfl)) rfl ?_ | refine JC.seq ?_ | refine JC.region ?_ | refine JL.nil ?_ | refine JE.next ?_)
            refine JC.cond rfl (fun _ => ?_) (fun h => by cases h)
            repeat (first | refine JL.q (by (apply OQ.assign; exact rfl)) rfl ?_ | refine JC.seq ?_ | refine JC.region ?_ | refine JL.nil ?_ | refine JE.next ?_)
            refine JC.ret ?_
            repeat (first | refine JE.then_ret ?_ | refine JE.blk_ret ?_)
            exact JE.ret2 rfl (RV.tmp rfl) (RV.tmp rfl) fun w' hw => ⟨rfl, hw.chg⟩
      · rw [of_decide_eq_true h41, bare_41, if_pos rfl] at hc
        rw [hc]
        repeat (first | refine JL.q (by first | (apply i0; exact rfl; exact rfl) | (apply OQ.eq8T (b := 40); exact rfl; exact rfl; exact h40) | (apply OQ.move; exact rfl) | (apply OQ.assign; exact rfl)) rfl ?_ | refine JC.seq ?_ | refine JC.region ?_ | refine JC.block ?_ | refine JC.skip ?_ | refine JL.nil ?_ | refine JE.next ?_)
        refine JC.cond rfl (fun h => by cases h) (fun _ => ?_)
        repeat (first | refine JL.q (by first | (apply OQ.eq8T (b := 41); exact rfl; exact rfl; exact h41) | (apply OQ.assign; exact rfl)) rfl ?_ | refine JC.seq ?_ | refine JC.region ?_ | refine JL.nil ?_ | refine JE.next ?_)
        refine JC.cond rfl (fun _ => ?_) (fun h => by cases h)
        repeat (first | refine JL.q (by (apply OQ.assign; exact rfl)) rfl ?_ | refine JC.seq ?_ | refine JC.region ?_ | refine JL.nil ?_ | refine JE.next ?_)
        refine JC.ret ?_
        repeat (first | refine JE.then_ret ?_ | refine JE.blk_ret ?_)
        exact JE.ret2 rfl (RV.tmp rfl) (RV.tmp rfl) fun w' hw => ⟨rfl, hw.chg⟩
    · obtain rfl : c = 40 := of_decide_eq_true h40
      have cC := fun w' => comment_any r w' (by omega)
      cases hcm : commR (40 :: r) 0 0 with
      | error e =>
        rw [hcm] at cC
        have he := comm_err _ _ _ _ _ (Nat.le_refl _) hcm
        rw [step_comm o hcm] at hc
        rw [hc]
        repeat (first | refine JL.q (by first | (apply i0; exact rfl; exact rfl) | (apply OQ.eq8T (b := 40); exact rfl; exact rfl; exact h40) | (apply OQ.move; exact rfl) | (apply OQ.assign; exact rfl)) rfl ?_ | refine JC.seq ?_ | refine JC.region ?_ | refine JC.block ?_ | refine JC.skip ?_ | refine JL.nil ?_ | refine JE.next ?_)
        refine JC.cond rfl (fun _ => ?_) (fun h => by cases h)
        repeat (first | refine JL.q (by first | (apply OQ.callx (vs := [Z (40 :: r)]); exact goes_comment; exact rfl; exact (fun w' _ => cC w')) | (apply OQ.extract; exact rfl; exact rfl) | (apply OQ.neB (b := 0); exact rfl; exact rfl; exact he) | (apply OQ.move; exact rfl) | (apply OQ.assign; exact rfl)) rfl ?_ | refine JC.seq ?_ | refine JC.region ?_ | refine JL.nil ?_ | refine JE.next ?_)
        refine JC.cond rfl (fun _ => ?_) (fun h => by cases h)
        repeat (first | refine JL.q (by first | (apply OQ.move; exact rfl) | (apply OQ.assign; exact rfl)) rfl ?_ | refine JC.seq ?_ | refine JC.region ?_ | refine JL.nil ?_ | refine JE.next ?_)
        refine JC.ret ?_
        repeat (first | refine JE.then_ret ?_ | refine JE.blk_ret ?_)
        exact JE.ret2 rfl (RV.tmp rfl) (RV.tmp rfl) fun w' hw => ⟨rfl, hw.chg⟩
      | ok m =>
        rw [hcm] at cC
        obtain ⟨m0, m1, hb⟩ := step_comm_ok o hcm
        rw [hb] at hc
        repeat (first | refine JL.q (by first | (apply i0; exact rfl; exact rfl) | (apply OQ.eq8T (b := 40); exact rfl; exact rfl; exact h40) | (apply OQ.move; exact rfl) | (apply OQ.assign; exact rfl)) rfl ?_ | refine JC.seq ?_ | refine JC.region ?_ | refine JC.block ?_ | refine JC.skip ?_ | refine JL.nil ?_ | refine JE.next ?_)
        refine JC.cond rfl (fun _ => ?_) (fun h => by cases h)
        repeat (first | refine JL.q (by first | (apply OQ.callx (vs := [Z (40 :: r)]); exact goes_comment; exact rfl; exact (fun w' _ => cC w')) | (apply OQ.extract; exact rfl; exact rfl) | (apply OQ.neB (b := 0) (c := true); exact rfl; exact rfl; exact rfl) | (apply OQ.move; exact rfl) | (apply OQ.assign; exact rfl)) rfl ?_ | refine JC.seq ?_ | refine JC.region ?_ | refine JL.nil ?_ | refine JE.next ?_)
        refine JC.cond rfl (fun h => by cases h) (fun _ => ?_)
        repeat (first | refine JC.seq ?_ | refine JC.skip ?_ | refine JE.next ?_)
        have hdl : ((40 :: r).drop m).length = r.length + 1 - m := by rw [List.length_drop, List.length_cons]
        have hlm : m ≤ (40 :: r).length := by rw [List.length_cons]; omega
        let vs : Nat → X → Value := fun j x => match j with
          | 0 => .slice (some ⟨b, 0, none⟩) o.length cap
          | 1 => .slice (some ⟨x.1, 0, none⟩) 1 1
          | 3 => Z (40 :: r)
          | 4 => N m
          | 5 => Z ((40 :: r).drop m)
          | 7 => Z ((40 :: r).drop m)
          | _ => .slice (some ⟨x.1, 0, none⟩) (o ++ [32]).length x.2
        let Ms : Nat → X → List Ent := fun j x => match j with
          | 1 => [⟨x.1, Row 5 [U8 32], true⟩]
          | 2 => [⟨x.1, Sl.Own 5 1 (o ++ [32]).length x.2 ((o ++ [32]).map U8), true⟩]
          | 8 => [⟨b, Sl.Own 5 1 o.length cap (o.map U8), true⟩]
          | _ => []
        refine JC.growO (g := ⟨[(6, N m)], 9, vs, Ms, needBa, inpBa, eatBa, srcBa, fun j => match j with | 0 => [(4, .slice (some ⟨b, 0, none⟩) o.length cap)] | 3 => [(0, Z (40 :: r))] | _ => []⟩) [(6, 4), (7, 0)] [2] mixT (by repeat (first | exact SubE.nil | refine SubE.cons _ _ _ rfl ?_)) (fun j _ => match j with | 0 => (by repeat (first | exact SubE.nil | refine SubE.cons _ _ _ rfl ?_)) | 1 => .nil | 2 => .nil | 3 => (by repeat (first | exact SubE.nil | refine SubE.cons _ _ _ rfl ?_)) | _ + 4 => .nil) (Less.refl _) (by kernel_rfl) (by kernel_rfl) (by kernel_rfl) ?_ ?_
        · refine ⟨?_, ?_, ?_, ?_, ?_, ?_, ?_, ?_, trivial⟩
          · (intro x EF MF Q kk; (try refine JL.gon rfl rfl ?_); exact JL.q (by (apply OQ.move; exact rfl)) rfl (JL.nil (kk default nofun)))
          · intro x EF MF Q kk
            exact JL.lit1 Tryz.underlying22 u8e rfl rfl rfl rfl fun b _ => JL.nil (kk (b, 0) nofun)
          · intro x EF MF Q kk
            refine JL.lessM (M' := accE 5 (some (b, cap)) (o.map U8) ++ ⟨(x 1).1, Row 5 [U8 32], true⟩ :: MF) ?_ (by show Less ([⟨b, Sl.Own 5 1 (o.map U8).length cap (o.map U8), true⟩] ++ ⟨(x 1).1, Row 5 [U8 32], true⟩ :: MF) _; rw [List.length_map]; exact Less.refl _)
            refine JL.appendQ (cs := [U8 32]) (m := 1) (ad := some ⟨(x 1).1, 0, none⟩) (sc := 1) (xs := o.map U8) (M := ⟨(x 1).1, Row 5 [U8 32], true⟩ :: MF) (some (b, cap)) Tryz.underlying22 u8e (fun h => by cases h) (by rw [List.length_map]; rfl) rfl rfl (fun w' hw' => ?_) (fun v hv => by rw [List.mem_singleton.1 hv]; rfl) rfl (by rw [List.length_map]; omega) (by rw [List.length_map]; omega) rfl fun q' hq' => JL.nil ?_
            · have hw' : Holds _ _ (⟨b, Sl.Own 5 1 (o.map U8).length cap (o.map U8), true⟩ :: ⟨(x 1).1, Row 5 [U8 32], true⟩ :: MF) w' := hw'
              obtain ⟨o', ho, hA⟩ := hw'.get (.there .here)
              exact Reads.block ho (Row.all _ hA)
            · cases q' with
              | none => exact absurd (hq' rfl) (by simp)
              | some p =>
                rw [show o.map U8 ++ [U8 32] = (o ++ [32]).map U8 by rw [List.map_append]; rfl, List.length_map, accE_own]
                exact kk p (fun k h => by cases h)
          iterate 3 (focus (intro x EF MF Q kk; (try refine JL.gon rfl rfl ?_); exact JL.q (by first | (apply OQ.subS_lo; exact Tryz.underlying9; exact rfl; exact rfl; exact hlm) | (apply OQ.move; exact rfl)) rfl (JL.nil (kk default nofun))))
          · intro x EF MF Q kk
            exact JL.q (OQ.assign rfl) rfl (JL.nil (kk (x 2) (fun k h => by cases h; rfl)))
          · (intro x EF MF Q kk; (try refine JL.gon rfl rfl ?_); exact JL.q (by (apply OQ.assign; exact rfl)) rfl (JL.nil (kk default nofun)))
        · intro x hx'
          have h84 := hx' 6 2 (by decide) rfl
          show JE _ _ _ _ _ [(4, .slice (some ⟨(x 6).1, 0, none⟩) (o ++ [32]).length (x 6).2), (0, Z ((40 :: r).drop m)), (6, N m)] [⟨(x 2).1, Sl.Own 5 1 (o ++ [32]).length (x 2).2 ((o ++ [32]).map U8), true⟩]
          rw [h84]
          obtain ⟨b', cap'⟩ := x 2
          clear hx' h84 x vs Ms
          dsimp only
          repeat (first | refine JC.exit ?_ | refine JE.next ?_ | refine JE.then_exit ?_ | refine JE.blk_hit ?_ | refine JE.blk_miss rfl ?_)
          exact JE.again (i := BaS.mk (40 :: r) o b cap) (BaS.mk ((40 :: r).drop m) (o ++ [32]) b' cap') ⟨by dsimp only; rw [List.length_append, List.length_singleton]; omega, hc⟩ (by dsimp only; rw [List.length_cons]; omega) (by repeat (first | exact SubE.nil | refine SubE.cons _ _ _ rfl ?_)) (Less.refl _)
  · obtain rfl : r = [] := of_decide_eq_true hr0
    rw [bare_end, if_neg (by decide)] at hc
    rw [hc]
    repeat (first | refine JL.q (by first | (apply OQ.neSB (r := []); exact rfl; exact rfl; exact hr0) | (apply OQ.move; exact rfl)) rfl ?_ | refine JC.seq ?_ | refine JC.region ?_ | refine JL.nil ?_ | refine JE.next ?_)
    refine JC.cond rfl (fun h => by cases h) (fun _ => ?_)
    repeat (first | refine JL.q (by first | (apply OQ.b2s (s := ⟨some ⟨b, 0, none⟩, cap, o⟩); exact Tryz.underlying22; exact Tryz.underlying5; exact Tryz.underlying9; exact rfl; exact (fun w' hw' => ownb_ok hw' .here)) | (apply OQ.move; exact rfl) | (apply OQ.assign; exact rfl)) rfl ?_ | refine JC.seq ?_ | refine JC.region ?_ | refine JC.exit ?_ | refine JL.nil ?_ | refine JE.next ?_ | refine JE.then_exit ?_ | refine JE.blk_hit ?_)
    refine JC.ret ?_
    exact JE.ret2 rfl (RV.tmp rfl) (RV.tmp rfl) fun w' hw => ⟨rfl, hw.chg⟩
end Go.Proofs.YtbbmhkdfdgnkpaaGreatDoor

/-
  Of no statement by itself: strings.ToLower of bytes below 128 and Split at one byte, by the library's contracts over any program; strings.CutPrefix, CutSuffix and LastIndexByte at one byte by their bodies.
  Conditions: each theorem's own.
-/
namespace Go.Proofs.YtbbmhkdfdgnkpaaGreatDoor
set_option maxRecDepth 10000
open Sl Fld Go.Shelf
/-! ### small letters -/
def lowLaysRen : Ren := ⟨fun | 159 => 94 | 165 => 126 | 166 => 127 | 167 => 128 | 169 => 129 | 230 => 130 | 204 => 131 | 240 => 150 | 241 => 151 | 197 => 137 | 118 => 152 | 168 => 153 | 270 => 154 | 262 => 155 | 276 => 164 | 277 => 165 | 260 => 158 | 242 => 166 | 313 => 167 | 278 => 172 | 274 => 173 | 275 => 174 | n => n,
  fun | 9 => 9 | 4 => 4 | 3 => 3 | 5 => 5 | 72 => 149 | 0 => 0 | 76 => 153 | 75 => 152 | 107 => 158 | 70 => 147 | 20 => 20 | 37 => 22 | 127 => 174 | 21 => 21 | 105 => 92 | 164 => 185 | 162 => 191 | 203 => 189 | 119 => 167 | 46 => 141 | 139 => 170 | 138 => 169 | 51 => 173 | 160 => 196 | 208 => 202 | 206 => 200 | 80 => 156 | n => n,
  fun | 13 => 4 | 3 => 2 | 4 => 3 | n => n⟩
theorem lowLays : Lays.n159 Tryz.prog lowLaysRen := {
  mixed := by kernel_rfl
  f118 := Tryz.func152.trans (congrArg some (by kernel_rfl))
  f159 := Tryz.func94.trans (congrArg some (by kernel_rfl))
  f165 := Tryz.func126.trans (congrArg some (by kernel_rfl))
  f166 := Tryz.func127.trans (congrArg some (by kernel_rfl))
  f167 := Tryz.func128.trans (congrArg some (by kernel_rfl))
  f168 := Tryz.func153.trans (congrArg some (by kernel_rfl))
  f169 := Tryz.func129.trans (congrArg some (by kernel_rfl))
  f197 := Tryz.func137.trans (congrArg some (by kernel_rfl))
  f204 := Tryz.func131.trans (congrArg some (by kernel_rfl))
  f230 := Tryz.func130.trans (congrArg some (by kernel_rfl))
  f240 := Tryz.func150.trans (congrArg some (by kernel_rfl))
  f241 := Tryz.func151.trans (congrArg some (by kernel_rfl))
  f242 := Tryz.func166.trans (congrArg some (by kernel_rfl))
  f260 := Tryz.func158.trans (congrArg some (by kernel_rfl))
  f262 := Tryz.func155.trans (congrArg some (by kernel_rfl))
  f270 := Tryz.func154.trans (congrArg some (by kernel_rfl))
  f274 := Tryz.func173.trans (congrArg some (by kernel_rfl))
  f275 := Tryz.func174.trans (congrArg some (by kernel_rfl))
  f276 := Tryz.func164.trans (congrArg some (by kernel_rfl))
  f277 := Tryz.func165.trans (congrArg some (by kernel_rfl))
  f278 := Tryz.func172.trans (congrArg some (by kernel_rfl))
  f313 := Tryz.func167.trans (congrArg some (by kernel_rfl))
  t0 := Tryz.underlying0
  a0 := Tryz.isAgg0
  z0 := Tryz.sizeOf0
  v0 := Tryz.zeroValue0
  t3 := Tryz.underlying3
  a3 := Tryz.isAgg3
  z3 := Tryz.sizeOf3
  v3 := Tryz.zeroValue3
  t4 := Tryz.underlying4
  a4 := Tryz.isAgg4
  z4 := Tryz.sizeOf4
  v4 := Tryz.zeroValue4
  t5 := Tryz.underlying5
  a5 := Tryz.isAgg5
  z5 := Tryz.sizeOf5
  v5 := Tryz.zeroValue5
  t9 := Tryz.underlying9
  a9 := Tryz.isAgg9
  z9 := Tryz.sizeOf9
  v9 := Tryz.zeroValue9
  t20 := Tryz.underlying20
  a20 := Tryz.isAgg20
  z20 := Tryz.sizeOf20
  v20 := Tryz.zeroValue20
  t21 := Tryz.underlying21
  a21 := Tryz.isAgg21
  z21 := Tryz.sizeOf21
  v21 := Tryz.zeroValue21
  t37 := Tryz.underlying22
  a37 := Tryz.isAgg22
  z37 := Tryz.sizeOf22
  v37 := Tryz.zeroValue22
  t46 := Tryz.underlying141
  a46 := Tryz.isAgg141
  z46 := Tryz.sizeOf141
  v46 := Tryz.zeroValue141
  t51 := Tryz.underlying173
  a51 := Tryz.isAgg173
  z51 := Tryz.sizeOf173
  v51 := Tryz.zeroValue173
  t70 := Tryz.underlying147
  a70 := Tryz.isAgg147
  z70 := Tryz.sizeOf147
  v70 := Tryz.zeroValue147
  t72 := Tryz.underlying149
  a72 := Tryz.isAgg149
  z72 := Tryz.sizeOf149
  v72 := Tryz.zeroValue149
  t75 := Tryz.underlying152
  a75 := Tryz.isAgg152
  z75 := Tryz.sizeOf152
  v75 := Tryz.zeroValue152
  t76 := Tryz.underlying153
  a76 := Tryz.isAgg153
  z76 := Tryz.sizeOf153
  v76 := Tryz.zeroValue153
  t105 := Tryz.underlying92
  a105 := Tryz.isAgg92
  z105 := Tryz.sizeOf92
  v105 := Tryz.zeroValue92
  t107 := Tryz.underlying158
  a107 := Tryz.isAgg158
  z107 := Tryz.sizeOf158
  v107 := Tryz.zeroValue158
  t119 := Tryz.underlying167
  a119 := Tryz.isAgg167
  z119 := Tryz.sizeOf167
  t127 := Tryz.underlying174
  a127 := Tryz.isAgg174
  z127 := Tryz.sizeOf174
  v127 := Tryz.zeroValue174
  t138 := Tryz.underlying169
  a138 := Tryz.isAgg169
  z138 := Tryz.sizeOf169
  v138 := Tryz.zeroValue169
  t139 := Tryz.underlying170
  a139 := Tryz.isAgg170
  z139 := Tryz.sizeOf170
  v139 := Tryz.zeroValue170
  t160 := Tryz.underlying196
  a160 := Tryz.isAgg196
  z160 := Tryz.sizeOf196
  v160 := Tryz.zeroValue196
  t162 := Tryz.underlying191
  a162 := Tryz.isAgg191
  z162 := Tryz.sizeOf191
  v162 := Tryz.zeroValue191
  t164 := Tryz.underlying185
  a164 := Tryz.isAgg185
  z164 := Tryz.sizeOf185
  v164 := Tryz.zeroValue185
  t203 := Tryz.underlying189
  a203 := Tryz.isAgg189
  z203 := Tryz.sizeOf189
  v203 := Tryz.zeroValue189
  t206 := Tryz.underlying200
  a206 := Tryz.isAgg200
  z206 := Tryz.sizeOf200
  v206 := Tryz.zeroValue200
  t208 := Tryz.underlying202
  a208 := Tryz.isAgg202
  z208 := Tryz.sizeOf202
  v208 := Tryz.zeroValue202
  g3 := by kernel_rfl
  g4 := by kernel_rfl
  g13 := by kernel_rfl }
theorem lowX : Builder.Extra Tryz.prog lowLaysRen := {
  sizeBuilder := by kernel_rfl
  liesBuilder := by kernel_rfl
  t5 := Tryz.underlying5
  a5 := Tryz.isAgg5
  z5 := Tryz.sizeOf5
  v5 := Tryz.zeroValue5
  infoByte := by kernel_rfl
  cellsByte := by kernel_rfl
  sizeByte := by kernel_rfl
  neB5 := by decide }
theorem low_u8 (l : List Fld.By) : Go.Lib.toLowerA (Fld.u8s l) = Fld.u8s (l.map small) := by
  have h : ∀ c : Fin 256, Go.Lib.lowerB (UInt8.ofBitVec (BitVec.ofNat 8 c.val)) = UInt8.ofBitVec (small (BitVec.ofNat 8 c.val)) := by decide +kernel
  unfold Go.Lib.toLowerA Fld.u8s
  rw [List.map_map, List.map_map]
  refine List.map_congr_left fun c _ => ?_
  simpa using h ⟨c.toNat, c.isLt⟩
theorem goes_lower : Goes Tryz.prog 94 := ⟨_, Tryz.func94, rfl, by kernel_rfl⟩
theorem lower_any (s : List Bt) (w : World) (hl : s.length ≤ 140737488355328) (hs : ∀ c ∈ s, c.toNat < 128) : Calls Tryz.prog 94 [Z s].toArray w fun e w' => e = .returned (Z (s.map small)) ∧ Ext w w' :=
  (Any.strings_ToLower_ascii lowLays lowX (strB s) w (by rw [strB_size]; exact hl) (fun j b hb => by
    rw [strB_list] at hb
    obtain ⟨c, hc, rfl⟩ := List.mem_map.1 (List.mem_of_getElem? hb)
    exact hs c hc)).mono fun e w' ⟨h1, h2⟩ => ⟨by rw [h1, strB_list, low_u8, u8s_str], below_ext h2⟩
/-! ### texts parted at a byte -/
namespace Fld
end Fld
/-! ### one byte at an end -/
theorem goes_shp : Goes Tryz.prog 80 := ⟨_, Tryz.func80, rfl, by kernel_rfl⟩
theorem goes_scp : Goes Tryz.prog 148 := ⟨_, Tryz.func148, rfl, by kernel_rfl⟩
theorem goes_cpw : Goes Tryz.prog 124 := ⟨_, Tryz.func124, rfl, by kernel_rfl⟩
theorem head_is (s : List Fld.By) (c : Fld.By) : decide (s.head? = some c) = (decide ((1 : Int) ≤ (s.length : Int)) && decide (s.take 1 = [c])) := by
  cases s with
  | nil => simp
  | cons d r =>
    simp
    intro _
    omega
set_option maxHeartbeats 2000000 in
theorem shp_any (s : List Bt) (c : Bt) (w : World) : Calls Tryz.prog 80 [Z s, Z [c]].toArray w fun e w' => e = .returned (.bool (decide (s.head? = some c))) ∧ Ext w w' := by
  refine enter (n := 18) Tryz.func80 rfl rfl rfl (Holds.start w []) ?_
  rw [head_is]
  cases h1 : decide ((1 : Int) ≤ (s.length : Int))
  · repeat (first | refine JL.q (by first | (apply OQ.lenS; exact Tryz.underlying9; exact rfl) | (apply OQ.geqB (b := 1); exact rfl; exact rfl; exact h1) | (apply OQ.pick_f; exact rfl; exact rfl) | (apply OQ.move; exact rfl) | (apply OQ.assign; exact rfl)) rfl ?_ | refine JC.seq ?_ | refine JC.region ?_ | refine JL.nil ?_ | refine JE.next ?_ | refine JL.gskip rfl rfl rfl rfl ?_)
    exact JC.ret (JE.ret1 rfl (RV.tmp rfl) fun w' hw => ⟨rfl, hw.chg⟩)
  · have hle : 1 ≤ s.length := by have := of_decide_eq_true h1; omega
    cases h2 : decide (s.take 1 = [c])
    all_goals (repeat (first | refine JL.q (by first | (apply OQ.lenS; exact Tryz.underlying9; exact rfl) | (apply OQ.geqB (b := 1); exact rfl; exact rfl; exact h1) | (apply OQ.subS_hi (j := 1); exact Tryz.underlying9; exact rfl; exact rfl; exact hle) | (apply OQ.eqSB; exact rfl; exact rfl; exact h2) | (apply OQ.pick_t; exact rfl; exact rfl) | (apply OQ.move; exact rfl) | (apply OQ.assign; exact rfl)) rfl ?_ | refine JC.seq ?_ | refine JC.region ?_ | refine JL.nil ?_ | refine JE.next ?_ | refine JL.gon rfl rfl ?_))
    all_goals exact JC.ret (JE.ret1 rfl (RV.tmp rfl) fun w' hw => ⟨rfl, hw.chg⟩)
def cpV (c : Bt) (s : List Bt) : Value := if s.head? = some c then .tuple #[Z s.tail, .bool true] else .tuple #[Z s, .bool false]
theorem scp_any (s : List Bt) (c : Bt) (w : World) : Calls Tryz.prog 148 [Z s, Z [c]].toArray w fun e w' => e = .returned (cpV c s) ∧ Ext w w' := by
  refine enter (n := 15) Tryz.func148 rfl rfl rfl (Holds.start w []) ?_
  have hq := fun w' => shp_any s c w'
  unfold cpV
  by_cases h : s.head? = some c
  · simp only [h, decide_true, if_true] at hq ⊢
    have hle : 1 ≤ s.length := by
      cases s with
      | nil => cases h
      | cons d r => simp
    repeat (first | refine JL.q (by first | (apply OQ.callx (vs := [Z s, Z [c]]); exact goes_shp; exact rfl; exact (fun w' _ => hq w')) | (apply OQ.not; exact rfl) | (apply OQ.move; exact rfl) | (apply OQ.assign; exact rfl)) rfl ?_ | refine JC.seq ?_ | refine JC.region ?_ | refine JL.nil ?_ | refine JE.next ?_)
    refine JC.cond rfl (fun h => by cases h) (fun _ => ?_)
    repeat (first | refine JL.q (by first | (apply OQ.lenS; exact Tryz.underlying9; exact rfl) | (apply OQ.subS_lo (i := 1); exact Tryz.underlying9; exact rfl; exact rfl; exact hle) | (apply OQ.move; exact rfl) | (apply OQ.assign; exact rfl)) rfl ?_ | refine JC.seq ?_ | refine JC.region ?_ | refine JC.skip ?_ | refine JL.nil ?_ | refine JE.next ?_)
    refine JC.ret ?_
    skip
    refine JE.ret2 rfl (RV.tmp rfl) (RV.tmp rfl) fun w' hw => ⟨?_, hw.chg⟩
    rw [List.drop_one]
  · simp only [h, decide_false, if_false] at hq ⊢
    repeat (first | refine JL.q (by first | (apply OQ.callx (vs := [Z s, Z [c]]); exact goes_shp; exact rfl; exact (fun w' _ => hq w')) | (apply OQ.not; exact rfl) | (apply OQ.move; exact rfl) | (apply OQ.assign; exact rfl)) rfl ?_ | refine JC.seq ?_ | refine JC.region ?_ | refine JL.nil ?_ | refine JE.next ?_)
    refine JC.cond rfl (fun _ => ?_) (fun h => by cases h)
    repeat (first | refine JL.q (by first | (apply OQ.move; exact rfl) | (apply OQ.assign; exact rfl)) rfl ?_ | refine JC.seq ?_ | refine JC.region ?_ | refine JL.nil ?_ | refine JE.next ?_)
    refine JC.ret ?_
    repeat (refine JE.then_ret ?_)
    exact JE.ret2 rfl (RV.tmp rfl) (RV.tmp rfl) fun w' hw => ⟨rfl, hw.chg⟩
theorem cpw_any (s : List Bt) (c : Bt) (w : World) : Calls Tryz.prog 124 [Z s, Z [c]].toArray w fun e w' => e = .returned (cpV c s) ∧ Ext w w' := by
  refine enter (n := 11) Tryz.func124 rfl rfl rfl (Holds.start w []) ?_
  have hq := fun w' => scp_any s c w'
  unfold cpV at hq ⊢
  by_cases h : s.head? = some c
  · simp only [h, if_true] at hq ⊢
    repeat (first | refine JL.q (by first | (apply OQ.callx (vs := [Z s, Z [c]]); exact goes_scp; exact rfl; exact (fun w' _ => hq w')) | (apply OQ.extract; exact rfl; exact rfl) | (apply OQ.move; exact rfl) | (apply OQ.assign; exact rfl)) rfl ?_ | refine JC.seq ?_ | refine JC.region ?_ | refine JL.nil ?_ | refine JE.next ?_)
    exact JC.ret (JE.ret2 rfl (RV.tmp rfl) (RV.tmp rfl) fun w' hw => ⟨rfl, hw.chg⟩)
  · simp only [h, if_false] at hq ⊢
    repeat (first | refine JL.q (by first | (apply OQ.callx (vs := [Z s, Z [c]]); exact goes_scp; exact rfl; exact (fun w' _ => hq w')) | (apply OQ.extract; exact rfl; exact rfl) | (apply OQ.move; exact rfl) | (apply OQ.assign; exact rfl)) rfl ?_ | refine JC.seq ?_ | refine JC.region ?_ | refine JL.nil ?_ | refine JE.next ?_)
    exact JC.ret (JE.ret2 rfl (RV.tmp rfl) (RV.tmp rfl) fun w' hw => ⟨rfl, hw.chg⟩)
/-! ### a byte's last place -/
end Go.Proofs.YtbbmhkdfdgnkpaaGreatDoor

/-
  Of no statement by itself: what the landed token's dotted and Address give.
  Conditions: each theorem's own.
-/
namespace Go.Proofs.YtbbmhkdfdgnkpaaGreatDoor
set_option maxRecDepth 10000
open Sl Fld Tok
/-! ### dotted atoms -/
/-! ### addresses -/
theorem plain_low {c : Fld.By} (h : plainB c = true) : c.toNat < 128 := by
  simp only [plainB, Bool.and_eq_true, decide_eq_true_eq] at h
  omega
end Go.Proofs.YtbbmhkdfdgnkpaaGreatDoor

/-
  Of no statement by itself: how the landed token reads parameters, from left to right, is what the reference's parts give; pure; no program stands here.
  Conditions: none but each lemma's own.
-/
namespace Go.Proofs.YtbbmhkdfdgnkpaaGreatDoor
namespace Tok
open Fld
/-! ### what stands between quotes -/
inductive Inn : List Fld.By → List Fld.By → Prop
  | nil : Inn [] []
  | esc (c : Fld.By) {i t : List Fld.By} (h : Inn i t) : Inn (92 :: c :: i) (c :: t)
  | chr {c : Fld.By} (h1 : ¬ c = 34) (h2 : ¬ c = 92) {i t : List Fld.By} (h : Inn i t) : Inn (c :: i) (c :: t)
theorem Inn.unq {i t : List Fld.By} (h : Inn i t) (r : List Fld.By) : ∀ o, unqR (i ++ 34 :: r) o = (o ++ t, 34 :: r) := by
  induction h with
  | nil => intro o; rw [List.nil_append, unq_34, List.append_nil]
  | esc c _ ih => intro o; rw [List.cons_append, List.cons_append, unq_92, ih, List.append_assoc]; rfl
  | chr h1 h2 _ ih => intro o; rw [List.cons_append, unq_c h1 h2, ih, List.append_assoc]; rfl
theorem Inn.quot {i t : List Fld.By} (h : Inn i t) (r : List Fld.By) : ∀ k, quotR (i ++ 34 :: r) k = k + i.length + 1 := by
  induction h with
  | nil => intro k; rw [List.nil_append, quot_34]; rfl
  | esc c _ ih => intro k; rw [List.cons_append, List.cons_append, quot_92, ih]; simp only [List.length_cons]; omega
  | chr h1 h2 _ ih => intro k; rw [List.cons_append, quot_c h1 h2, ih]; simp only [List.length_cons]; omega
theorem Inn.sem {i t : List Fld.By} (h : Inn i t) (r : List Fld.By) : ∀ x, semR (i ++ 34 :: r) true x = semR r false (x ++ i ++ [34]) := by
  induction h with
  | nil =>
    intro x
    rw [List.nil_append, sem_cons _ _ _ _ (by rintro ⟨_, k⟩; revert k; decide), if_pos rfl, List.append_nil]
    rfl
  | esc c _ ih =>
    intro x
    rw [List.cons_append, List.cons_append, sem_q92, ih]
    congr 1
    simp
  | chr h1 h2 _ ih =>
    intro x
    rw [List.cons_append, sem_cons _ _ _ _ (fun k => h2 k.2), if_neg h1, if_neg (by rintro ⟨_, k⟩; cases k), ih]
    congr 1
    simp
theorem Inn.sok {i t : List Fld.By} (h : Inn i t) : i.all Fld.sok = t.all Fld.sok := by
  induction h with
  | nil => rfl
  | esc c _ ih => rw [List.all_cons, List.all_cons, List.all_cons, ih, show Fld.sok 92 = true by decide, Bool.true_and]
  | chr _ _ _ ih => rw [List.all_cons, List.all_cons, ih]
theorem inn_of_unq : ∀ (n : Nat) (w o v : List Fld.By), w.length ≤ n → unqR w o = (v, [34]) → ∃ i t, w = i ++ [34] ∧ Inn i t ∧ v = o ++ t := by
  intro n
  induction n with
  | zero =>
    intro w o v hl h
    obtain rfl : w = [] := List.eq_nil_of_length_eq_zero (by omega)
    rw [unq_e] at h
    cases h
  | succ n ih =>
    intro w o v hl h
    match w, hl with
    | [], _ => rw [unq_e] at h; cases h
    | c :: r, hl =>
      simp only [List.length_cons] at hl
      by_cases h34 : c = 34
      · subst h34
        rw [unq_34] at h
        obtain ⟨rfl, h2⟩ := Prod.mk.inj h
        obtain ⟨_, rfl⟩ := List.cons.inj h2
        exact ⟨[], [], rfl, .nil, by simp⟩
      by_cases h92 : c = 92
      · subst h92
        match r, hl with
        | [], _ => rw [unq_92e] at h; cases h
        | c2 :: r, hl =>
          simp only [List.length_cons] at hl
          rw [unq_92] at h
          obtain ⟨i, t, rfl, h2, h3⟩ := ih r _ _ (by omega) h
          exact ⟨92 :: c2 :: i, c2 :: t, rfl, .esc c2 h2, by rw [h3]; simp⟩
      · rw [unq_c h34 h92] at h
        obtain ⟨i, t, rfl, h2, h3⟩ := ih r _ _ (by omega) h
        exact ⟨c :: i, c :: t, rfl, .chr h34 h92 h2, by rw [h3]; simp⟩
theorem inn_of_quot : ∀ (n : Nat) (w : List Fld.By) (k : Nat), w.length ≤ n → quotR w k ≠ 0 → ∃ i t r, w = i ++ 34 :: r ∧ Inn i t := by
  intro n
  induction n with
  | zero =>
    intro w k hl h
    obtain rfl : w = [] := List.eq_nil_of_length_eq_zero (by omega)
    exact absurd (quot_e k) h
  | succ n ih =>
    intro w k hl h
    match w, hl with
    | [], _ => exact absurd (quot_e k) h
    | c :: r, hl =>
      simp only [List.length_cons] at hl
      by_cases h34 : c = 34
      · subst h34
        exact ⟨[], [], r, rfl, .nil⟩
      by_cases h92 : c = 92
      · subst h92
        match r, hl with
        | [], _ => exact absurd (quot_92e k) h
        | c2 :: r, hl =>
          simp only [List.length_cons] at hl
          rw [quot_92] at h
          obtain ⟨i, t, r', rfl, h2⟩ := ih r _ (by omega) h
          exact ⟨92 :: c2 :: i, c2 :: t, r', rfl, .esc c2 h2⟩
      · rw [quot_c h34 h92] at h
        obtain ⟨i, t, r', rfl, h2⟩ := ih r _ (by omega) h
        exact ⟨c :: i, c :: t, r', rfl, .chr h34 h92 h2⟩
/-! ### from left to right -/
def partL (p : Fld.By → Bool) (s : List Fld.By) : List Fld.By × List Fld.By := ((trimL s).takeWhile p, trimL ((trimL s).dropWhile p))
def valL (s : List Fld.By) : List Fld.By × List Fld.By × Bool :=
  if (partL looseB s).1 ≠ [] then ((partL looseB s).1, (partL looseB s).2, true)
  else if (partL looseB s).2.head? = some 34 ∧ quotR (partL looseB s).2.tail 1 ≠ 0 then
    ((unqR (partL looseB s).2.tail []).1, trimL ((partL looseB s).2.drop (quotR (partL looseB s).2.tail 1)), ((unqR (partL looseB s).2.tail []).1).all sok)
  else ([], [], false)
def paramL (s : List Fld.By) : Option ((List Fld.By × List Fld.By) × List Fld.By) :=
  if s.head? = some 59 ∧ (partL plainB s.tail).1 ≠ [] ∧ (partL plainB s.tail).2.head? = some 61 ∧ (valL (partL plainB s.tail).2.tail).2.2 = true then
    some (((partL plainB s.tail).1.map small, (valL (partL plainB s.tail).2.tail).1), (valL (partL plainB s.tail).2.tail).2.1)
  else none
/-! ### what a part is -/
def VAL (V v : List Fld.By) : Prop := (simpleB V = true ∧ v = V) ∨ ∃ i, V = 34 :: (i ++ [34]) ∧ Inn i v ∧ v.all sok = true
def bls (b : List Fld.By) : Prop := ∀ c ∈ b, bl c = true
def Canon (x : List Fld.By) (p : List Fld.By × List Fld.By) : Prop :=
  ∃ b1 n b2 b3 V b4 v, x = b1 ++ (n ++ (b2 ++ 61 :: (b3 ++ (V ++ b4)))) ∧ bls b1 ∧ bls b2 ∧ bls b3 ∧ bls b4 ∧ atomB n = true ∧ VAL V v ∧ p = (n.map small, v)
theorem blank_no {c : Fld.By} (h : bl c = true) : ¬ c = 34 ∧ ¬ c = 59 ∧ ¬ c = 61 ∧ plainB c = false ∧ looseB c = false ∧ (plainB c || c == 47) = false := by
  have := byte_all (fun c => !bl c || (!decide (c = 34) && (!decide (c = 59) && (!decide (c = 61) && (!plainB c && (!looseB c && !(plainB c || c == 47))))))) (by decide +kernel) c
  rw [h] at this
  simpa using this
theorem bls_split (u : List Fld.By) : ∃ p, u = p ++ trimL u ∧ bls p := by
  refine ⟨u.takeWhile bl, (List.takeWhile_append_dropWhile).symm, fun c hc => ?_⟩
  exact List.all_eq_true.1 List.all_takeWhile c hc
theorem bls_trim (s : List Fld.By) : ∃ b1 b2, s = b1 ++ (trim s ++ b2) ∧ bls b1 ∧ bls b2 := by
  obtain ⟨p, h1, h2⟩ := bls_split s
  obtain ⟨q, h3, h4⟩ := bls_split (trimL s).reverse
  refine ⟨p, q.reverse, ?_, h2, fun c hc => h4 c (List.mem_reverse.1 hc)⟩
  have : trimL s = trim s ++ q.reverse := by
    unfold trim
    rw [← List.reverse_append, ← h3, List.reverse_reverse]
  rw [← this]
  exact h1
theorem val_ne {V v : List Fld.By} (h : VAL V v) : V ≠ [] := by
  rintro rfl
  rcases h with ⟨h, _⟩ | ⟨i, h, _⟩
  · revert h; decide
  · cases h
theorem val_hd {V v : List Fld.By} (h : VAL V v) : ∀ c ∈ V.head?, bl c = false := by
  intro c hc
  rcases h with ⟨h, _⟩ | ⟨i, rfl, _⟩
  · exact (loose_no (simple_all h c (List.mem_of_mem_head? hc))).2.2
  · cases hc; rfl
theorem val_last {V v : List Fld.By} (h : VAL V v) : ∀ c ∈ V.reverse.head?, bl c = false := by
  intro c hc
  rcases h with ⟨h, _⟩ | ⟨i, rfl, _⟩
  · exact (loose_no (simple_all h c (List.mem_reverse.1 (List.mem_of_mem_head? hc)))).2.2
  · simp at hc; subst hc; rfl
theorem atom_hd {n : List Fld.By} (h : atomB n = true) : n ≠ [] ∧ (∀ c ∈ n.head?, bl c = false) ∧ ∀ c ∈ n.reverse.head?, bl c = false :=
  ⟨by rintro rfl; revert h; decide, fun c hc => (plain_no (atom_all h c (List.mem_of_mem_head? hc))).2.2.2.2, fun c hc => (plain_no (atom_all h c (List.mem_reverse.1 (List.mem_of_mem_head? hc)))).2.2.2.2⟩
/-! ### A1 -/
theorem fst_split {c : Fld.By} {s : List Fld.By} (h : ¬ fst c s = s.length) : s = s.take (fst c s) ++ c :: s.drop (fst c s + 1) := by
  have hle : fst c s ≤ s.length := (List.takeWhile_sublist _).length_le
  have hat : ∀ s : List Fld.By, fst c s < s.length → s.drop (fst c s) = c :: s.drop (fst c s + 1) := by
    intro s
    induction s with
    | nil => intro h; simp at h
    | cons d r ih =>
      intro h
      by_cases e : d = c
      · have : fst c (d :: r) = 0 := by simp [fst, e]
        rw [this, e]; rfl
      · have : fst c (d :: r) = fst c r + 1 := by simp [fst, e]
        rw [this] at h ⊢
        simp only [List.length_cons, List.drop_succ_cons] at h ⊢
        exact ih (by omega)
  rw [← hat s (by omega), List.take_append_drop]
theorem canon_of {x : List Fld.By} {p : List Fld.By × List Fld.By} (h : partB x = some p) : Canon x p := by
  unfold partB at h
  split at h
  · cases h
  next h0 =>
  split at h
  · cases h
  next h1 =>
  have hx := fst_split h0
  obtain ⟨b1, b2, e1, k1, k2⟩ := bls_trim (x.take (fst 61 x))
  obtain ⟨b3, b4, e2, k3, k4⟩ := bls_trim (x.drop (fst 61 x + 1))
  generalize trim (x.take (fst 61 x)) = n at *
  generalize trim (x.drop (fst 61 x + 1)) = V at *
  have h1' : atomB n = true := by simpa using h1
  have hxx : x = b1 ++ (n ++ (b2 ++ 61 :: (b3 ++ (V ++ b4)))) := by
    rw [hx, e1, e2]
    simp
  split at h
  · next hs =>
    cases h
    exact ⟨b1, n, b2, b3, V, b4, V, hxx, k1, k2, k3, k4, h1', .inl ⟨hs, rfl⟩, rfl⟩
  split at h
  · cases h
  next h2 =>
  split at h
  · next h3 =>
    cases h
    match V, h2 with
    | [], h2 => exact absurd (.inl (by decide)) h2
    | c :: w, h2 =>
      have hc : c = 34 := by
        by_cases e : c = 34
        · exact e
        · exact absurd (.inr (by rw [List.getD_cons_zero]; exact e)) h2
      subst hc
      rw [List.tail_cons] at h3 ⊢
      obtain ⟨i, t, rfl, hi, hv⟩ := inn_of_unq _ w [] (unqR w []).1 (Nat.le_refl _) (Prod.ext rfl h3.1)
      rw [List.nil_append] at hv
      rw [hv] at h3 ⊢
      exact ⟨b1, n, b2, b3, _, b4, t, hxx, k1, k2, k3, k4, h1', .inr ⟨i, rfl, hi, h3.2⟩, rfl⟩
  · cases h
/-! ### A2 -/
theorem canon_part {x : List Fld.By} {p : List Fld.By × List Fld.By} (h : Canon x p) : partB x = some p := by
  obtain ⟨b1, n, b2, b3, V, b4, v, rfl, k1, k2, k3, k4, hn, hV, rfl⟩ := h
  have hx : b1 ++ (n ++ (b2 ++ 61 :: (b3 ++ (V ++ b4)))) = (b1 ++ n ++ b2) ++ 61 :: (b3 ++ V ++ b4) := by simp
  have h61 : ∀ d ∈ b1 ++ n ++ b2, ¬ d = 61 := by
    intro d hd
    rcases List.mem_append.1 hd with hd | hd
    · rcases List.mem_append.1 hd with hd | hd
      · exact (blank_no (k1 d hd)).2.2.1
      · exact (plain_no (atom_all hn d hd)).2.2.1
    · exact (blank_no (k2 d hd)).2.2.1
  have hf := fst_app (b1 ++ n ++ b2) (b3 ++ V ++ b4) h61
  have ht : ((b1 ++ n ++ b2) ++ 61 :: (b3 ++ V ++ b4)).take (b1 ++ n ++ b2).length = b1 ++ n ++ b2 := List.take_left
  have hd : ((b1 ++ n ++ b2) ++ 61 :: (b3 ++ V ++ b4)).drop ((b1 ++ n ++ b2).length + 1) = b3 ++ V ++ b4 := by
    rw [← List.drop_drop, List.drop_left]; rfl
  obtain ⟨n0, n1, n2⟩ := atom_hd hn
  have tn : trim (b1 ++ n ++ b2) = n := trim_mid k1 k2 n0 n1 n2
  have tV : trim (b3 ++ V ++ b4) = V := trim_mid k3 k4 (val_ne hV) (val_hd hV) (val_last hV)
  rw [hx]
  unfold partB
  rw [hf, ht, hd, tn, tV, if_neg (by simp only [List.length_append, List.length_cons]; omega), if_neg (by rw [hn]; decide)]
  rcases hV with ⟨hs, rfl⟩ | ⟨i, rfl, hi, hs⟩
  · rw [if_pos hs]
  · have hns : ¬ simpleB (34 :: (i ++ [34])) = true := by
      unfold simpleB
      rw [List.all_cons, show looseB 34 = false by decide, Bool.false_and, Bool.false_and]
      decide
    have hu := hi.unq [] []
    rw [if_neg hns, if_neg (fun k => k.elim (fun k => absurd k (by simp only [List.length_cons, List.length_append]; omega)) fun k => k rfl), List.tail_cons, hu, List.nil_append, if_pos ⟨rfl, hs⟩]
/-! ### A3 -/
theorem tw_app {q : Fld.By → Bool} {a b : List Fld.By} (ha : ∀ c ∈ a, q c = true) (hb : ∀ c ∈ b.head?, q c = false) : (a ++ b).takeWhile q = a ∧ (a ++ b).dropWhile q = b := by
  induction a with
  | nil =>
    cases b with
    | nil => exact ⟨rfl, rfl⟩
    | cons c r => rw [List.nil_append, List.takeWhile_cons, List.dropWhile_cons, if_neg (by rw [hb c rfl]; decide), if_neg (by rw [hb c rfl]; decide)]; exact ⟨rfl, rfl⟩
  | cons c r ih =>
    obtain ⟨i1, i2⟩ := ih fun d hd => ha d (by simp [hd])
    rw [List.cons_append, List.takeWhile_cons, List.dropWhile_cons, if_pos (ha c (by simp)), if_pos (ha c (by simp)), i1, i2]
    exact ⟨rfl, rfl⟩
theorem hd_app {q : Fld.By → Bool} {a b : List Fld.By} (ha : ∀ c ∈ a, q c = false) (hb : ∀ c ∈ b.head?, q c = false) : ∀ c ∈ (a ++ b).head?, q c = false := by
  cases a with
  | nil => exact hb
  | cons d r => intro c hc; cases hc; exact ha d (by simp)
theorem partL_app {q : Fld.By → Bool} {b n b2 z : List Fld.By} (k1 : bls b) (hn : ∀ c ∈ n, q c = true) (h0 : n ≠ []) (hh : ∀ c ∈ n.head?, bl c = false) (k2 : bls b2) (hq : ∀ c, bl c = true → q c = false) (hz : ∀ c ∈ z.head?, bl c = false) (hz2 : ∀ c ∈ z.head?, q c = false) : partL q (b ++ (n ++ (b2 ++ z))) = (n, z) := by
  have e1 : trimL (b ++ (n ++ (b2 ++ z))) = n ++ (b2 ++ z) := by
    rw [trimL_pre b _ k1, trimL_hd]
    intro c hc
    cases n with
    | nil => exact absurd rfl h0
    | cons d r => exact hh c hc
  obtain ⟨t1, t2⟩ := tw_app hn (hd_app (fun c hc => hq c (k2 c hc)) hz2)
  unfold partL
  rw [e1, t1, t2, trimL_pre b2 _ k2, trimL_hd hz]
theorem partL_none {q : Fld.By → Bool} {b z : List Fld.By} (k1 : bls b) (hz : ∀ c ∈ z.head?, bl c = false) (hz2 : ∀ c ∈ z.head?, q c = false) : partL q (b ++ z) = ([], z) := by
  obtain ⟨t1, t2⟩ := tw_app (a := []) (fun _ h => nomatch h) hz2
  unfold partL
  rw [trimL_pre b _ k1, trimL_hd hz]
  rw [List.nil_append] at t1 t2
  rw [t1, t2, trimL_hd hz]
/-- the end, or a ; -/
def tok (z : List Fld.By) : Prop := z = [] ∨ z.head? = some 59
theorem tok_hd {z : List Fld.By} (h : tok z) {q : Fld.By → Bool} (hq : q 59 = false) : ∀ c ∈ z.head?, q c = false := by
  intro c hc
  rcases h with rfl | h
  · cases hc
  · rw [h] at hc; cases hc; exact hq
theorem val_canon {V v b3 b4 z : List Fld.By} (hV : VAL V v) (k3 : bls b3) (k4 : bls b4) (hz : tok z) : valL (b3 ++ (V ++ (b4 ++ z))) = (v, z, true) := by
  have hz1 := tok_hd hz (q := bl) (by decide)
  have hz2 := tok_hd hz (q := looseB) (by decide)
  rcases hV with ⟨hs, rfl⟩ | ⟨i, rfl, hi, hs⟩
  · have hv : VAL v v := .inl ⟨hs, rfl⟩
    have e := partL_app (q := looseB) k3 (simple_all hs) (val_ne hv) (val_hd hv) k4 (fun c hc => (blank_no hc).2.2.2.2.1) hz1 hz2
    unfold valL
    rw [e, if_pos (val_ne hv)]
  · have e := partL_none (q := looseB) (b := b3) (z := 34 :: (i ++ 34 :: (b4 ++ z))) k3 (fun c hc => by cases hc; rfl) (fun c hc => by cases hc; decide)
    have ex : b3 ++ (34 :: (i ++ [34]) ++ (b4 ++ z)) = b3 ++ 34 :: (i ++ 34 :: (b4 ++ z)) := by simp
    have eq := hi.quot (b4 ++ z) 1
    have eu := hi.unq (b4 ++ z) []
    have ed : (34 :: (i ++ 34 :: (b4 ++ z))).drop (1 + i.length + 1) = b4 ++ z := by
      rw [show 1 + i.length + 1 = (i.length + 1) + 1 by omega, List.drop_succ_cons, ← List.drop_drop, List.drop_left]; rfl
    rw [ex]
    unfold valL
    rw [e, if_neg (by simp), List.head?_cons, List.tail_cons, eq, eu, ed, List.nil_append, if_pos ⟨rfl, by omega⟩, trimL_pre b4 _ k4, trimL_hd hz1, hs]
theorem canon_left {x z : List Fld.By} {p : List Fld.By × List Fld.By} (h : Canon x p) (hz : tok z) : paramL (59 :: (x ++ z)) = some (p, z) := by
  obtain ⟨b1, n, b2, b3, V, b4, v, rfl, k1, k2, k3, k4, hn, hV, rfl⟩ := h
  have ex : b1 ++ (n ++ (b2 ++ 61 :: (b3 ++ (V ++ b4)))) ++ z = b1 ++ (n ++ (b2 ++ 61 :: (b3 ++ (V ++ (b4 ++ z))))) := by simp
  obtain ⟨n0, n1, _⟩ := atom_hd hn
  have e := partL_app (q := plainB) (z := 61 :: (b3 ++ (V ++ (b4 ++ z)))) k1 (atom_all hn) n0 n1 k2 (fun c hc => (blank_no hc).2.2.2.1) (fun c hc => by cases hc; rfl) (fun c hc => by cases hc; decide)
  unfold paramL
  rw [List.tail_cons, ex, e, List.tail_cons, val_canon hV k3 k4 hz, if_pos ⟨rfl, n0, rfl, rfl⟩]
/-! ### A4 -/
theorem partL_split (q : Fld.By → Bool) (s : List Fld.By) : ∃ b1 b2, s = b1 ++ ((partL q s).1 ++ (b2 ++ (partL q s).2)) ∧ bls b1 ∧ bls b2 ∧ (∀ c ∈ (partL q s).1, q c = true) := by
  obtain ⟨b1, e1, k1⟩ := bls_split s
  obtain ⟨b2, e2, k2⟩ := bls_split ((trimL s).dropWhile q)
  refine ⟨b1, b2, ?_, k1, k2, fun c hc => List.all_eq_true.1 List.all_takeWhile c hc⟩
  show s = b1 ++ ((trimL s).takeWhile q ++ (b2 ++ trimL ((trimL s).dropWhile q)))
  rw [← e2, List.takeWhile_append_dropWhile, ← e1]
theorem val_of {s v z : List Fld.By} (h : valL s = (v, z, true)) : ∃ b3 V b4, s = b3 ++ (V ++ (b4 ++ z)) ∧ bls b3 ∧ bls b4 ∧ VAL V v := by
  obtain ⟨b1, b2, e1, k1, k2, hq⟩ := partL_split looseB s
  unfold valL at h
  generalize (partL looseB s).1 = V at *
  generalize (partL looseB s).2 = r at *
  split at h
  · next h0 =>
    obtain ⟨rfl, h2⟩ := Prod.mk.inj h
    obtain ⟨rfl, _⟩ := Prod.mk.inj h2
    refine ⟨b1, V, b2, e1, k1, k2, .inl ⟨?_, rfl⟩⟩
    unfold simpleB
    rw [Bool.and_eq_true, List.all_eq_true, decide_eq_true_eq]
    exact ⟨hq, List.length_pos_iff.2 h0⟩
  · next h0 =>
    obtain rfl : V = [] := Classical.not_not.1 h0
    split at h
    · next h1 =>
      obtain ⟨h34, hn⟩ := h1
      obtain ⟨w, rfl⟩ : ∃ w, r = 34 :: w := by
        cases r with
        | nil => cases h34
        | cons c w => cases h34; exact ⟨w, rfl⟩
      rw [List.tail_cons] at *
      obtain ⟨i, t, r', rfl, hi⟩ := inn_of_quot _ w 1 (Nat.le_refl _) hn
      have ed : (34 :: (i ++ 34 :: r')).drop (1 + i.length + 1) = r' := by
        rw [show 1 + i.length + 1 = (i.length + 1) + 1 by omega, List.drop_succ_cons, ← List.drop_drop, List.drop_left]; rfl
      rw [hi.unq, hi.quot, ed, List.nil_append] at h
      obtain ⟨rfl, h2⟩ := Prod.mk.inj h
      obtain ⟨rfl, h3⟩ := Prod.mk.inj h2
      obtain ⟨b5, e5, k5⟩ := bls_split r'
      refine ⟨b1 ++ b2, 34 :: (i ++ [34]), b5, ?_, fun c hc => (List.mem_append.1 hc).elim (k1 c) (k2 c), k5, .inr ⟨i, rfl, hi, h3⟩⟩
      rw [e1]
      conv => lhs; rw [e5]
      simp
    · cases h
theorem left_canon {s z : List Fld.By} {p : List Fld.By × List Fld.By} (h : paramL s = some (p, z)) : ∃ x, s = 59 :: (x ++ z) ∧ Canon x p := by
  unfold paramL at h
  split at h
  · next hc =>
    obtain ⟨h59, hn, h61, hv⟩ := hc
    obtain ⟨r, rfl⟩ : ∃ r, s = 59 :: r := by
      cases s with
      | nil => cases h59
      | cons c w => cases h59; exact ⟨w, rfl⟩
    rw [List.tail_cons] at *
    obtain ⟨b1, b2, e1, k1, k2, hq⟩ := partL_split plainB r
    generalize (partL plainB r).1 = n at *
    generalize (partL plainB r).2 = u at *
    obtain ⟨u, rfl⟩ : ∃ w, u = 61 :: w := by
      cases u with
      | nil => cases h61
      | cons c w => cases h61; exact ⟨w, rfl⟩
    rw [List.tail_cons] at *
    obtain ⟨v, rest, b, hvl⟩ : ∃ v rest b, valL u = (v, rest, b) := ⟨_, _, _, rfl⟩
    rw [hvl] at h hv
    dsimp only at h hv
    subst hv
    obtain ⟨b3, V, b4, e3, k3, k4, hV⟩ := val_of hvl
    obtain ⟨rfl, rfl⟩ := Prod.mk.inj (Option.some.inj h)
    refine ⟨b1 ++ (n ++ (b2 ++ 61 :: (b3 ++ (V ++ b4)))), ?_, b1, n, b2, b3, V, b4, v, rfl, k1, k2, k3, k4, ?_, hV, rfl⟩
    · rw [e1, e3]
      simp
    · unfold atomB
      rw [Bool.and_eq_true, List.all_eq_true, decide_eq_true_eq]
      exact ⟨hq, List.length_pos_iff.2 hn⟩
  · cases h
/-! ### A5, A6 -/
theorem canon_sem {x : List Fld.By} {p : List Fld.By × List Fld.By} (h : Canon x p) (r y : List Fld.By) : semR (x ++ r) false y = semR r false (y ++ x) := by
  obtain ⟨b1, n, b2, b3, V, b4, v, rfl, k1, k2, k3, k4, hn, hV, rfl⟩ := h
  have s1 : ∀ b, bls b → ∀ r y, semR (b ++ r) false y = semR r false (y ++ b) := fun b hb r y => sem_run b r y fun c hc => ⟨(blank_no (hb c hc)).1, (blank_no (hb c hc)).2.1⟩
  have s2 : ∀ r y, semR (V ++ r) false y = semR r false (y ++ V) := by
    intro r y
    rcases hV with ⟨hs, rfl⟩ | ⟨i, rfl, hi, hs⟩
    · exact sem_run _ r y fun c hc => ⟨(loose_no (simple_all hs c hc)).1, (loose_no (simple_all hs c hc)).2.1⟩
    · rw [List.cons_append, sem_cons _ _ _ _ (by rintro ⟨k, _⟩; cases k), if_pos rfl, List.append_assoc, List.singleton_append]
      show semR (i ++ 34 :: r) true _ = _
      rw [hi.sem]
      congr 1
      simp
  simp only [List.append_assoc, List.cons_append]
  rw [s1 b1 k1, sem_run n _ _ fun c hc => ⟨(plain_no (atom_all hn c hc)).1, (plain_no (atom_all hn c hc)).2.1⟩, s1 b2 k2, sem_cons _ _ _ _ (by rintro ⟨k, _⟩; cases k), if_neg (by decide), if_neg (by rintro ⟨k, _⟩; revert k; decide), s1 b3 k3, s2, s1 b4 k4]
  congr 1
  simp
theorem sem_parts : ∀ (n : Nat) (s : List Fld.By) (q : Bool) (y : List Fld.By), s.length ≤ n → ∃ a z L, semR s q y = (y ++ a) :: L ∧ s = a ++ z ∧ ((z = [] ∧ L = []) ∨ ∃ r, z = 59 :: r ∧ L = semR r false []) := by
  intro n
  induction n with
  | zero =>
    intro s q y hl
    obtain rfl : s = [] := List.eq_nil_of_length_eq_zero (by omega)
    exact ⟨[], [], [], by rw [semR.eq_def, List.append_nil], rfl, .inl ⟨rfl, rfl⟩⟩
  | succ n ih =>
    intro s q y hl
    match s, hl with
    | [], _ => exact ⟨[], [], [], by rw [semR.eq_def, List.append_nil], rfl, .inl ⟨rfl, rfl⟩⟩
    | c :: r, hl =>
      simp only [List.length_cons] at hl
      by_cases h92 : q = true ∧ c = 92
      · obtain ⟨rfl, rfl⟩ := h92
        match r, hl with
        | [], _ => exact ⟨[92], [], [], by rw [semR.eq_def]; rfl, rfl, .inl ⟨rfl, rfl⟩⟩
        | c2 :: r, hl =>
          simp only [List.length_cons] at hl
          obtain ⟨a, z, L, e1, e2, e3⟩ := ih r true (y ++ [92, c2]) (by omega)
          exact ⟨92 :: c2 :: a, z, L, by rw [sem_q92, e1]; simp, by rw [e2]; simp, e3⟩
      · rw [sem_cons _ _ _ _ h92]
        by_cases h34 : c = 34
        · obtain ⟨a, z, L, e1, e2, e3⟩ := ih r (!q) (y ++ [c]) (by omega)
          exact ⟨c :: a, z, L, by rw [if_pos h34, e1]; simp, by rw [e2]; simp, e3⟩
        · by_cases h59 : c = 59 ∧ q = false
          · obtain ⟨rfl, rfl⟩ := h59
            exact ⟨[], 59 :: r, _, by rw [if_neg h34, if_pos ⟨rfl, rfl⟩, List.append_nil], rfl, .inr ⟨r, rfl, rfl⟩⟩
          · obtain ⟨a, z, L, e1, e2, e3⟩ := ih r q (y ++ [c]) (by omega)
            exact ⟨c :: a, z, L, by rw [if_neg h34, if_neg h59, e1]; simp, by rw [e2]; simp, e3⟩
theorem semB_parts (s : List Fld.By) : ∃ a z L, semB s = a :: L ∧ s = a ++ z ∧ ((z = [] ∧ L = []) ∨ ∃ r, z = 59 :: r ∧ L = semB r) := by
  obtain ⟨a, z, L, e1, e2, e3⟩ := sem_parts _ s false [] (Nat.le_refl _)
  exact ⟨a, z, L, e1, e2, e3⟩
/-! ### all parameters -/
theorem paramL_len {s z : List Fld.By} {p : List Fld.By × List Fld.By} (h : paramL s = some (p, z)) : z.length < s.length := by
  obtain ⟨x, rfl, _⟩ := left_canon h
  simp only [List.length_cons, List.length_append]
  omega
def listL (s : List Fld.By) : Option (List (List Fld.By × List Fld.By)) :=
  if s = [] then some [] else
  match h : paramL s with
  | none => none
  | some (p, z) => (listL z).map (p :: ·)
termination_by s.length
decreasing_by exact paramL_len h
theorem listL_nil : listL [] = some [] := by rw [listL, if_pos rfl]
theorem listL_none {s : List Fld.By} (h0 : s ≠ []) (h : paramL s = none) : listL s = none := by
  rw [listL, if_neg h0]
  split
  · rfl
  · next h' => rw [h] at h'; cases h'
theorem listL_some {s z : List Fld.By} {p : List Fld.By × List Fld.By} (h : paramL s = some (p, z)) : listL s = (listL z).map (p :: ·) := by
  rw [listL, if_neg (by rintro rfl; have := paramL_len h; simp at this)]
  split
  · next h' => rw [h] at h'; cases h'
  · next h' =>
    rw [h] at h'
    cases h'
    rfl
theorem listL_bad {s : List Fld.By} (h : ¬ tok s) : listL s = none := by
  refine listL_none (fun k => h (.inl k)) ?_
  unfold paramL
  rw [if_neg]
  rintro ⟨k, _⟩
  exact h (.inr k)
theorem listL_is : ∀ (n : Nat) (r : List Fld.By), r.length ≤ n → listL (59 :: r) = (semB r).mapM partB := by
  intro n
  induction n with
  | zero =>
    intro r hl
    obtain rfl : r = [] := List.eq_nil_of_length_eq_zero (by omega)
    decide +kernel
  | succ n ih =>
    intro r hl
    obtain ⟨y, z, L, e1, e2, e3⟩ := semB_parts r
    have hz : tok z := by
      rcases e3 with ⟨rfl, _⟩ | ⟨r', rfl, _⟩
      · exact .inl rfl
      · exact .inr rfl
    rw [e1]
    cases hp : partB y with
    | none =>
      rw [List.mapM_cons, hp]
      show _ = none
      cases hq : paramL (59 :: r) with
      | none => exact listL_none (by simp) hq
      | some pz =>
        obtain ⟨p, z'⟩ := pz
        rw [listL_some hq]
        obtain ⟨x, ex, hx⟩ := left_canon hq
        obtain ⟨_, ex⟩ := List.cons.inj ex
        by_cases ht : tok z'
        · exfalso
          have hs : ∃ L', semB r = x :: L' := by
            unfold semB
            rw [ex, canon_sem hx, List.nil_append]
            rcases ht with rfl | ht
            · exact ⟨[], by rw [semR.eq_def]⟩
            · cases z' with
              | nil => cases ht
              | cons c w =>
                cases ht
                exact ⟨_, by rw [sem_cons _ _ _ _ (by rintro ⟨k, _⟩; cases k), if_neg (by decide), if_pos ⟨rfl, rfl⟩]⟩
          obtain ⟨L', hs⟩ := hs
          rw [e1] at hs
          obtain ⟨rfl, _⟩ := List.cons.inj hs
          rw [canon_part hx] at hp
          cases hp
        · rw [listL_bad ht]; rfl
    | some p =>
      have hc := canon_left (canon_of hp) hz
      rw [← e2] at hc
      rw [listL_some hc, List.mapM_cons, hp]
      rcases e3 with ⟨rfl, rfl⟩ | ⟨r', rfl, rfl⟩
      · rw [listL_nil]; rfl
      · have hl' : r'.length ≤ n := by
          have := congrArg List.length e2
          simp only [List.length_append, List.length_cons] at this
          omega
        rw [ih r' hl']
        cases (semB r').mapM partB <;> rfl
/-! ### kind and parameters -/
def kiB (c : Fld.By) : Bool := plainB c || c == 47
def paramsL (t : List Fld.By) : List Fld.By × List (List Fld.By × List Fld.By) × Nat :=
  if kindB (partL kiB t).1 = false then ([], [], 3)
  else match listL (partL kiB t).2 with
    | none => ([], [], 3)
    | some l => ((partL kiB t).1.map small, l, 0)
theorem kind_all {k : List Fld.By} (h : kindB k = true) : (∀ c ∈ k, kiB c = true) ∧ k ≠ [] := by
  obtain ⟨a, b, rfl, ha, hb⟩ := kind_is h
  refine ⟨fun c hc => ?_, by simp⟩
  unfold kiB
  rcases List.mem_append.1 hc with hc | hc
  · rw [atom_all ha c hc]; rfl
  · rcases List.mem_cons.1 hc with rfl | hc
    · simp
    · rw [atom_all hb c hc]; rfl
theorem ki_no {c : Fld.By} (h : kiB c = true) : ¬ c = 34 ∧ ¬ c = 59 ∧ bl c = false := by
  have := byte_all (fun c => !kiB c || (!decide (c = 34) && (!decide (c = 59) && !bl c))) (by decide +kernel) c
  rw [h] at this
  simpa using this
theorem kind_left {b1 k b2 z : List Fld.By} (hk : kindB k = true) (k1 : bls b1) (k2 : bls b2) (hz : tok z) : partL kiB (b1 ++ (k ++ (b2 ++ z))) = (k, z) := by
  obtain ⟨ka, k0⟩ := kind_all hk
  exact partL_app k1 ka k0 (fun c hc => (ki_no (ka c (List.mem_of_mem_head? hc))).2.2) k2 (fun c hc => (blank_no hc).2.2.2.2.2) (tok_hd hz (by decide)) (tok_hd hz (by decide))
theorem kind_sem {b1 k b2 : List Fld.By} (hk : kindB k = true) (k1 : bls b1) (k2 : bls b2) (r : List Fld.By) : semR (b1 ++ (k ++ (b2 ++ r))) false [] = semR r false (b1 ++ (k ++ b2)) := by
  obtain ⟨ka, _⟩ := kind_all hk
  have s1 : ∀ b, bls b → ∀ r y, semR (b ++ r) false y = semR r false (y ++ b) := fun b hb r y => sem_run b r y fun c hc => ⟨(blank_no (hb c hc)).1, (blank_no (hb c hc)).2.1⟩
  rw [s1 b1 k1, sem_run k _ _ fun c hc => ⟨(ki_no (ka c hc)).1, (ki_no (ka c hc)).2.1⟩, s1 b2 k2]
  congr 1
  simp
theorem kind_trim {b1 k b2 : List Fld.By} (hk : kindB k = true) (k1 : bls b1) (k2 : bls b2) : trim (b1 ++ (k ++ b2)) = k := by
  obtain ⟨ka, k0⟩ := kind_all hk
  rw [← List.append_assoc]
  exact trim_mid k1 k2 k0 (fun c hc => (ki_no (ka c (List.mem_of_mem_head? hc))).2.2) (fun c hc => (ki_no (ka c (List.mem_reverse.1 (List.mem_of_mem_head? hc)))).2.2)
theorem params_is (t : List Fld.By) : paramsT t = paramsL t := by
  obtain ⟨y, z, L, e1, e2, e3⟩ := semB_parts t
  have hz : tok z := by
    rcases e3 with ⟨rfl, _⟩ | ⟨r', rfl, _⟩
    · exact .inl rfl
    · exact .inr rfl
  unfold paramsT paramsL
  rw [e1, List.headD_cons, List.tail_cons]
  cases hk : kindB (trim y) with
  | true =>
    obtain ⟨b1, b2, ey, k1, k2⟩ := bls_trim y
    have et : t = b1 ++ (trim y ++ (b2 ++ z)) := by
      rw [e2]
      conv => lhs; rw [ey]
      simp
    have hl : partL kiB t = (trim y, z) := by
      conv => lhs; rw [et]
      exact kind_left hk k1 k2 hz
    have hL : listL z = L.mapM partB := by
      rcases e3 with ⟨rfl, rfl⟩ | ⟨r', rfl, rfl⟩
      · rw [listL_nil]; rfl
      · exact listL_is _ r' (Nat.le_refl _)
    rw [hl]
    dsimp only
    rw [hk, hL]
    cases L.mapM partB <;> rfl
  | false =>
    rw [if_pos rfl]
    cases hq : kindB (partL kiB t).1 with
    | false => rw [if_pos rfl]
    | true =>
      rw [if_neg (by decide)]
      have hb : ¬ tok (partL kiB t).2 := by
        intro ht
        obtain ⟨b1, b2, et, k1, k2, _⟩ := partL_split kiB t
        generalize (partL kiB t).1 = k at *
        generalize (partL kiB t).2 = w at *
        have hs : ∃ L', semB t = (b1 ++ (k ++ b2)) :: L' := by
          unfold semB
          rw [et, kind_sem hq k1 k2]
          rcases ht with rfl | ht
          · exact ⟨[], by rw [semR.eq_def]⟩
          · cases w with
            | nil => cases ht
            | cons c w =>
              cases ht
              exact ⟨_, by rw [sem_cons _ _ _ _ (by rintro ⟨k, _⟩; cases k), if_neg (by decide), if_pos ⟨rfl, rfl⟩]⟩
        obtain ⟨L', hs⟩ := hs
        rw [e1] at hs
        obtain ⟨rfl, _⟩ := List.cons.inj hs
        rw [kind_trim hq k1 k2, hq] at hk
        cases hk
      rw [listL_bad hb]
end Tok
end Go.Proofs.YtbbmhkdfdgnkpaaGreatDoor

/-
  Of no statement by itself: what the landed token's isKind, noBig, mayBeQuoted, part, unquoted and readValue give.
  Conditions: each theorem's own.
-/
namespace Go.Proofs.YtbbmhkdfdgnkpaaGreatDoor
set_option maxRecDepth 10000
open Sl Fld Tok
theorem goes_isKind : Goes Tryz.prog 53 := ⟨_, Tryz.func53, rfl, by kernel_rfl⟩
theorem goes_may : Goes Tryz.prog 56 := ⟨_, Tryz.func56, rfl, by kernel_rfl⟩
theorem goes_may1 : Goes Tryz.prog 79 := ⟨_, Tryz.func79, rfl, by kernel_rfl⟩
theorem goes_partA : Goes Tryz.prog 91 := ⟨_, Tryz.func91, rfl, by kernel_rfl⟩
theorem goes_unqA : Goes Tryz.prog 149 := ⟨_, Tryz.func149, rfl, by kernel_rfl⟩
theorem goes_readV : Goes Tryz.prog 125 := ⟨_, Tryz.func125, rfl, by kernel_rfl⟩
set_option maxHeartbeats 8000000 in
theorem isKind_any (s : List Bt) (w : World) (hl : s.length < 9223372036854775807) : Calls Tryz.prog 53 [Z s].toArray w fun e w' => e = .returned (.bool (kindB s)) ∧ Ext w w' := by
  refine enter (n := 21) Tryz.func53 rfl rfl rfl (Holds.start w []) ?_
  have cC := fun w' => cutw_any s 47 w' hl
  have hfl := fi_le 47 s
  have hk : kindB s = (decide (fi 47 s < s.length) && (atomB (s.take (fi 47 s)) && atomB (s.drop (fi 47 s + 1)))) := rfl
  rw [hk]
  unfold cutV at cC
  by_cases hf : fi 47 s < s.length
  · rw [if_pos hf] at cC
    rw [decide_eq_true hf, Bool.true_and]
    have h1 : (s.take (fi 47 s)).length ≤ s.length := by rw [List.length_take]; omega
    have h2 : (s.drop (fi 47 s + 1)).length ≤ s.length := by rw [List.length_drop]; omega
    generalize s.take (fi 47 s) = a at cC h1
    generalize s.drop (fi 47 s + 1) = b at cC h2
    have c1 := fun w' => atomA_any a w' (by omega)
    have c2 := fun w' => atomA_any b w' (by omega)
    cases d1 : atomB a <;> cases d2 : atomB b
    all_goals rw [d1] at c1
    all_goals rw [d2] at c2
    all_goals (repeat (first | refine JL.q (by first | (apply OQ.callx (vs := [Z s, Z [47]]); exact goes_cutw; exact rfl; exact (fun w' _ => cC w')) | (apply OQ.extract; exact rfl; exact rfl) | (apply OQ.pick_t; exact rfl; exact rfl) | (apply OQ.pick_f; exact rfl; exact rfl) | (apply OQ.callx (vs := [Z a]); exact goes_atomA; exact rfl; exact (fun w' _ => c1 w')) | (apply OQ.callx (vs := [Z b]); exact goes_atomA; exact rfl; exact (fun w' _ => c2 w')) | (apply OQ.move; exact rfl) | (apply OQ.assign; exact rfl)) rfl ?_ | refine JC.seq ?_ | refine JC.region ?_ | refine JL.nil ?_ | refine JE.next ?_ | refine JL.gon rfl rfl ?_ | refine JL.gskip rfl rfl rfl rfl ?_))
    all_goals exact JC.ret (JE.ret1 rfl (RV.tmp rfl) fun w' hw => ⟨rfl, hw.chg⟩)
  · rw [if_neg hf] at cC
    rw [decide_eq_false hf, Bool.false_and]
    repeat (first | refine JL.q (by first | (apply OQ.callx (vs := [Z s, Z [47]]); exact goes_cutw; exact rfl; exact (fun w' _ => cC w')) | (apply OQ.extract; exact rfl; exact rfl) | (apply OQ.pick_f; exact rfl; exact rfl) | (apply OQ.move; exact rfl) | (apply OQ.assign; exact rfl)) rfl ?_ | refine JC.seq ?_ | refine JC.region ?_ | refine JL.nil ?_ | refine JE.next ?_ | refine JL.gskip rfl rfl rfl rfl ?_)
    exact JC.ret (JE.ret1 rfl (RV.tmp rfl) fun w' hw => ⟨rfl, hw.chg⟩)
theorem sok_parts (c : Fld.By) : sok c = ((decide ((32 : Int) ≤ (c.toNat : Int)) && decide ((c.toNat : Int) ≤ 126)) || decide (c = 9)) := by
  have h : ∀ c : Fin 256, sok (BitVec.ofNat 8 c.val) = ((decide ((32 : Int) ≤ ((BitVec.ofNat 8 c.val).toNat : Int)) && decide (((BitVec.ofNat 8 c.val).toNat : Int) ≤ 126)) || decide (BitVec.ofNat 8 c.val = 9)) := by decide +kernel
  simpa using h ⟨c.toNat, c.isLt⟩
set_option maxHeartbeats 4000000 in
theorem may1_any (c : Bt) (w : World) : Calls Tryz.prog 79 [U8 c].toArray w fun e w' => e = .returned (.bool (sok c)) ∧ Ext w w' := by
  refine enter (n := 13) Tryz.func79 rfl rfl rfl (Holds.start w []) ?_
  rw [sok_parts]
  cases h1 : decide ((32 : Int) ≤ (c.toNat : Int)) <;> cases h2 : decide ((c.toNat : Int) ≤ 126) <;> cases h3 : decide (c = 9)
  all_goals (repeat (first | refine JL.q (by first | (apply OQ.geqB (b := 32); exact rfl; exact rfl; exact h1) | (apply OQ.leqB (b := 126); exact rfl; exact rfl; exact h2) | (apply OQ.eq8T (b := 9); exact rfl; exact rfl; exact h3) | (apply OQ.pick_t; exact rfl; exact rfl) | (apply OQ.pick_f; exact rfl; exact rfl) | (apply OQ.move; exact rfl) | (apply OQ.assign; exact rfl)) rfl ?_ | refine JC.seq ?_ | refine JC.region ?_ | refine JL.nil ?_ | refine JE.next ?_ | refine JL.gon rfl rfl ?_ | refine JL.gskip rfl rfl rfl rfl ?_))
  all_goals exact JC.ret (JE.ret1 rfl (RV.tmp rfl) fun w' hw => ⟨rfl, hw.chg⟩)
@[reducible] def fnV (f : FuncId) : Value := .func (.func f) #[] #[]
theorem fun_may (w : World) : Fun8 Tryz.prog w (fnV 79) sok := ⟨_, [], rfl, goes_may1, fun c w' _ => may1_any c w'⟩
theorem run_all (p : Fld.By → Bool) (s : List Fld.By) : decide ((runB p s : Int) = (s.length : Int)) = s.all p := by
  rw [Bool.eq_iff_iff, decide_eq_true_eq, ← runB_all]
  omega
set_option maxHeartbeats 4000000 in
theorem may_any (s : List Bt) (w : World) (hl : s.length < 9223372036854775808) : Calls Tryz.prog 56 [Z s].toArray w fun e w' => e = .returned (.bool (s.all sok)) ∧ Ext w w' := by
  refine enter (n := 8) Tryz.func56 rfl rfl rfl (Holds.start w []) ?_
  have hr := run_all sok s
  generalize s.all sok = b at hr
  repeat (first | refine JL.q (by first | (apply OQ.callx (vs := [Z s, fnV 79]); exact goes_run; exact rfl; exact (fun w' _ => run_any s _ sok w' (fun_may w') hl)) | (apply OQ.lenS; exact Tryz.underlying9; exact rfl) | (apply OQ.eqB; exact rfl; exact rfl; exact hr) | (apply OQ.move; exact rfl) | (apply OQ.assign; exact rfl)) rfl ?_ | refine JC.seq ?_ | refine JC.region ?_ | refine JL.nil ?_ | refine JE.next ?_)
  exact JC.ret (JE.ret1 rfl (RV.tmp rfl) fun w' hw => ⟨rfl, hw.chg⟩)
theorem goes_noBig : Goes Tryz.prog 54 := ⟨_, Tryz.func54, rfl, by kernel_rfl⟩
theorem goes_noBig1 : Goes Tryz.prog 76 := ⟨_, Tryz.func76, rfl, by kernel_rfl⟩
def lowB (c : Fld.By) : Bool := decide ((c.toNat : Int) < 65) || decide ((90 : Int) < (c.toNat : Int))
theorem low_small (c : Fld.By) : lowB c = decide (small c = c) := by
  have h : ∀ c : Fin 256, lowB (BitVec.ofNat 8 c.val) = decide (small (BitVec.ofNat 8 c.val) = BitVec.ofNat 8 c.val) := by decide +kernel
  simpa using h ⟨c.toNat, c.isLt⟩
theorem low_all : ∀ s : List Fld.By, s.all lowB = decide (s.map small = s)
  | [] => rfl
  | c :: s => by
    rw [List.all_cons, low_all s, low_small, List.map_cons, Bool.eq_iff_iff, Bool.and_eq_true, decide_eq_true_eq, decide_eq_true_eq, decide_eq_true_eq, List.cons.injEq]
set_option maxHeartbeats 4000000 in
theorem noBig1_any (c : Bt) (w : World) : Calls Tryz.prog 76 [U8 c].toArray w fun e w' => e = .returned (.bool (lowB c)) ∧ Ext w w' := by
  refine enter (n := 9) Tryz.func76 rfl rfl rfl (Holds.start w []) ?_
  unfold lowB
  cases h1 : decide ((c.toNat : Int) < 65) <;> cases h2 : decide ((90 : Int) < (c.toNat : Int))
  all_goals (repeat (first | refine JL.q (by first | (apply OQ.lssB (b := 65); exact rfl; exact rfl; exact h1) | (apply OQ.gtrB (b := 90); exact rfl; exact rfl; exact h2) | (apply OQ.pick_t; exact rfl; exact rfl) | (apply OQ.pick_f; exact rfl; exact rfl) | (apply OQ.move; exact rfl) | (apply OQ.assign; exact rfl)) rfl ?_ | refine JC.seq ?_ | refine JC.region ?_ | refine JL.nil ?_ | refine JE.next ?_ | refine JL.gon rfl rfl ?_ | refine JL.gskip rfl rfl rfl rfl ?_))
  all_goals exact JC.ret (JE.ret1 rfl (RV.tmp rfl) fun w' hw => ⟨rfl, hw.chg⟩)
theorem fun_noBig (w : World) : Fun8 Tryz.prog w (fnV 76) lowB := ⟨_, [], rfl, goes_noBig1, fun c w' _ => noBig1_any c w'⟩
set_option maxHeartbeats 4000000 in
theorem noBig_any (s : List Bt) (w : World) (hl : s.length < 9223372036854775808) : Calls Tryz.prog 54 [Z s].toArray w fun e w' => e = .returned (.bool (decide (s.map small = s))) ∧ Ext w w' := by
  refine enter (n := 8) Tryz.func54 rfl rfl rfl (Holds.start w []) ?_
  have hr := run_all lowB s
  rw [low_all] at hr
  generalize decide (s.map small = s) = b at hr
  repeat (first | refine JL.q (by first | (apply OQ.callx (vs := [Z s, fnV 76]); exact goes_run; exact rfl; exact (fun w' _ => run_any s _ lowB w' (fun_noBig w') hl)) | (apply OQ.lenS; exact Tryz.underlying9; exact rfl) | (apply OQ.eqB; exact rfl; exact rfl; exact hr) | (apply OQ.move; exact rfl) | (apply OQ.assign; exact rfl)) rfl ?_ | refine JC.seq ?_ | refine JC.region ?_ | refine JL.nil ?_ | refine JE.next ?_)
  exact JC.ret (JE.ret1 rfl (RV.tmp rfl) fun w' hw => ⟨rfl, hw.chg⟩)
/-! ### a part -/
set_option maxHeartbeats 8000000 in
theorem partA_any (s : List Bt) (fv : Value) (p : Bt → Bool) (w : World) (hF : Fun8 Tryz.prog w fv p) (hl : s.length < 9223372036854775808) : Calls Tryz.prog 91 [Z s, fv].toArray w fun e w' => e = .returned (.tuple #[Z (partL p s).1, Z (partL p s).2]) ∧ Ext w w' := by
  refine enter (n := 19) Tryz.func91 rfl rfl rfl (Holds.start w []) ?_
  have c1 := fun w' => triml_any s w'
  unfold partL
  have htl := trimL_len s
  generalize trimL s = t at c1 htl ⊢
  have c2 := fun w' hF' => run_any t fv p w' hF' (by omega)
  have hn := runB_le p t
  rw [← runB_take, ← runB_drop]
  generalize runB p t = n at c2 hn
  have c3 := fun w' => triml_any (t.drop n) w'
  repeat (first | refine JL.q (by first | (apply OQ.callx (vs := [Z s, Z [32, 9]]); exact goes_triml; exact rfl; exact (fun w' _ => c1 w')) | (apply OQ.callx (vs := [Z t, fv]); exact goes_run; exact rfl; exact (fun w' hw' => c2 w' (hF.holds hw'))) | (apply OQ.move; exact rfl) | (apply OQ.assign; exact rfl)) rfl ?_ | refine JC.seq ?_ | refine JC.region ?_ | refine JL.nil ?_ | refine JE.next ?_)
  refine JC.quiet mixT (by kernel_rfl) ?_
  repeat (first | refine JQ.q (by first | (apply OQ.subS_hi; exact Tryz.underlying9; exact rfl; exact rfl; exact hn) | (apply OQ.subS_lo; exact Tryz.underlying9; exact rfl; exact rfl; exact hn) | (apply OQ.callx (vs := [Z (t.drop n), Z [32, 9]]); exact goes_triml; exact rfl; exact (fun w' _ => c3 w')) | (apply OQ.move; exact rfl) | (apply OQ.assign; exact rfl)) rfl ?_ | refine JQ.nil ?_ | refine JE.next ?_)
  exact JC.ret (JE.ret2 rfl (RV.tmp rfl) (RV.tmp rfl) fun w' hw => ⟨rfl, hw.chg⟩)
end Go.Proofs.YtbbmhkdfdgnkpaaGreatDoor

/-
  Of no statement by itself: what the landed token's unquoted and readValue give.
  Conditions: each theorem's own.
-/
namespace Go.Proofs.YtbbmhkdfdgnkpaaGreatDoor
set_option maxRecDepth 10000
open Sl Fld Tok
structure UqS where
  k : Nat
  o : List Bt
  u : List Bt
  b : Nat
  cap : Nat
set_option maxHeartbeats 16000000 in
theorem unqA_any {i t : List Bt} (h : Inn i t) (w : World) (hl : i.length < 1000000000) : Calls Tryz.prog 149 [Z i].toArray w fun e w' => e = .returned (Z t) ∧ Ext w w' := by
  refine enter (n := 28) Tryz.func149 rfl rfl rfl (Holds.start w []) ?_
  repeat (first | refine JL.q (by first | (apply OQ.lenS; exact Tryz.underlying9; exact rfl) | (apply OQ.move; exact rfl) | (apply OQ.assign; exact rfl)) rfl ?_ | refine JC.seq ?_ | refine JC.region ?_ | refine JL.nil ?_ | refine JE.next ?_)
  refine JL.make0 (c := i.length) Tryz.underlying22 u8e rfl rfl (by omega) rfl fun b0 _ => ?_
  repeat (first | refine JL.q (by (apply OQ.assign; exact rfl)) rfl ?_ | refine JC.seq ?_ | refine JC.region ?_ | refine JC.block ?_ | refine JL.nil ?_ | refine JE.next ?_)
  refine JC.loop (fun z : UqS => [(0, Z i), (3, .slice (some ⟨z.b, 0, none⟩) z.o.length z.cap), (4, N z.k)]) (fun z => [⟨z.b, Sl.Own 5 1 z.o.length z.cap (z.o.map U8), true⟩]) (fun z => i.length - z.k) (fun z => z.k ≤ i.length ∧ z.o.length ≤ z.k ∧ Inn (i.drop z.k) z.u ∧ t = z.o ++ z.u) ⟨0, [], t, b0, i.length⟩ ⟨Nat.zero_le _, Nat.zero_le _, h, rfl⟩ (by repeat (first | exact SubE.nil | refine SubE.cons _ _ _ rfl ?_)) (Less.refl _) ?_
  rintro ⟨k, o, u, b, cap⟩ ⟨hk, ho, hI, ht⟩
  dsimp only at hk ho hI ht ⊢
  clear h
  repeat (first | refine JL.q (by first | (apply OQ.lenS; exact Tryz.underlying9; exact rfl) | (apply OQ.move; exact rfl) | (apply OQ.lssN; exact rfl; exact rfl)) rfl ?_ | refine JC.seq ?_ | refine JC.region ?_ | refine JL.nil ?_ | refine JE.next ?_)
  refine JC.cond rfl (fun h => ?_) (fun h => ?_)
  · have hk' : k < i.length := of_decide_eq_true h
    clear h hk
    have hdr : i.drop k = i.getD k 0 :: i.drop (k + 1) := by rw [List.drop_eq_getElem_cons hk', List.getD_eq_getElem?_getD, List.getElem?_eq_getElem hk']; rfl
    rw [hdr] at hI
    have i0 := fun {n : Nat} {E : Env} {C : World → Prop} {dst : Option Tmp} {ty : TypeId} {pos : String} {aft : Array Edge} {g : Option (Nat × Bool)} {x y : Operand} => idxAt10 hk' (n := n) (E := E) (C := C) (dst := dst) (ty := ty) (pos := pos) (aft := aft) (g := g) (x := x) (y := y)
    generalize i.getD k 0 = c at hI i0
    generalize hx : i.drop (k + 1) = x at hI
    cases h92 : decide (c = 92)
    · obtain ⟨u', rfl, hI'⟩ : ∃ u', u = c :: u' ∧ Inn x u' := by
        cases hI with
        | esc d h => exact absurd rfl (of_decide_eq_false h92)
        | chr h1 h2 h => exact ⟨_, rfl, h⟩
      repeat (first | refine JL.q (by first | (apply i0; exact rfl; exact rfl) | (apply OQ.eq8T (b := 92); exact rfl; exact rfl; exact h92) | (apply OQ.move; exact rfl)) rfl ?_ | refine JC.seq ?_ | refine JC.region ?_ | refine JC.block ?_ | refine JC.skip ?_ | refine JL.nil ?_ | refine JE.next ?_)
      refine JC.cond rfl (fun h => by cases h) (fun _ => ?_)
      repeat (first | refine JL.q (by first | (apply i0; exact rfl; exact rfl) | (apply OQ.move; exact rfl)) rfl ?_ | refine JC.region ?_ | refine JC.skip ?_ | refine JE.next ?_)
      refine JL.push1 (xs := o.map U8) (fun b' cap' => [⟨b', Sl.Own 5 1 (o.length + 1) cap' (o.map U8 ++ [U8 c]), true⟩]) Tryz.underlying22 u8e rfl rfl rfl rfl (fun _ => rfl) (by intro _ _; repeat (first | exact Repl.here | apply Repl.there)) (by omega) (by omega) rfl rfl fun bl b' cap' => ?_
      repeat (first | refine JL.q (by first | (apply OQ.move; exact rfl) | (apply OQ.assign; exact rfl) | (apply OQ.addN; exact rfl; exact rfl; exact (by (try simp only []); omega))) rfl ?_ | refine JC.region ?_ | refine JL.nil ?_ | refine JE.next ?_ | refine JE.blk_normal ?_)
      refine JE.again (i := UqS.mk k o (c :: u') b cap) (UqS.mk (k + 1) (o ++ [c]) u' b' cap') ⟨hk', ?_, ?_, ?_⟩ (by dsimp only; omega) ?_ (.keep _ _ _ _ _ _ (fun o' h => ?_) (.nil _))
      · dsimp only; rw [List.length_append, List.length_singleton]; omega
      · dsimp only; rw [hx]; exact hI'
      · dsimp only; rw [ht]; simp
      · dsimp only; rw [List.length_append, List.length_singleton]; exact (by repeat (first | exact SubE.nil | refine SubE.cons _ _ _ rfl ?_))
      · dsimp only; rw [List.length_append, List.length_singleton, List.map_append]; exact h
    · obtain ⟨d, x', u', hx', rfl, hI'⟩ : ∃ d x' u', x = d :: x' ∧ u = d :: u' ∧ Inn x' u' := by
        cases hI with
        | esc d h => exact ⟨d, _, _, rfl, rfl, h⟩
        | chr h1 h2 h => exact absurd (of_decide_eq_true h92) h2
      have hk2 : k + 1 < i.length := by
        by_cases e : k + 1 < i.length
        · exact e
        · rw [List.drop_eq_nil_of_le (by omega)] at hx
          rw [← hx] at hx'
          cases hx'
      have hdr2 : i.drop (k + 1) = i.getD (k + 1) 0 :: i.drop (k + 2) := by rw [List.drop_eq_getElem_cons hk2, List.getD_eq_getElem?_getD, List.getElem?_eq_getElem hk2]; rfl
      have i1 := fun {n : Nat} {E : Env} {C : World → Prop} {dst : Option Tmp} {ty : TypeId} {pos : String} {aft : Array Edge} {g : Option (Nat × Bool)} {x y : Operand} => idxAt10 hk2 (n := n) (E := E) (C := C) (dst := dst) (ty := ty) (pos := pos) (aft := aft) (g := g) (x := x) (y := y)
      rw [hx, hx'] at hdr2
      obtain ⟨hd, hx2⟩ := List.cons.inj hdr2
      rw [← hd] at i1
      repeat (first | refine JL.q (by first | (apply i0; exact rfl; exact rfl) | (apply OQ.eq8T (b := 92); exact rfl; exact rfl; exact h92) | (apply OQ.move; exact rfl)) rfl ?_ | refine JC.seq ?_ | refine JC.region ?_ | refine JC.block ?_ | refine JC.skip ?_ | refine JL.nil ?_ | refine JE.next ?_)
      refine JC.cond rfl (fun _ => ?_) (fun h => by cases h)
      repeat (first | refine JL.q (by first | (apply i1; exact rfl; exact rfl) | (apply OQ.move; exact rfl) | (apply OQ.assign; exact rfl) | (apply OQ.addN; exact rfl; exact rfl; exact (by (try simp only []); omega))) rfl ?_ | refine JC.region ?_ | refine JL.nil ?_ | refine JE.next ?_)
      refine JL.push1 (xs := o.map U8) (fun b' cap' => [⟨b', Sl.Own 5 1 (o.length + 1) cap' (o.map U8 ++ [U8 d]), true⟩]) Tryz.underlying22 u8e rfl rfl rfl rfl (fun _ => rfl) (by intro _ _; repeat (first | exact Repl.here | apply Repl.there)) (by omega) (by omega) rfl rfl fun bl b' cap' => ?_
      repeat (first | refine JL.q (by first | (apply OQ.move; exact rfl) | (apply OQ.assign; exact rfl) | (apply OQ.addN; exact rfl; exact rfl; exact (by (try simp only []); omega))) rfl ?_ | refine JC.region ?_ | refine JL.nil ?_ | refine JE.next ?_ | refine JE.blk_normal ?_)
      refine JE.again (i := UqS.mk k o (d :: u') b cap) (UqS.mk (k + 2) (o ++ [d]) u' b' cap') ⟨by dsimp only; omega, ?_, ?_, ?_⟩ (by dsimp only; omega) ?_ (.keep _ _ _ _ _ _ (fun o' h => ?_) (.nil _))
      · dsimp only; rw [List.length_append, List.length_singleton]; omega
      · dsimp only; rw [← hx2]; exact hI'
      · dsimp only; rw [ht]; simp
      · dsimp only; rw [List.length_append, List.length_singleton]; exact (by repeat (first | exact SubE.nil | refine SubE.cons _ _ _ rfl ?_))
      · dsimp only; rw [List.length_append, List.length_singleton, List.map_append]; exact h
  · have hk' : ¬ k < i.length := of_decide_eq_false h
    obtain rfl : k = i.length := by omega
    rw [List.drop_length] at hI
    cases hI
    rw [List.append_nil] at ht
    subst ht
    repeat (first | refine JL.q (by first | (apply OQ.b2s (s := ⟨some ⟨b, 0, none⟩, cap, t⟩); exact Tryz.underlying22; exact Tryz.underlying5; exact Tryz.underlying9; exact rfl; exact (fun w' hw' => ownb_ok hw' .here)) | (apply OQ.move; exact rfl) | (apply OQ.assign; exact rfl)) rfl ?_ | refine JC.seq ?_ | refine JC.region ?_ | refine JC.exit ?_ | refine JL.nil ?_ | refine JE.next ?_ | refine JE.then_exit ?_ | refine JE.blk_hit ?_)
    exact JC.ret (JE.ret1 rfl (RV.tmp rfl) fun w' hw => ⟨rfl, hw.chg⟩)
theorem quotedN_any (r : List Bt) (w : World) (hl : r.length < 9223372036854770000) : Calls Tryz.prog 122 [Z r].toArray w fun e w' => e = .returned (N (quotR r.tail 1)) ∧ Ext w w' := by
  cases r with
  | cons c r => exact quoted_any c r w (by rw [List.length_cons] at hl; omega)
  | nil =>
    refine enter (n := 21) Tryz.func122 rfl rfl rfl (Holds.start w []) ?_
    repeat (first | refine JL.q (by (apply OQ.assign; exact rfl)) rfl ?_ | refine JC.seq ?_ | refine JC.region ?_ | refine JC.block ?_ | refine JL.nil ?_ | refine JE.next ?_)
    refine JC.loop (fun k : Nat => [(0, Z []), (3, N 1)]) (fun _ => []) (fun _ => 0) (fun _ => True) 1 trivial (by repeat (first | exact SubE.nil | refine SubE.cons _ _ _ rfl ?_)) (Less.refl _) ?_
    intro _ _
    repeat (first | refine JL.q (by first | (apply OQ.lenS; exact Tryz.underlying9; exact rfl) | (apply OQ.move; exact rfl) | (apply OQ.lssN; exact rfl; exact rfl)) rfl ?_ | refine JC.seq ?_ | refine JC.region ?_ | refine JL.nil ?_ | refine JE.next ?_)
    refine JC.cond rfl (fun h => absurd (of_decide_eq_true h) (by decide)) (fun _ => ?_)
    repeat (first | refine JL.q (by (apply OQ.assign; exact rfl)) rfl ?_ | refine JC.seq ?_ | refine JC.region ?_ | refine JC.exit ?_ | refine JL.nil ?_ | refine JE.next ?_ | refine JE.then_exit ?_ | refine JE.blk_hit ?_)
    refine JC.ret ?_
    exact JE.ret1 rfl (RV.tmp rfl) fun w' hw => ⟨rfl, hw.chg⟩
set_option maxHeartbeats 16000000 in
theorem readV_any (s : List Bt) (w : World) (hl : s.length < 1000000000) : Calls Tryz.prog 125 [Z s].toArray w fun e w' => e = .returned (.tuple #[Z (valL s).1, Z (valL s).2.1, .bool (valL s).2.2]) ∧ Ext w w' := by
  refine enter (n := 38) Tryz.func125 rfl rfl rfl (Holds.start w []) ?_
  have cP : ∀ (b : Nat) (w0 w' : World) (M : List Ent), Holds w0 [] (⟨b, Row 9 [Z notWord], true⟩ :: M) w' → Calls Tryz.prog 91 [Z s, prF b].toArray w' fun e w'' => e = .returned (.tuple #[Z (partL looseB s).1, Z (partL looseB s).2]) ∧ Ext w' w'' := fun b w0 w' M hw' => by
    have := partA_any s (prF b) (prB notWord) w' (fun_printed hw' .here) (by omega)
    rw [prB_word] at this
    exact this
  obtain ⟨b1, b2, e1, k1, k2, _⟩ := partL_split looseB s
  have hrl : (partL looseB s).2.length ≤ s.length := by
    conv => rhs; rw [e1]
    simp only [List.length_append]
    omega
  clear e1 k1 k2 b1 b2
  unfold valL
  generalize (partL looseB s).1 = V at cP hrl ⊢
  generalize (partL looseB s).2 = r at cP hrl ⊢
  repeat (first | refine JL.q (by first | (apply OQ.move; exact rfl) | (apply OQ.assign; exact rfl)) rfl ?_ | refine JC.seq ?_ | refine JC.region ?_ | refine JL.nil ?_ | refine JE.next ?_)
  refine JL.callg (ι := Nat) (vs := [Z notWord]) prF (fun b => [⟨b, Row 9 [Z notWord], true⟩]) goes_printed rfl rfl (fun b e he => by rw [List.mem_singleton.1 he]) (fun w' _ => printed_any notWord w') fun b => ?_
  cases hV : decide (V = [])
  · rw [if_pos (of_decide_eq_false hV)]
    repeat (first | refine JL.q (by first | (apply OQ.callx (vs := [Z s, prF b]); exact goes_partA; exact rfl; exact (fun w' hw' => cP b _ w' _ hw')) | (apply OQ.extract; exact rfl; exact rfl) | (apply OQ.neSB (r := []); exact rfl; exact rfl; exact hV) | (apply OQ.move; exact rfl) | (apply OQ.assign; exact rfl)) rfl ?_ | refine JC.seq ?_ | refine JC.region ?_ | refine JL.nil ?_ | refine JE.next ?_)
    refine JC.cond rfl (fun _ => ?_) (fun h => by cases h)
    repeat (first | refine JL.q (by first | (apply OQ.move; exact rfl) | (apply OQ.assign; exact rfl)) rfl ?_ | refine JC.seq ?_ | refine JC.region ?_ | refine JL.nil ?_ | refine JE.next ?_)
    refine JC.ret ?_
    repeat (refine JE.then_ret ?_)
    exact JE.ret3 rfl (RV.tmp rfl) (RV.tmp rfl) (RV.tmp rfl) fun w' hw => ⟨rfl, hw.chg⟩
  rw [if_neg (fun k => k (of_decide_eq_true hV))]
  have cQ := fun w' => quotedN_any r w' (by omega)
  cases hq : decide ((quotR r.tail 1 : Int) = 0)
  case true =>
    rw [if_neg (fun k => k.2 (by have := of_decide_eq_true hq; omega))]
    generalize quotR r.tail 1 = q at cQ hq
    repeat (first | refine JL.q (by first | (apply OQ.callx (vs := [Z s, prF b]); exact goes_partA; exact rfl; exact (fun w' hw' => cP b _ w' _ hw')) | (apply OQ.extract; exact rfl; exact rfl) | (apply OQ.neSB (r := []); exact rfl; exact rfl; exact hV) | (apply OQ.move; exact rfl) | (apply OQ.assign; exact rfl)) rfl ?_ | refine JC.seq ?_ | refine JC.region ?_ | refine JL.nil ?_ | refine JE.next ?_)
    refine JC.cond rfl (fun h => by cases h) (fun _ => ?_)
    repeat (first | refine JL.q (by first | (apply OQ.callx (vs := [Z r]); exact goes_quoted; exact rfl; exact (fun w' _ => cQ w')) | (apply OQ.eqB (b := 0); exact rfl; exact rfl; exact hq) | (apply OQ.pick_t; exact rfl; exact rfl) | (apply OQ.move; exact rfl) | (apply OQ.assign; exact rfl)) rfl ?_ | refine JC.seq ?_ | refine JC.region ?_ | refine JC.skip ?_ | refine JL.nil ?_ | refine JE.next ?_ | refine JL.gskip rfl rfl rfl rfl ?_)
    refine JC.cond rfl (fun _ => ?_) (fun h => by cases h)
    repeat (first | refine JL.q (by (apply OQ.assign; exact rfl)) rfl ?_ | refine JC.seq ?_ | refine JC.region ?_ | refine JL.nil ?_ | refine JE.next ?_)
    refine JC.ret ?_
    repeat (refine JE.then_ret ?_)
    exact JE.ret3 rfl (RV.tmp rfl) (RV.tmp rfl) (RV.tmp rfl) fun w' hw => ⟨rfl, hw.chg⟩
  have hqn : quotR r.tail 1 ≠ 0 := by have := of_decide_eq_false hq; omega
  obtain ⟨c, x, rfl⟩ : ∃ c x, r = c :: x := by
    cases r with
    | nil => exact absurd (quot_e 1) hqn
    | cons c x => exact ⟨c, x, rfl⟩
  rw [List.tail_cons] at *
  rw [List.head?_cons]
  have i0 := fun {n : Nat} {E : Env} {C : World → Prop} {dst : Option Tmp} {ty : TypeId} {pos : String} {aft : Array Edge} {g : Option (Nat × Bool)} {y z : Operand} => idxAt10 (s := c :: x) (i := 0) (Nat.succ_pos _) (n := n) (E := E) (C := C) (dst := dst) (ty := ty) (pos := pos) (aft := aft) (g := g) (x := y) (y := z)
  rw [List.getD_cons_zero] at i0
  cases h34 : decide (c = 34)
  · rw [if_neg (fun k => of_decide_eq_false h34 (Option.some.inj k.1))]
    generalize quotR x 1 = q at cQ hq
    repeat (first | refine JL.q (by first | (apply OQ.callx (vs := [Z s, prF b]); exact goes_partA; exact rfl; exact (fun w' hw' => cP b _ w' _ hw')) | (apply OQ.extract; exact rfl; exact rfl) | (apply OQ.neSB (r := []); exact rfl; exact rfl; exact hV) | (apply OQ.move; exact rfl) | (apply OQ.assign; exact rfl)) rfl ?_ | refine JC.seq ?_ | refine JC.region ?_ | refine JL.nil ?_ | refine JE.next ?_)
    refine JC.cond rfl (fun h => by cases h) (fun _ => ?_)
    repeat (first | refine JL.q (by first | (apply OQ.callx (vs := [Z (c :: x)]); exact goes_quoted; exact rfl; exact (fun w' _ => cQ w')) | (apply OQ.eqB (b := 0); exact rfl; exact rfl; exact hq) | (apply i0; exact rfl; exact rfl) | (apply OQ.ne8B (b := 34); exact rfl; exact rfl; exact h34) | (apply OQ.pick_f; exact rfl; exact rfl) | (apply OQ.move; exact rfl) | (apply OQ.assign; exact rfl)) rfl ?_ | refine JC.seq ?_ | refine JC.region ?_ | refine JC.skip ?_ | refine JL.nil ?_ | refine JE.next ?_ | refine JL.gon rfl rfl ?_)
    refine JC.cond rfl (fun _ => ?_) (fun h => by cases h)
    repeat (first | refine JL.q (by (apply OQ.assign; exact rfl)) rfl ?_ | refine JC.seq ?_ | refine JC.region ?_ | refine JL.nil ?_ | refine JE.next ?_)
    refine JC.ret ?_
    repeat (refine JE.then_ret ?_)
    exact JE.ret3 rfl (RV.tmp rfl) (RV.tmp rfl) (RV.tmp rfl) fun w' hw => ⟨rfl, hw.chg⟩
  · obtain rfl : c = 34 := of_decide_eq_true h34
    rw [if_pos ⟨rfl, hqn⟩]
    obtain ⟨i, t, z, rfl, hI⟩ := inn_of_quot _ x 1 (Nat.le_refl _) hqn
    rw [hI.unq, List.nil_append]
    have hlen : (34 :: (i ++ 34 :: z)).length = i.length + z.length + 2 := by simp only [List.length_cons, List.length_append]; omega
    have cU := fun w' => unqA_any hI w' (by omega)
    have cM := fun w' => may_any i w' (by omega)
    rw [hI.sok] at cM
    have hins : ((34 :: (i ++ 34 :: z)).take (quotR (i ++ 34 :: z) 1 - 1)).drop 1 = i := by
      rw [hI.quot, show 1 + i.length + 1 - 1 = i.length + 1 by omega, List.take_succ_cons, List.drop_succ_cons, List.drop_zero, List.take_left]
    have hql : quotR (i ++ 34 :: z) 1 = i.length + 2 := by rw [hI.quot]; omega
    generalize quotR (i ++ 34 :: z) 1 = q at *
    have h1 : 1 ≤ q - 1 := by omega
    have h2 : q - 1 ≤ (34 :: (i ++ 34 :: z)).length := by omega
    have h3 : q ≤ (34 :: (i ++ 34 :: z)).length := by omega
    have cT := fun w' => triml_any ((34 :: (i ++ 34 :: z)).drop q) w'
    generalize 34 :: (i ++ 34 :: z) = r at *
    repeat (first | refine JL.q (by first | (apply OQ.callx (vs := [Z s, prF b]); exact goes_partA; exact rfl; exact (fun w' hw' => cP b _ w' _ hw')) | (apply OQ.extract; exact rfl; exact rfl) | (apply OQ.neSB (r := []); exact rfl; exact rfl; exact hV) | (apply OQ.move; exact rfl) | (apply OQ.assign; exact rfl)) rfl ?_ | refine JC.seq ?_ | refine JC.region ?_ | refine JL.nil ?_ | refine JE.next ?_)
    refine JC.cond rfl (fun h => by cases h) (fun _ => ?_)
    repeat (first | refine JL.q (by first | (apply OQ.callx (vs := [Z r]); exact goes_quoted; exact rfl; exact (fun w' _ => cQ w')) | (apply OQ.eqB (b := 0); exact rfl; exact rfl; exact hq) | (apply i0; exact rfl; exact rfl) | (apply OQ.ne8B (b := 34); exact rfl; exact rfl; exact h34) | (apply OQ.pick_f; exact rfl; exact rfl) | (apply OQ.move; exact rfl) | (apply OQ.assign; exact rfl)) rfl ?_ | refine JC.seq ?_ | refine JC.region ?_ | refine JC.skip ?_ | refine JL.nil ?_ | refine JE.next ?_ | refine JL.gon rfl rfl ?_)
    refine JC.cond rfl (fun h => by cases h) (fun _ => ?_)
    repeat (first | refine JL.q (by first | (apply OQ.to; exact (OQ.subS Tryz.underlying9 rfl rfl rfl h1 h2); exact (congrArg Z hins)) | (apply OQ.move; exact rfl) | (apply OQ.assign; exact rfl) | (apply OQ.subN; exact rfl; exact rfl; exact (by (try simp only []); omega); exact (by (try simp only []); omega))) rfl ?_ | refine JC.seq ?_ | refine JC.region ?_ | refine JC.skip ?_ | refine JL.nil ?_ | refine JE.next ?_)
    refine JC.quiet mixT (by kernel_rfl) ?_
    repeat (first | refine JQ.q (by first | (apply OQ.callx (vs := [Z i]); exact goes_unqA; exact rfl; exact (fun w' _ => cU w')) | (apply OQ.subS_lo; exact Tryz.underlying9; exact rfl; exact rfl; exact h3) | (apply OQ.callx (vs := [Z (r.drop q), Z [32, 9]]); exact goes_triml; exact rfl; exact (fun w' _ => cT w')) | (apply OQ.callx (vs := [Z i]); exact goes_may; exact rfl; exact (fun w' _ => cM w')) | (apply OQ.move; exact rfl) | (apply OQ.assign; exact rfl)) rfl ?_ | refine JQ.nil ?_ | refine JE.next ?_)
    exact JC.ret (JE.ret3 rfl (RV.tmp rfl) (RV.tmp rfl) (RV.tmp rfl) fun w' hw => ⟨rfl, hw.chg⟩)
end Go.Proofs.YtbbmhkdfdgnkpaaGreatDoor

/-
  Of no statement by itself: what the landed token's Ids gives.
  Conditions: each theorem's own.
-/
namespace Go.Proofs.YtbbmhkdfdgnkpaaGreatDoor
set_option maxRecDepth 10000
open Sl Fld Tok
theorem cpV_parts (c : Bt) (t : List Bt) : ∃ (x : List Bt) (b : Bool), cpV c t = .tuple #[Z x, .bool b] ∧ x.length ≤ t.length ∧ (b = true → t.head? = some c ∧ x = t.tail) ∧ (b = false → ¬ t.head? = some c ∧ x = t) := by
  unfold cpV
  by_cases h : t.head? = some c
  · rw [if_pos h]
    exact ⟨_, _, rfl, by rw [List.length_tail]; omega, fun _ => ⟨h, rfl⟩, fun k => by cases k⟩
  · rw [if_neg h]
    exact ⟨_, _, rfl, Nat.le_refl _, (fun k => by cases k), fun _ => ⟨h, rfl⟩⟩
end Go.Proofs.YtbbmhkdfdgnkpaaGreatDoor
