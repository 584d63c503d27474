/-
  Of no statement by itself: the texts TokW, TkA, Prs, Prz, Slap, TkB, LsC in one.
  Conditions: each theorem's own.
-/
import Derived.Test.YtchoiikhepjdiaaDoorBb
import Derived.Laws.StructEq
import Derived.Shelf.Strings.OnBuilder
import Derived.Shelf.Strings.Split
/-
  Of no statement by itself: what the reference's in, Plain, Loose, Atom, Simple, Value and Lower (layer 10) give.
  Conditions: each theorem's own.
-/
namespace Go.Proofs.YtchoiikhepjdiaaDoor
set_option maxRecDepth 10000
open Sl Fld Tok
theorem goes_rin : Goes Tryd.prog 90 := ⟨_, Tryd.func90, rfl, by kernel_rfl⟩
theorem goes_rplain : Goes Tryd.prog 56 := ⟨_, Tryd.func56, rfl, by kernel_rfl⟩
theorem goes_ratom : Goes Tryd.prog 30 := ⟨_, Tryd.func30, rfl, by kernel_rfl⟩
theorem goes_rvalue10 : Goes Tryd.prog 68 := ⟨_, Tryd.func68, rfl, by kernel_rfl⟩
theorem goes_rlower : Goes Tryd.prog 64 := ⟨_, Tryd.func64, rfl, by kernel_rfl⟩
theorem idxAt10 {s : List Fld.By} {i : Nat} (h : i < s.length) {n : Nat} {E : Env} {C : World → Prop} {dst : Option Tmp} {ty : TypeId} {pos : String} {aft : Array Edge} {g : Option (Nat × Bool)} {x y : Operand} (hx : ev E x = some (Z s)) (hy : ev E y = some (N i)) : OQ Tryd.prog n E C ⟨dst, .index 9 x y, ty, pos, aft, g⟩ (U8 (s.getD i 0)) := OQ.idxZ Tryd.underlying9 hx hy h
theorem sok_is10 : ∀ c : Fld.By, sok c = !(!decide ((c.toNat : Int) = 9) && (decide ((c.toNat : Int) < 32) || decide (126 < (c.toNat : Int)))) := by
  have h : ∀ c : Fin 256, sok (BitVec.ofNat 8 c.val) = !(!decide (((BitVec.ofNat 8 c.val).toNat : Int) = 9) && (decide (((BitVec.ofNat 8 c.val).toNat : Int) < 32) || decide (126 < ((BitVec.ofNat 8 c.val).toNat : Int)))) := by decide +kernel
  intro c
  simpa using h ⟨c.toNat, c.isLt⟩
theorem eq_nat (c d : Fld.By) : decide ((d.toNat : Int) = (c.toNat : Int)) = (d == c) := by
  by_cases h : d = c
  · subst h; simp
  · rw [decide_eq_false (by_ne h)]; simp [h]
set_option maxHeartbeats 8000000 in
theorem rin_any (c : Fld.By) (s : List Fld.By) (w : World) (hl : s.length < 9223372036854775808) : Calls Tryd.prog 90 [U8 c, Z s].toArray w fun e w' => e = .returned (.bool (inB c s)) ∧ Ext w w' := by
  refine enter (n := 17) Tryd.func90 rfl rfl rfl (Holds.start w []) ?_
  repeat (first | refine JL.q (by first | (apply OQ.move; exact rfl) | (apply OQ.assign; exact rfl) | (apply OQ.len; exact rfl; exact rfl) | (apply OQ.addN; exact rfl; exact rfl; exact (by (try simp only []); omega)) | (apply OQ.subN; exact rfl; exact rfl; exact (by (try simp only []); omega); exact (by (try simp only []); omega)) | (apply OQ.lssN; exact rfl; exact rfl)) rfl ?_ | refine JC.seq ?_ | refine JC.region ?_ | refine JC.block ?_ | refine JC.skip ?_ | refine JC.exit ?_ | refine JL.nil ?_ | refine JE.next ?_ | refine JE.blk_normal ?_ | refine JE.then_exit ?_ | refine JE.blk_hit ?_ | refine JE.blk_miss rfl ?_ | refine JE.then_ret ?_ | refine JE.blk_ret ?_ | refine JC.label ?_ | refine JL.gon rfl rfl ?_ | refine JL.gskip rfl rfl rfl rfl ?_ | refine JL.gskipU rfl rfl rfl rfl ?_)
  refine JC.loop (fun i : Nat => [(0, U8 c), (1, Z s), (5, N i)]) (fun _ => []) (fun i => s.length - i) (fun i => i ≤ s.length ∧ inB c s = (s.drop i).any fun d => d == c) 0 ⟨Nat.zero_le _, rfl⟩ (by repeat (first | exact SubE.nil | refine SubE.cons _ _ _ rfl ?_)) (Less.refl _) ?_
  rintro i ⟨hi, ha⟩
  repeat (first | refine JL.q (by first | (apply OQ.lenS; exact Tryd.underlying9; exact rfl) | (apply OQ.move; exact rfl) | (apply OQ.assign; exact rfl) | (apply OQ.len; exact rfl; exact rfl) | (apply OQ.addN; exact rfl; exact rfl; exact (by (try simp only []); omega)) | (apply OQ.subN; exact rfl; exact rfl; exact (by (try simp only []); omega); exact (by (try simp only []); omega)) | (apply OQ.lssN; exact rfl; exact rfl)) rfl ?_ | refine JC.seq ?_ | refine JC.region ?_ | refine JC.block ?_ | refine JC.skip ?_ | refine JC.exit ?_ | refine JL.nil ?_ | refine JE.next ?_ | refine JE.blk_normal ?_ | refine JE.then_exit ?_ | refine JE.blk_hit ?_ | refine JE.blk_miss rfl ?_ | refine JE.then_ret ?_ | refine JE.blk_ret ?_ | refine JC.label ?_ | refine JL.gon rfl rfl ?_ | refine JL.gskip rfl rfl rfl rfl ?_ | refine JL.gskipU rfl rfl rfl rfl ?_)
  refine JC.cond rfl (fun h => ?_) (fun h => ?_)
  · have hi' : i < s.length := of_decide_eq_true h
    clear h hi
    have hd : (s.drop i).any (fun d => d == c) = ((s.getD i 0 == c) || (s.drop (i + 1)).any fun d => d == c) := by
      rw [List.drop_eq_getElem_cons hi', List.any_cons, List.getD_eq_getElem?_getD, List.getElem?_eq_getElem hi']
      rfl
    have hidx := fun {n : Nat} {E : Env} {C : World → Prop} {dst : Option Tmp} {ty : TypeId} {pos : String} {aft : Array Edge} {g : Option (Nat × Bool)} {x y : Operand} => idxAt10 hi' (n := n) (E := E) (C := C) (dst := dst) (ty := ty) (pos := pos) (aft := aft) (g := g) (x := x) (y := y)
    have he := eq_nat c (s.getD i 0)
    generalize s.getD i 0 = d at hidx hd he
    cases h1 : decide ((d.toNat : Int) = (c.toNat : Int))
    all_goals (rw [h1] at he; rw [hd, ← he] at ha; repeat (first | refine JL.q (by first | (apply hidx; exact rfl; exact rfl) | (apply OQ.eqB; exact rfl; exact rfl; exact h1) | (apply OQ.move; exact rfl) | (apply OQ.assign; exact rfl) | (apply OQ.len; exact rfl; exact rfl) | (apply OQ.addN; exact rfl; exact rfl; exact (by (try simp only []); omega)) | (apply OQ.subN; exact rfl; exact rfl; exact (by (try simp only []); omega); exact (by (try simp only []); omega)) | (apply OQ.lssN; exact rfl; exact rfl)) rfl ?_ | refine JC.seq ?_ | refine JC.region ?_ | refine JC.block ?_ | refine JC.skip ?_ | refine JC.exit ?_ | refine JL.nil ?_ | refine JE.next ?_ | refine JE.blk_normal ?_ | refine JE.then_exit ?_ | refine JE.blk_hit ?_ | refine JE.blk_miss rfl ?_ | refine JE.then_ret ?_ | refine JE.blk_ret ?_ | refine JC.label ?_ | refine JL.gon rfl rfl ?_ | refine JL.gskip rfl rfl rfl rfl ?_ | refine JL.gskipU rfl rfl rfl rfl ?_))
    all_goals refine JC.cond rfl (fun h => ?_) (fun h => ?_)
    all_goals first | (exfalso; revert h; decide) | skip
    all_goals (clear h)
    · repeat (first | refine JL.q (by first | (apply OQ.move; exact rfl) | (apply OQ.assign; exact rfl) | (apply OQ.len; exact rfl; exact rfl) | (apply OQ.addN; exact rfl; exact rfl; exact (by (try simp only []); omega)) | (apply OQ.subN; exact rfl; exact rfl; exact (by (try simp only []); omega); exact (by (try simp only []); omega)) | (apply OQ.lssN; exact rfl; exact rfl)) rfl ?_ | refine JC.seq ?_ | refine JC.region ?_ | refine JC.block ?_ | refine JC.skip ?_ | refine JC.exit ?_ | refine JL.nil ?_ | refine JE.next ?_ | refine JE.blk_normal ?_ | refine JE.then_exit ?_ | refine JE.blk_hit ?_ | refine JE.blk_miss rfl ?_ | refine JE.then_ret ?_ | refine JE.blk_ret ?_ | refine JC.label ?_ | refine JL.gon rfl rfl ?_ | refine JL.gskip rfl rfl rfl rfl ?_ | refine JL.gskipU rfl rfl rfl rfl ?_)
      exact JE.again (i := i) (i + 1) ⟨hi', by rw [ha, Bool.false_or]⟩ (by omega) (by repeat (first | exact SubE.nil | refine SubE.cons _ _ _ rfl ?_)) (Less.refl _)
    · rw [ha, Bool.true_or]
      repeat (first | refine JL.q (by first | (apply OQ.move; exact rfl) | (apply OQ.assign; exact rfl) | (apply OQ.len; exact rfl; exact rfl) | (apply OQ.addN; exact rfl; exact rfl; exact (by (try simp only []); omega)) | (apply OQ.subN; exact rfl; exact rfl; exact (by (try simp only []); omega); exact (by (try simp only []); omega)) | (apply OQ.lssN; exact rfl; exact rfl)) rfl ?_ | refine JC.seq ?_ | refine JC.region ?_ | refine JC.block ?_ | refine JC.skip ?_ | refine JC.exit ?_ | refine JL.nil ?_ | refine JE.next ?_ | refine JE.blk_normal ?_ | refine JE.then_exit ?_ | refine JE.blk_hit ?_ | refine JE.blk_miss rfl ?_ | refine JE.then_ret ?_ | refine JE.blk_ret ?_ | refine JC.label ?_ | refine JL.gon rfl rfl ?_ | refine JL.gskip rfl rfl rfl rfl ?_ | refine JL.gskipU rfl rfl rfl rfl ?_)
      refine JC.ret ?_
      repeat (first | refine JL.q (by first | (apply OQ.move; exact rfl) | (apply OQ.assign; exact rfl) | (apply OQ.len; exact rfl; exact rfl) | (apply OQ.addN; exact rfl; exact rfl; exact (by (try simp only []); omega)) | (apply OQ.subN; exact rfl; exact rfl; exact (by (try simp only []); omega); exact (by (try simp only []); omega)) | (apply OQ.lssN; exact rfl; exact rfl)) rfl ?_ | refine JC.seq ?_ | refine JC.region ?_ | refine JC.block ?_ | refine JC.skip ?_ | refine JC.exit ?_ | refine JL.nil ?_ | refine JE.next ?_ | refine JE.blk_normal ?_ | refine JE.then_exit ?_ | refine JE.blk_hit ?_ | refine JE.blk_miss rfl ?_ | refine JE.then_ret ?_ | refine JE.blk_ret ?_ | refine JC.label ?_ | refine JL.gon rfl rfl ?_ | refine JL.gskip rfl rfl rfl rfl ?_ | refine JL.gskipU rfl rfl rfl rfl ?_)
      exact JE.ret1 rfl (RV.tmp rfl) fun w' hw => ⟨rfl, hw.chg⟩
  · have hi' : ¬ i < s.length := of_decide_eq_false h
    obtain rfl : i = s.length := by omega
    rw [List.drop_length] at ha
    rw [ha]
    repeat (first | refine JL.q (by first | (apply OQ.move; exact rfl) | (apply OQ.assign; exact rfl) | (apply OQ.len; exact rfl; exact rfl) | (apply OQ.addN; exact rfl; exact rfl; exact (by (try simp only []); omega)) | (apply OQ.subN; exact rfl; exact rfl; exact (by (try simp only []); omega); exact (by (try simp only []); omega)) | (apply OQ.lssN; exact rfl; exact rfl)) rfl ?_ | refine JC.seq ?_ | refine JC.region ?_ | refine JC.block ?_ | refine JC.skip ?_ | refine JC.exit ?_ | refine JL.nil ?_ | refine JE.next ?_ | refine JE.blk_normal ?_ | refine JE.then_exit ?_ | refine JE.blk_hit ?_ | refine JE.blk_miss rfl ?_ | refine JE.then_ret ?_ | refine JE.blk_ret ?_ | refine JC.label ?_ | refine JL.gon rfl rfl ?_ | refine JL.gskip rfl rfl rfl rfl ?_ | refine JL.gskipU rfl rfl rfl rfl ?_)
    refine JC.ret ?_
    exact JE.ret1 rfl (RV.tmp rfl) fun w' hw => ⟨rfl, hw.chg⟩
theorem ge33 (c : Fld.By) : plainB c = (decide (33 ≤ (c.toNat : Int)) && decide ((c.toNat : Int) ≤ 126) && !inB c spec) := by
  unfold plainB
  congr 1
  congr 1
  · exact decide_eq_decide.2 (by omega)
  · exact decide_eq_decide.2 (by omega)
set_option maxHeartbeats 8000000 in
theorem rplain_any (c : Fld.By) (w : World) : Calls Tryd.prog 56 [U8 c].toArray w fun e w' => e = .returned (.bool (plainB c)) ∧ Ext w w' := by
  refine enter (n := 14) Tryd.func56 rfl rfl rfl (Holds.start w []) ?_
  have cI := fun w' => rin_any c spec w' (by decide)
  rw [ge33]
  generalize inB c spec = x at cI ⊢
  cases h1 : decide ((33 : Int) ≤ (c.toNat : Int)) <;> cases h2 : decide ((c.toNat : Int) ≤ 126) <;> cases h3 : x
  all_goals subst h3
  all_goals (repeat (first | refine JL.q (by first | (apply OQ.callb (vs := [U8 c, Z spec]); exact goes_rin; exact rfl; exact cI; exact rfl) | (apply OQ.geqB (b := 33); exact rfl; exact rfl; exact h1) | (apply OQ.leqB (b := 126); exact rfl; exact rfl; exact h2) | (apply OQ.not; exact rfl) | (apply OQ.pick_t; exact rfl; exact rfl) | (apply OQ.pick_f; exact rfl; exact rfl) | (apply OQ.move; exact rfl) | (apply OQ.assign; exact rfl) | (apply OQ.len; exact rfl; exact rfl) | (apply OQ.addN; exact rfl; exact rfl; exact (by (try simp only []); omega)) | (apply OQ.subN; exact rfl; exact rfl; exact (by (try simp only []); omega); exact (by (try simp only []); omega)) | (apply OQ.lssN; exact rfl; exact rfl)) rfl ?_ | refine JC.seq ?_ | refine JC.region ?_ | refine JC.block ?_ | refine JC.skip ?_ | refine JC.exit ?_ | refine JL.nil ?_ | refine JE.next ?_ | refine JE.blk_normal ?_ | refine JE.then_exit ?_ | refine JE.blk_hit ?_ | refine JE.blk_miss rfl ?_ | refine JE.then_ret ?_ | refine JE.blk_ret ?_ | refine JC.label ?_ | refine JL.gon rfl rfl ?_ | refine JL.gskip rfl rfl rfl rfl ?_ | refine JL.gskipU rfl rfl rfl rfl ?_))
  all_goals exact JC.ret (JE.ret1 rfl (RV.tmp rfl) fun w' hw => ⟨rfl, hw.chg⟩)
set_option maxHeartbeats 8000000 in
theorem ratom_any (s : List Fld.By) (w : World) (hl : s.length < 9223372036854775808) : Calls Tryd.prog 30 [Z s].toArray w fun e w' => e = .returned (.bool (atomB s)) ∧ Ext w w' := by
  refine enter (n := 18) Tryd.func30 rfl rfl rfl (Holds.start w []) ?_
  repeat (first | refine JL.q (by first | (apply OQ.move; exact rfl) | (apply OQ.assign; exact rfl) | (apply OQ.len; exact rfl; exact rfl) | (apply OQ.addN; exact rfl; exact rfl; exact (by (try simp only []); omega)) | (apply OQ.subN; exact rfl; exact rfl; exact (by (try simp only []); omega); exact (by (try simp only []); omega)) | (apply OQ.lssN; exact rfl; exact rfl)) rfl ?_ | refine JC.seq ?_ | refine JC.region ?_ | refine JC.block ?_ | refine JC.skip ?_ | refine JC.exit ?_ | refine JL.nil ?_ | refine JE.next ?_ | refine JE.blk_normal ?_ | refine JE.then_exit ?_ | refine JE.blk_hit ?_ | refine JE.blk_miss rfl ?_ | refine JE.then_ret ?_ | refine JE.blk_ret ?_ | refine JC.label ?_ | refine JL.gon rfl rfl ?_ | refine JL.gskip rfl rfl rfl rfl ?_ | refine JL.gskipU rfl rfl rfl rfl ?_)
  refine JC.loop (fun i : Nat => [(0, Z s), (3, N i)]) (fun _ => []) (fun i => s.length - i) (fun i => i ≤ s.length ∧ (s.take i).all plainB = true) 0 ⟨Nat.zero_le _, rfl⟩ (by repeat (first | exact SubE.nil | refine SubE.cons _ _ _ rfl ?_)) (Less.refl _) ?_
  rintro i ⟨hi, ha⟩
  repeat (first | refine JL.q (by first | (apply OQ.lenS; exact Tryd.underlying9; exact rfl) | (apply OQ.move; exact rfl) | (apply OQ.assign; exact rfl) | (apply OQ.len; exact rfl; exact rfl) | (apply OQ.addN; exact rfl; exact rfl; exact (by (try simp only []); omega)) | (apply OQ.subN; exact rfl; exact rfl; exact (by (try simp only []); omega); exact (by (try simp only []); omega)) | (apply OQ.lssN; exact rfl; exact rfl)) rfl ?_ | refine JC.seq ?_ | refine JC.region ?_ | refine JC.block ?_ | refine JC.skip ?_ | refine JC.exit ?_ | refine JL.nil ?_ | refine JE.next ?_ | refine JE.blk_normal ?_ | refine JE.then_exit ?_ | refine JE.blk_hit ?_ | refine JE.blk_miss rfl ?_ | refine JE.then_ret ?_ | refine JE.blk_ret ?_ | refine JC.label ?_ | refine JL.gon rfl rfl ?_ | refine JL.gskip rfl rfl rfl rfl ?_ | refine JL.gskipU rfl rfl rfl rfl ?_)
  refine JC.cond rfl (fun h => ?_) (fun h => ?_)
  · have hi' : i < s.length := of_decide_eq_true h
    clear h hi
    have hx := all_take plainB s 0 hi'
    have hbad := all_bad plainB s 0 hi'
    rw [ha, Bool.true_and] at hx
    have hidx := fun {n : Nat} {E : Env} {C : World → Prop} {dst : Option Tmp} {ty : TypeId} {pos : String} {aft : Array Edge} {g : Option (Nat × Bool)} {x y : Operand} => idxAt10 hi' (n := n) (E := E) (C := C) (dst := dst) (ty := ty) (pos := pos) (aft := aft) (g := g) (x := x) (y := y)
    have cP := fun w' => rplain_any (s.getD i 0) w'
    generalize s.getD i 0 = c at hx hbad hidx cP
    generalize plainB c = x at hx hbad cP
    cases h1 : x
    all_goals subst h1
    all_goals (repeat (first | refine JL.q (by first | (apply hidx; exact rfl; exact rfl) | (apply OQ.callb (vs := [U8 c]); exact goes_rplain; exact rfl; exact cP; exact rfl) | (apply OQ.not; exact rfl) | (apply OQ.move; exact rfl) | (apply OQ.assign; exact rfl) | (apply OQ.len; exact rfl; exact rfl) | (apply OQ.addN; exact rfl; exact rfl; exact (by (try simp only []); omega)) | (apply OQ.subN; exact rfl; exact rfl; exact (by (try simp only []); omega); exact (by (try simp only []); omega)) | (apply OQ.lssN; exact rfl; exact rfl)) rfl ?_ | refine JC.seq ?_ | refine JC.region ?_ | refine JC.block ?_ | refine JC.skip ?_ | refine JC.exit ?_ | refine JL.nil ?_ | refine JE.next ?_ | refine JE.blk_normal ?_ | refine JE.then_exit ?_ | refine JE.blk_hit ?_ | refine JE.blk_miss rfl ?_ | refine JE.then_ret ?_ | refine JE.blk_ret ?_ | refine JC.label ?_ | refine JL.gon rfl rfl ?_ | refine JL.gskip rfl rfl rfl rfl ?_ | refine JL.gskipU rfl rfl rfl rfl ?_))
    all_goals refine JC.cond rfl (fun h => ?_) (fun h => ?_)
    all_goals first | (exfalso; revert h; decide) | skip
    all_goals (clear h)
    · have e : atomB s = false := by rw [atomB, hbad rfl]; rfl
      rw [e]
      repeat (first | refine JL.q (by first | (apply OQ.move; exact rfl) | (apply OQ.assign; exact rfl) | (apply OQ.len; exact rfl; exact rfl) | (apply OQ.addN; exact rfl; exact rfl; exact (by (try simp only []); omega)) | (apply OQ.subN; exact rfl; exact rfl; exact (by (try simp only []); omega); exact (by (try simp only []); omega)) | (apply OQ.lssN; exact rfl; exact rfl)) rfl ?_ | refine JC.seq ?_ | refine JC.region ?_ | refine JC.block ?_ | refine JC.skip ?_ | refine JC.exit ?_ | refine JL.nil ?_ | refine JE.next ?_ | refine JE.blk_normal ?_ | refine JE.then_exit ?_ | refine JE.blk_hit ?_ | refine JE.blk_miss rfl ?_ | refine JE.then_ret ?_ | refine JE.blk_ret ?_ | refine JC.label ?_ | refine JL.gon rfl rfl ?_ | refine JL.gskip rfl rfl rfl rfl ?_ | refine JL.gskipU rfl rfl rfl rfl ?_)
      refine JC.ret ?_
      repeat (first | refine JL.q (by first | (apply OQ.move; exact rfl) | (apply OQ.assign; exact rfl) | (apply OQ.len; exact rfl; exact rfl) | (apply OQ.addN; exact rfl; exact rfl; exact (by (try simp only []); omega)) | (apply OQ.subN; exact rfl; exact rfl; exact (by (try simp only []); omega); exact (by (try simp only []); omega)) | (apply OQ.lssN; exact rfl; exact rfl)) rfl ?_ | refine JC.seq ?_ | refine JC.region ?_ | refine JC.block ?_ | refine JC.skip ?_ | refine JC.exit ?_ | refine JL.nil ?_ | refine JE.next ?_ | refine JE.blk_normal ?_ | refine JE.then_exit ?_ | refine JE.blk_hit ?_ | refine JE.blk_miss rfl ?_ | refine JE.then_ret ?_ | refine JE.blk_ret ?_ | refine JC.label ?_ | refine JL.gon rfl rfl ?_ | refine JL.gskip rfl rfl rfl rfl ?_ | refine JL.gskipU rfl rfl rfl rfl ?_)
      exact JE.ret1 rfl (RV.tmp rfl) fun w' hw => ⟨rfl, hw.chg⟩
    · repeat (first | refine JL.q (by first | (apply OQ.move; exact rfl) | (apply OQ.assign; exact rfl) | (apply OQ.len; exact rfl; exact rfl) | (apply OQ.addN; exact rfl; exact rfl; exact (by (try simp only []); omega)) | (apply OQ.subN; exact rfl; exact rfl; exact (by (try simp only []); omega); exact (by (try simp only []); omega)) | (apply OQ.lssN; exact rfl; exact rfl)) rfl ?_ | refine JC.seq ?_ | refine JC.region ?_ | refine JC.block ?_ | refine JC.skip ?_ | refine JC.exit ?_ | refine JL.nil ?_ | refine JE.next ?_ | refine JE.blk_normal ?_ | refine JE.then_exit ?_ | refine JE.blk_hit ?_ | refine JE.blk_miss rfl ?_ | refine JE.then_ret ?_ | refine JE.blk_ret ?_ | refine JC.label ?_ | refine JL.gon rfl rfl ?_ | refine JL.gskip rfl rfl rfl rfl ?_ | refine JL.gskipU rfl rfl rfl rfl ?_)
      exact JE.again (i := i) (i + 1) ⟨hi', hx⟩ (by omega) (by repeat (first | exact SubE.nil | refine SubE.cons _ _ _ rfl ?_)) (Less.refl _)
  · have hi' : ¬ i < s.length := of_decide_eq_false h
    obtain rfl : i = s.length := by omega
    clear h hi hi'
    rw [List.take_length] at ha
    have e : atomB s = decide ((0 : Int) < (s.length : Int)) := by
      rw [atomB, ha, Bool.true_and]
      exact decide_eq_decide.2 (by omega)
    rw [e]
    cases h1 : decide ((0 : Int) < (s.length : Int))
    all_goals (repeat (first | refine JL.q (by first | (apply OQ.lenS; exact Tryd.underlying9; exact rfl) | (apply OQ.gtrB (b := 0); exact rfl; exact rfl; exact h1) | (apply OQ.move; exact rfl) | (apply OQ.assign; exact rfl) | (apply OQ.len; exact rfl; exact rfl) | (apply OQ.addN; exact rfl; exact rfl; exact (by (try simp only []); omega)) | (apply OQ.subN; exact rfl; exact rfl; exact (by (try simp only []); omega); exact (by (try simp only []); omega)) | (apply OQ.lssN; exact rfl; exact rfl)) rfl ?_ | refine JC.seq ?_ | refine JC.region ?_ | refine JC.block ?_ | refine JC.skip ?_ | refine JC.exit ?_ | refine JL.nil ?_ | refine JE.next ?_ | refine JE.blk_normal ?_ | refine JE.then_exit ?_ | refine JE.blk_hit ?_ | refine JE.blk_miss rfl ?_ | refine JE.then_ret ?_ | refine JE.blk_ret ?_ | refine JC.label ?_ | refine JL.gon rfl rfl ?_ | refine JL.gskip rfl rfl rfl rfl ?_ | refine JL.gskipU rfl rfl rfl rfl ?_))
    all_goals refine JC.ret ?_
    all_goals exact JE.ret1 rfl (RV.tmp rfl) fun w' hw => ⟨rfl, hw.chg⟩
set_option maxHeartbeats 8000000 in
theorem rvalue10_any (s : List Fld.By) (w : World) (hl : s.length < 9223372036854775808) : Calls Tryd.prog 68 [Z s].toArray w fun e w' => e = .returned (.bool (s.all sok)) ∧ Ext w w' := by
  refine enter (n := 26) Tryd.func68 rfl rfl rfl (Holds.start w []) ?_
  repeat (first | refine JL.q (by first | (apply OQ.move; exact rfl) | (apply OQ.assign; exact rfl) | (apply OQ.len; exact rfl; exact rfl) | (apply OQ.addN; exact rfl; exact rfl; exact (by (try simp only []); omega)) | (apply OQ.subN; exact rfl; exact rfl; exact (by (try simp only []); omega); exact (by (try simp only []); omega)) | (apply OQ.lssN; exact rfl; exact rfl)) rfl ?_ | refine JC.seq ?_ | refine JC.region ?_ | refine JC.block ?_ | refine JC.skip ?_ | refine JC.exit ?_ | refine JL.nil ?_ | refine JE.next ?_ | refine JE.blk_normal ?_ | refine JE.then_exit ?_ | refine JE.blk_hit ?_ | refine JE.blk_miss rfl ?_ | refine JE.then_ret ?_ | refine JE.blk_ret ?_ | refine JC.label ?_ | refine JL.gon rfl rfl ?_ | refine JL.gskip rfl rfl rfl rfl ?_ | refine JL.gskipU rfl rfl rfl rfl ?_)
  refine JC.loop (fun i : Nat => [(0, Z s), (3, N i)]) (fun _ => []) (fun i => s.length - i) (fun i => i ≤ s.length ∧ (s.take i).all sok = true) 0 ⟨Nat.zero_le _, rfl⟩ (by repeat (first | exact SubE.nil | refine SubE.cons _ _ _ rfl ?_)) (Less.refl _) ?_
  rintro i ⟨hi, ha⟩
  repeat (first | refine JL.q (by first | (apply OQ.lenS; exact Tryd.underlying9; exact rfl) | (apply OQ.move; exact rfl) | (apply OQ.assign; exact rfl) | (apply OQ.len; exact rfl; exact rfl) | (apply OQ.addN; exact rfl; exact rfl; exact (by (try simp only []); omega)) | (apply OQ.subN; exact rfl; exact rfl; exact (by (try simp only []); omega); exact (by (try simp only []); omega)) | (apply OQ.lssN; exact rfl; exact rfl)) rfl ?_ | refine JC.seq ?_ | refine JC.region ?_ | refine JC.block ?_ | refine JC.skip ?_ | refine JC.exit ?_ | refine JL.nil ?_ | refine JE.next ?_ | refine JE.blk_normal ?_ | refine JE.then_exit ?_ | refine JE.blk_hit ?_ | refine JE.blk_miss rfl ?_ | refine JE.then_ret ?_ | refine JE.blk_ret ?_ | refine JC.label ?_ | refine JL.gon rfl rfl ?_ | refine JL.gskip rfl rfl rfl rfl ?_ | refine JL.gskipU rfl rfl rfl rfl ?_)
  refine JC.cond rfl (fun h => ?_) (fun h => ?_)
  · have hi' : i < s.length := of_decide_eq_true h
    clear h hi
    have hx := all_take sok s 0 hi'
    have hbad := all_bad sok s 0 hi'
    have hix := sok_is10 (s.getD i 0)
    rw [ha, Bool.true_and] at hx
    have hidx := fun {n : Nat} {E : Env} {C : World → Prop} {dst : Option Tmp} {ty : TypeId} {pos : String} {aft : Array Edge} {g : Option (Nat × Bool)} {x y : Operand} => idxAt10 hi' (n := n) (E := E) (C := C) (dst := dst) (ty := ty) (pos := pos) (aft := aft) (g := g) (x := x) (y := y)
    generalize s.getD i 0 = c at hx hbad hix hidx
    cases h1 : decide ((c.toNat : Int) = 9) <;> cases h2 : decide ((c.toNat : Int) < 32) <;> cases h3 : decide (126 < (c.toNat : Int))
    all_goals (repeat (first | refine JL.q (by first | (apply hidx; exact rfl; exact rfl) | (apply OQ.neB; exact rfl; exact rfl; exact h1) | (apply OQ.lssB; exact rfl; exact rfl; exact h2) | (apply OQ.gtrB; exact rfl; exact rfl; exact h3) | (apply OQ.pick_t; exact rfl; exact rfl) | (apply OQ.pick_f; exact rfl; exact rfl) | (apply OQ.move; exact rfl) | (apply OQ.assign; exact rfl) | (apply OQ.len; exact rfl; exact rfl) | (apply OQ.addN; exact rfl; exact rfl; exact (by (try simp only []); omega)) | (apply OQ.subN; exact rfl; exact rfl; exact (by (try simp only []); omega); exact (by (try simp only []); omega)) | (apply OQ.lssN; exact rfl; exact rfl)) rfl ?_ | refine JC.seq ?_ | refine JC.region ?_ | refine JC.block ?_ | refine JC.skip ?_ | refine JC.exit ?_ | refine JL.nil ?_ | refine JE.next ?_ | refine JE.blk_normal ?_ | refine JE.then_exit ?_ | refine JE.blk_hit ?_ | refine JE.blk_miss rfl ?_ | refine JE.then_ret ?_ | refine JE.blk_ret ?_ | refine JC.label ?_ | refine JL.gon rfl rfl ?_ | refine JL.gskip rfl rfl rfl rfl ?_ | refine JL.gskipU rfl rfl rfl rfl ?_))
    all_goals refine JC.cond rfl (fun h => ?_) (fun h => ?_)
    all_goals first | (exfalso; revert h; decide) | skip
    all_goals (clear h)
    all_goals first
      | (have hnb : sok c = false := by rw [hix, h1, h2, h3]; rfl
         rw [hbad hnb]
         (repeat (first | refine JL.q (by first | (apply OQ.move; exact rfl) | (apply OQ.assign; exact rfl) | (apply OQ.len; exact rfl; exact rfl) | (apply OQ.addN; exact rfl; exact rfl; exact (by (try simp only []); omega)) | (apply OQ.subN; exact rfl; exact rfl; exact (by (try simp only []); omega); exact (by (try simp only []); omega)) | (apply OQ.lssN; exact rfl; exact rfl)) rfl ?_ | refine JC.seq ?_ | refine JC.region ?_ | refine JC.block ?_ | refine JC.skip ?_ | refine JC.exit ?_ | refine JL.nil ?_ | refine JE.next ?_ | refine JE.blk_normal ?_ | refine JE.then_exit ?_ | refine JE.blk_hit ?_ | refine JE.blk_miss rfl ?_ | refine JE.then_ret ?_ | refine JE.blk_ret ?_ | refine JC.label ?_ | refine JL.gon rfl rfl ?_ | refine JL.gskip rfl rfl rfl rfl ?_ | refine JL.gskipU rfl rfl rfl rfl ?_))
         refine JC.ret ?_
         (repeat (first | refine JL.q (by first | (apply OQ.move; exact rfl) | (apply OQ.assign; exact rfl) | (apply OQ.len; exact rfl; exact rfl) | (apply OQ.addN; exact rfl; exact rfl; exact (by (try simp only []); omega)) | (apply OQ.subN; exact rfl; exact rfl; exact (by (try simp only []); omega); exact (by (try simp only []); omega)) | (apply OQ.lssN; exact rfl; exact rfl)) rfl ?_ | refine JC.seq ?_ | refine JC.region ?_ | refine JC.block ?_ | refine JC.skip ?_ | refine JC.exit ?_ | refine JL.nil ?_ | refine JE.next ?_ | refine JE.blk_normal ?_ | refine JE.then_exit ?_ | refine JE.blk_hit ?_ | refine JE.blk_miss rfl ?_ | refine JE.then_ret ?_ | refine JE.blk_ret ?_ | refine JC.label ?_ | refine JL.gon rfl rfl ?_ | refine JL.gskip rfl rfl rfl rfl ?_ | refine JL.gskipU rfl rfl rfl rfl ?_))
         exact JE.ret1 rfl (RV.tmp rfl) fun w' hw => ⟨rfl, hw.chg⟩)
      | (have hnb : sok c = true := by rw [hix, h1, h2, h3]; rfl
         (repeat (first | refine JL.q (by first | (apply OQ.move; exact rfl) | (apply OQ.assign; exact rfl) | (apply OQ.len; exact rfl; exact rfl) | (apply OQ.addN; exact rfl; exact rfl; exact (by (try simp only []); omega)) | (apply OQ.subN; exact rfl; exact rfl; exact (by (try simp only []); omega); exact (by (try simp only []); omega)) | (apply OQ.lssN; exact rfl; exact rfl)) rfl ?_ | refine JC.seq ?_ | refine JC.region ?_ | refine JC.block ?_ | refine JC.skip ?_ | refine JC.exit ?_ | refine JL.nil ?_ | refine JE.next ?_ | refine JE.blk_normal ?_ | refine JE.then_exit ?_ | refine JE.blk_hit ?_ | refine JE.blk_miss rfl ?_ | refine JE.then_ret ?_ | refine JE.blk_ret ?_ | refine JC.label ?_ | refine JL.gon rfl rfl ?_ | refine JL.gskip rfl rfl rfl rfl ?_ | refine JL.gskipU rfl rfl rfl rfl ?_))
         exact JE.again (i := i) (i + 1) ⟨hi', by rw [hx, hnb]⟩ (by omega) (by repeat (first | exact SubE.nil | refine SubE.cons _ _ _ rfl ?_)) (Less.refl _))
  · have hi' : ¬ i < s.length := of_decide_eq_false h
    obtain rfl : i = s.length := by omega
    clear h hi hi'
    rw [List.take_length] at ha
    rw [ha]
    repeat (first | refine JL.q (by first | (apply OQ.move; exact rfl) | (apply OQ.assign; exact rfl) | (apply OQ.len; exact rfl; exact rfl) | (apply OQ.addN; exact rfl; exact rfl; exact (by (try simp only []); omega)) | (apply OQ.subN; exact rfl; exact rfl; exact (by (try simp only []); omega); exact (by (try simp only []); omega)) | (apply OQ.lssN; exact rfl; exact rfl)) rfl ?_ | refine JC.seq ?_ | refine JC.region ?_ | refine JC.block ?_ | refine JC.skip ?_ | refine JC.exit ?_ | refine JL.nil ?_ | refine JE.next ?_ | refine JE.blk_normal ?_ | refine JE.then_exit ?_ | refine JE.blk_hit ?_ | refine JE.blk_miss rfl ?_ | refine JE.then_ret ?_ | refine JE.blk_ret ?_ | refine JC.label ?_ | refine JL.gon rfl rfl ?_ | refine JL.gskip rfl rfl rfl rfl ?_ | refine JL.gskipU rfl rfl rfl rfl ?_)
    refine JC.ret ?_
    exact JE.ret1 rfl (RV.tmp rfl) fun w' hw => ⟨rfl, hw.chg⟩
set_option maxHeartbeats 8000000 in
theorem rlower_any (s : List Fld.By) (w : World) (hl : s.length < 140737488351233) : Calls Tryd.prog 64 [Z s].toArray w fun e w' => e = .returned (Z (s.map small)) ∧ Ext w w' := by
  refine enter (n := 30) Tryd.func64 rfl rfl rfl (Holds.start w []) ?_
  repeat (first | refine JL.q (by first | (apply OQ.move; exact rfl) | (apply OQ.assign; exact rfl) | (apply OQ.len; exact rfl; exact rfl) | (apply OQ.addN; exact rfl; exact rfl; exact (by (try simp only []); omega)) | (apply OQ.subN; exact rfl; exact rfl; exact (by (try simp only []); omega); exact (by (try simp only []); omega)) | (apply OQ.lssN; exact rfl; exact rfl)) rfl ?_ | refine JC.seq ?_ | refine JC.region ?_ | refine JC.block ?_ | refine JC.skip ?_ | refine JC.exit ?_ | refine JL.nil ?_ | refine JE.next ?_ | refine JE.blk_normal ?_ | refine JE.then_exit ?_ | refine JE.blk_hit ?_ | refine JE.blk_miss rfl ?_ | refine JE.then_ret ?_ | refine JE.blk_ret ?_ | refine JC.label ?_ | refine JL.gon rfl rfl ?_ | refine JL.gskip rfl rfl rfl rfl ?_ | refine JL.gskipU rfl rfl rfl rfl ?_)
  refine JL.lit0O Tryd.underlying25 u8e rfl fun b0 _ => ?_
  repeat (first | refine JL.q (by first | (apply OQ.move; exact rfl) | (apply OQ.assign; exact rfl) | (apply OQ.len; exact rfl; exact rfl) | (apply OQ.addN; exact rfl; exact rfl; exact (by (try simp only []); omega)) | (apply OQ.subN; exact rfl; exact rfl; exact (by (try simp only []); omega); exact (by (try simp only []); omega)) | (apply OQ.lssN; exact rfl; exact rfl)) rfl ?_ | refine JC.seq ?_ | refine JC.region ?_ | refine JC.block ?_ | refine JC.skip ?_ | refine JC.exit ?_ | refine JL.nil ?_ | refine JE.next ?_ | refine JE.blk_normal ?_ | refine JE.then_exit ?_ | refine JE.blk_hit ?_ | refine JE.blk_miss rfl ?_ | refine JE.then_ret ?_ | refine JE.blk_ret ?_ | refine JC.label ?_ | refine JL.gon rfl rfl ?_ | refine JL.gskip rfl rfl rfl rfl ?_ | refine JL.gskipU rfl rfl rfl rfl ?_)
  refine JC.loop (fun q : Nat × Nat × Nat => [(0, Z s), (3, .slice (some ⟨q.2.1, 0, none⟩) q.1 q.2.2), (4, N q.1)]) (fun q => [⟨q.2.1, Own 5 1 q.1 q.2.2 (((s.take q.1).map small).map U8), true⟩]) (fun q => s.length - q.1) (fun q => q.1 ≤ s.length) (0, b0, 0) (Nat.zero_le _) (by repeat (first | exact SubE.nil | refine SubE.cons _ _ _ rfl ?_)) (Less.refl _) ?_
  rintro ⟨i, b, cap⟩ hi
  simp only at hi
  dsimp only
  repeat (first | refine JL.q (by first | (apply OQ.lenS; exact Tryd.underlying9; exact rfl) | (apply OQ.move; exact rfl) | (apply OQ.assign; exact rfl) | (apply OQ.len; exact rfl; exact rfl) | (apply OQ.addN; exact rfl; exact rfl; exact (by (try simp only []); omega)) | (apply OQ.subN; exact rfl; exact rfl; exact (by (try simp only []); omega); exact (by (try simp only []); omega)) | (apply OQ.lssN; exact rfl; exact rfl)) rfl ?_ | refine JC.seq ?_ | refine JC.region ?_ | refine JC.block ?_ | refine JC.skip ?_ | refine JC.exit ?_ | refine JL.nil ?_ | refine JE.next ?_ | refine JE.blk_normal ?_ | refine JE.then_exit ?_ | refine JE.blk_hit ?_ | refine JE.blk_miss rfl ?_ | refine JE.then_ret ?_ | refine JE.blk_ret ?_ | refine JC.label ?_ | refine JL.gon rfl rfl ?_ | refine JL.gskip rfl rfl rfl rfl ?_ | refine JL.gskipU rfl rfl rfl rfl ?_)
  refine JC.cond rfl (fun h => ?_) (fun h => ?_)
  · have hi' : i < s.length := of_decide_eq_true h
    clear h hi
    have hx := take_succ_getD s hi'
    have hlen : ((s.take i).map small).length = i := by rw [List.length_map, List.length_take]; omega
    have hidx := fun {n : Nat} {E : Env} {C : World → Prop} {dst : Option Tmp} {ty : TypeId} {pos : String} {aft : Array Edge} {g : Option (Nat × Bool)} {x y : Operand} => idxAt10 hi' (n := n) (E := E) (C := C) (dst := dst) (ty := ty) (pos := pos) (aft := aft) (g := g) (x := x) (y := y)
    generalize s.getD i 0 = c at hx hidx
    have hs : small c = if decide ((65 : Int) ≤ (c.toNat : Int)) && decide ((c.toNat : Int) ≤ 90) then c + 32 else c := by
      unfold small
      by_cases h : 65 ≤ c.toNat ∧ c.toNat ≤ 90
      · rw [if_pos h, if_pos (by simp; omega)]
      · rw [if_neg h, if_neg (by simp; omega)]
    generalize hT : (s.take i).map small = T at hlen ⊢
    have hT2 : (s.take (i + 1)).map small = T ++ [small c] := by rw [hx, List.map_append, hT]; rfl
    generalize small c = d at hs hT2
    cases h1 : decide ((65 : Int) ≤ (c.toNat : Int)) <;> cases h2 : decide ((c.toNat : Int) ≤ 90)
    all_goals (
      rw [h1, h2] at hs
      (repeat (first | refine JL.q (by first | (apply hidx; exact rfl; exact rfl) | (apply OQ.geqB (b := 65); exact rfl; exact rfl; exact h1) | (apply OQ.leqB (b := 90); exact rfl; exact rfl; exact h2) | (apply OQ.pick_t; exact rfl; exact rfl) | (apply OQ.pick_f; exact rfl; exact rfl) | (apply OQ.move; exact rfl) | (apply OQ.assign; exact rfl) | (apply OQ.len; exact rfl; exact rfl) | (apply OQ.addN; exact rfl; exact rfl; exact (by (try simp only []); omega)) | (apply OQ.subN; exact rfl; exact rfl; exact (by (try simp only []); omega); exact (by (try simp only []); omega)) | (apply OQ.lssN; exact rfl; exact rfl)) rfl ?_ | refine JC.seq ?_ | refine JC.region ?_ | refine JC.block ?_ | refine JC.skip ?_ | refine JC.exit ?_ | refine JL.nil ?_ | refine JE.next ?_ | refine JE.blk_normal ?_ | refine JE.then_exit ?_ | refine JE.blk_hit ?_ | refine JE.blk_miss rfl ?_ | refine JE.then_ret ?_ | refine JE.blk_ret ?_ | refine JC.label ?_ | refine JL.gon rfl rfl ?_ | refine JL.gskip rfl rfl rfl rfl ?_ | refine JL.gskipU rfl rfl rfl rfl ?_))
      refine JC.join (ι := Unit) (fun _ => [(0, Z s), (3, .slice (some ⟨b, 0, none⟩) i cap), (4, N i), (5, U8 d)]) (fun _ => [⟨b, Own 5 1 i cap (T.map U8), true⟩]) (fun _ => True) ?_ ?_
      · subst hs
        refine JC.cond rfl (fun h => ?_) (fun h => ?_)
        all_goals first | (exfalso; revert h; decide) | skip
        all_goals (clear h; repeat (first | refine JL.q (by first | (apply OQ.add8 (b := 32#8); exact rfl; exact rfl) | (apply OQ.move; exact rfl) | (apply OQ.assign; exact rfl) | (apply OQ.len; exact rfl; exact rfl) | (apply OQ.addN; exact rfl; exact rfl; exact (by (try simp only []); omega)) | (apply OQ.subN; exact rfl; exact rfl; exact (by (try simp only []); omega); exact (by (try simp only []); omega)) | (apply OQ.lssN; exact rfl; exact rfl)) rfl ?_ | refine JC.seq ?_ | refine JC.region ?_ | refine JC.block ?_ | refine JC.skip ?_ | refine JC.exit ?_ | refine JL.nil ?_ | refine JE.next ?_ | refine JE.blk_normal ?_ | refine JE.then_exit ?_ | refine JE.blk_hit ?_ | refine JE.blk_miss rfl ?_ | refine JE.then_ret ?_ | refine JE.blk_ret ?_ | refine JC.label ?_ | refine JL.gon rfl rfl ?_ | refine JL.gskip rfl rfl rfl rfl ?_ | refine JL.gskipU rfl rfl rfl rfl ?_))
        all_goals exact JE.mid () trivial (by repeat (first | exact SubE.nil | refine SubE.cons _ _ _ rfl ?_)) (Less.refl _)
      · rintro ⟨⟩ _
        (repeat (first | refine JL.q (by first | (apply OQ.move; exact rfl) | (apply OQ.assign; exact rfl) | (apply OQ.len; exact rfl; exact rfl) | (apply OQ.addN; exact rfl; exact rfl; exact (by (try simp only []); omega)) | (apply OQ.subN; exact rfl; exact rfl; exact (by (try simp only []); omega); exact (by (try simp only []); omega)) | (apply OQ.lssN; exact rfl; exact rfl)) rfl ?_ | refine JC.seq ?_ | refine JC.region ?_ | refine JC.block ?_ | refine JC.skip ?_ | refine JC.exit ?_ | refine JL.nil ?_ | refine JE.next ?_ | refine JE.blk_normal ?_ | refine JE.then_exit ?_ | refine JE.blk_hit ?_ | refine JE.blk_miss rfl ?_ | refine JE.then_ret ?_ | refine JE.blk_ret ?_ | refine JC.label ?_ | refine JL.gon rfl rfl ?_ | refine JL.gskip rfl rfl rfl rfl ?_ | refine JL.gskipU rfl rfl rfl rfl ?_))
        refine JL.push1 (xs := T.map U8) (fun b' cap' => [⟨b', Own 5 1 (i + 1) cap' (T.map U8 ++ [U8 d]), true⟩]) Tryd.underlying25 u8e rfl rfl rfl rfl (fun _ => rfl) (by intro _ _; repeat (first | exact Repl.here | apply Repl.there)) (by omega) (by omega) rfl rfl fun bl b' cap' => ?_
        (repeat (first | refine JL.q (by first | (apply OQ.move; exact rfl) | (apply OQ.assign; exact rfl) | (apply OQ.len; exact rfl; exact rfl) | (apply OQ.addN; exact rfl; exact rfl; exact (by (try simp only []); omega)) | (apply OQ.subN; exact rfl; exact rfl; exact (by (try simp only []); omega); exact (by (try simp only []); omega)) | (apply OQ.lssN; exact rfl; exact rfl)) rfl ?_ | refine JC.seq ?_ | refine JC.region ?_ | refine JC.block ?_ | refine JC.skip ?_ | refine JC.exit ?_ | refine JL.nil ?_ | refine JE.next ?_ | refine JE.blk_normal ?_ | refine JE.then_exit ?_ | refine JE.blk_hit ?_ | refine JE.blk_miss rfl ?_ | refine JE.then_ret ?_ | refine JE.blk_ret ?_ | refine JC.label ?_ | refine JL.gon rfl rfl ?_ | refine JL.gskip rfl rfl rfl rfl ?_ | refine JL.gskipU rfl rfl rfl rfl ?_))
        refine JE.again (i := (i, b, cap)) (i + 1, b', cap') hi' (by show s.length - (i + 1) < s.length - i; omega) (by repeat (first | exact SubE.nil | refine SubE.cons _ _ _ rfl ?_)) (.keep _ _ _ _ _ _ (fun o h => ?_) (.nil _))
        dsimp only
        rw [hT2, List.map_append]
        exact h)
  · have hi' : ¬ i < s.length := of_decide_eq_false h
    obtain rfl : i = s.length := by omega
    clear h hi hi'
    rw [List.take_length]
    have hY : s.length = (s.map small).length := (List.length_map _).symm
    generalize s.map small = Y at hY ⊢
    rw [hY]
    repeat (first | refine JL.q (by first | (apply OQ.b2s (s := ⟨some ⟨b, 0, none⟩, cap, Y⟩); exact Tryd.underlying25; exact Tryd.underlying5; exact Tryd.underlying9; exact rfl; exact (fun w' hw' => ownb_ok hw' .here)) | (apply OQ.move; exact rfl) | (apply OQ.assign; exact rfl) | (apply OQ.len; exact rfl; exact rfl) | (apply OQ.addN; exact rfl; exact rfl; exact (by (try simp only []); omega)) | (apply OQ.subN; exact rfl; exact rfl; exact (by (try simp only []); omega); exact (by (try simp only []); omega)) | (apply OQ.lssN; exact rfl; exact rfl)) rfl ?_ | refine JC.seq ?_ | refine JC.region ?_ | refine JC.block ?_ | refine JC.skip ?_ | refine JC.exit ?_ | refine JL.nil ?_ | refine JE.next ?_ | refine JE.blk_normal ?_ | refine JE.then_exit ?_ | refine JE.blk_hit ?_ | refine JE.blk_miss rfl ?_ | refine JE.then_ret ?_ | refine JE.blk_ret ?_ | refine JC.label ?_ | refine JL.gon rfl rfl ?_ | refine JL.gskip rfl rfl rfl rfl ?_ | refine JL.gskipU rfl rfl rfl rfl ?_)
    refine JC.ret ?_
    repeat (first | refine JL.q (by first | (apply OQ.move; exact rfl) | (apply OQ.assign; exact rfl) | (apply OQ.len; exact rfl; exact rfl) | (apply OQ.addN; exact rfl; exact rfl; exact (by (try simp only []); omega)) | (apply OQ.subN; exact rfl; exact rfl; exact (by (try simp only []); omega); exact (by (try simp only []); omega)) | (apply OQ.lssN; exact rfl; exact rfl)) rfl ?_ | refine JC.seq ?_ | refine JC.region ?_ | refine JC.block ?_ | refine JC.skip ?_ | refine JC.exit ?_ | refine JL.nil ?_ | refine JE.next ?_ | refine JE.blk_normal ?_ | refine JE.then_exit ?_ | refine JE.blk_hit ?_ | refine JE.blk_miss rfl ?_ | refine JE.then_ret ?_ | refine JE.blk_ret ?_ | refine JC.label ?_ | refine JL.gon rfl rfl ?_ | refine JL.gskip rfl rfl rfl rfl ?_ | refine JL.gskipU rfl rfl rfl rfl ?_)
    exact JE.ret1 rfl (RV.tmp rfl) fun w' hw => ⟨rfl, hw.chg⟩
end Go.Proofs.YtchoiikhepjdiaaDoor

/-
  Of no statement by itself: what the landed token's printed, run, made and Atom give.
  Conditions: each theorem's own.
-/
namespace Go.Proofs.YtchoiikhepjdiaaDoor
set_option maxRecDepth 10000
open Sl Fld Tok
theorem OQ.eq8T {P : Program} {n : Nat} {E : Env} {C : World → Prop} {dst : Option Tmp} {t t' ty : TypeId} {pos : String} {aft : Array Edge} {g : Option (Nat × Bool)} {x y : Operand} {a b : BitVec 8} {c : Bool} (hx : ev E x = some (U8 a)) (hy : ev E y = some (U8 b)) (h : decide (a = b) = c) : OQ P n E C ⟨dst, .binOp .eql t x y t', ty, pos, aft, g⟩ (.bool c) := h ▸ OQ.eq8 hx hy
theorem strC1 : scal Tryd.prog 9 = true := by kernel_rfl
/-! ### printed signs, but some -/
def prB (but : List Fld.By) (c : Fld.By) : Bool := (decide ((33 : Int) ≤ (c.toNat : Int)) && decide ((c.toNat : Int) ≤ 126)) && decide (ixC c but < 0)
def notAtom : List Fld.By := [40, 41, 60, 62, 64, 44, 59, 92, 34, 91, 93, 61, 47, 58, 63, 46]
def notWord : List Fld.By := [40, 41, 60, 62, 64, 44, 59, 92, 34, 91, 93, 61]
theorem prB_atom : prB notAtom = plainB := by
  funext c
  have h : ∀ c : Fin 256, prB notAtom (BitVec.ofNat 8 c.val) = plainB (BitVec.ofNat 8 c.val) := by decide +kernel
  simpa using h ⟨c.toNat, c.isLt⟩
theorem prB_word : prB notWord = looseB := by
  funext c
  have h : ∀ c : Fin 256, prB notWord (BitVec.ofNat 8 c.val) = looseB (BitVec.ofNat 8 c.val) := by decide +kernel
  simpa using h ⟨c.toNat, c.isLt⟩
theorem prB_id : prB [60, 62] = idq := by
  funext c
  have h : ∀ c : Fin 256, prB [60, 62] (BitVec.ofNat 8 c.val) = idq (BitVec.ofNat 8 c.val) := by decide +kernel
  simpa using h ⟨c.toNat, c.isLt⟩
theorem goes_printed : Goes Tryd.prog 55 := ⟨_, Tryd.func55, rfl, by kernel_rfl⟩
theorem goes_printed1 : Goes Tryd.prog 88 := ⟨_, Tryd.func88, rfl, by kernel_rfl⟩
theorem goes_run : Goes Tryd.prog 67 := ⟨_, Tryd.func67, rfl, by kernel_rfl⟩
theorem goes_made : Goes Tryd.prog 54 := ⟨_, Tryd.func54, rfl, by kernel_rfl⟩
theorem goes_atomA : Goes Tryd.prog 29 := ⟨_, Tryd.func29, rfl, by kernel_rfl⟩
theorem goes_comment : Goes Tryd.prog 52 := ⟨_, Tryd.func52, rfl, by kernel_rfl⟩
theorem goes_quoted : Goes Tryd.prog 53 := ⟨_, Tryd.func53, rfl, by kernel_rfl⟩
theorem goes_bareA : Goes Tryd.prog 27 := ⟨_, Tryd.func27, rfl, by kernel_rfl⟩
set_option maxHeartbeats 4000000 in
theorem printed1_any (but : List Fld.By) (b : Nat) (c : Bt) (w : World) (hc : w.cell? ⟨b, 0, none⟩ = some (Z but)) : Calls Tryd.prog 88 [U8 c, Pt b 0].toArray w fun e w' => e = .returned (.bool (prB but c)) ∧ Ext w w' := by
  refine enter (n := 16) Tryd.func88 rfl rfl rfl (Holds.start w []) ?_
  unfold prB
  cases h1 : decide ((33 : Int) ≤ (c.toNat : Int)) <;> cases h2 : decide ((c.toNat : Int) ≤ 126) <;> cases h3 : decide (ixC c but < 0)
  all_goals (repeat (first | refine JL.q (by first | (apply OQ.geqB (b := 33); exact rfl; exact rfl; exact h1) | (apply OQ.leqB (b := 126); exact rfl; exact rfl; exact h2) | (apply OQ.load_old; exact strC1; exact rfl; exact (block_lt_of_cell hc); exact (by simp); exact hc) | (apply OQ.callx (vs := [Z but, U8 c]); exact goes_idxb; exact rfl; exact (fun w' _ => idxb_any but c w')) | (apply OQ.lssB (b := 0); exact rfl; exact rfl; exact h3) | (apply OQ.pick_t; exact rfl; exact rfl) | (apply OQ.pick_f; exact rfl; exact rfl) | (apply OQ.move; exact rfl) | (apply OQ.assign; exact rfl) | (apply OQ.len; exact rfl; exact rfl) | (apply OQ.addN; exact rfl; exact rfl; exact (by (try simp only []); omega)) | (apply OQ.subN; exact rfl; exact rfl; exact (by (try simp only []); omega); exact (by (try simp only []); omega)) | (apply OQ.lssN; exact rfl; exact rfl) | (apply OQ.gtrN; exact rfl; exact rfl) | (apply OQ.geqN; exact rfl; exact rfl)) rfl ?_ | refine JC.seq ?_ | refine JC.region ?_ | refine JC.block ?_ | refine JC.skip ?_ | refine JC.exit ?_ | refine JL.nil ?_ | refine JE.next ?_ | refine JE.blk_normal ?_ | refine JE.then_exit ?_ | refine JE.blk_hit ?_ | refine JE.blk_miss rfl ?_ | refine JE.then_ret ?_ | refine JE.blk_ret ?_ | refine JC.label ?_ | refine JL.gon rfl rfl ?_ | refine JL.gskip rfl rfl rfl rfl ?_ | refine JL.gskipU rfl rfl rfl rfl ?_))
  all_goals exact JC.ret (JE.ret1 rfl (RV.tmp rfl) fun w' hw => ⟨rfl, hw.chg⟩)
/-- the function value that tells printed signs -/
@[reducible] def prF (b : Nat) : Value := .func (.func 88) #[] [Pt b 0].toArray
theorem fun_printed {w0 w : World} {S : List Nat} {M : List Ent} {b : Nat} {but : List Fld.By} {wr : Bool} (hw : Holds w0 S M w) (hM : Has M b (Row 9 [Z but]) wr) : Fun8 Tryd.prog w (prF b) (prB but) := by
  refine ⟨_, [Pt b 0], rfl, goes_printed1, fun c w' hx => printed1_any but b c w' ?_⟩
  obtain ⟨o, ho, hA⟩ := hw.get hM
  have hlt : b < w.heap.size := hw.lt hM.mem
  exact cell_of ((hx.block b hlt (by simp)).trans ho) (Row.cell rfl o hA)
theorem printed_any (but : List Fld.By) (w : World) : Calls Tryd.prog 55 [Z but].toArray w fun e w' => ∃ b, e = .returned (prF b) ∧ Holds w [] [⟨b, Row 9 [Z but], true⟩] w' := by
  refine enter (n := 4) Tryd.func55 rfl rfl rfl (Holds.start w []) ?_
  refine JC.seq (JC.region (JL.box (r := [Z but]) rfl rfl rfl fun b _ => ?_))
  repeat (first | refine JL.q (by first | (apply OQ.mkF (caps := [Pt b 0]); exact rfl) | (apply OQ.move; exact rfl) | (apply OQ.assign; exact rfl) | (apply OQ.len; exact rfl; exact rfl) | (apply OQ.addN; exact rfl; exact rfl; exact (by (try simp only []); omega)) | (apply OQ.subN; exact rfl; exact rfl; exact (by (try simp only []); omega); exact (by (try simp only []); omega)) | (apply OQ.lssN; exact rfl; exact rfl) | (apply OQ.gtrN; exact rfl; exact rfl) | (apply OQ.geqN; exact rfl; exact rfl)) rfl ?_ | refine JC.seq ?_ | refine JC.region ?_ | refine JC.block ?_ | refine JC.skip ?_ | refine JC.exit ?_ | refine JL.nil ?_ | refine JE.next ?_ | refine JE.blk_normal ?_ | refine JE.then_exit ?_ | refine JE.blk_hit ?_ | refine JE.blk_miss rfl ?_ | refine JE.then_ret ?_ | refine JE.blk_ret ?_ | refine JC.label ?_ | refine JL.gon rfl rfl ?_ | refine JL.gskip rfl rfl rfl rfl ?_ | refine JL.gskipU rfl rfl rfl rfl ?_)
  exact JC.ret (JE.ret1 rfl (RV.tmp rfl) fun w' hw => ⟨b, rfl, hw⟩)
set_option maxHeartbeats 4000000 in
theorem run_any (s : List Bt) (fv : Value) (p : Bt → Bool) (w : World) (hF : Fun8 Tryd.prog w fv p) (hl : s.length < 9223372036854775808) : Calls Tryd.prog 67 [Z s, fv].toArray w fun e w' => e = .returned (N (runB p s)) ∧ Ext w w' := by
  refine enter (n := 21) Tryd.func67 rfl rfl rfl (Holds.start w []) ?_
  repeat (first | refine JL.q (by first | (apply OQ.lenS; exact Tryd.underlying9; exact rfl) | (apply OQ.move; exact rfl) | (apply OQ.assign; exact rfl) | (apply OQ.len; exact rfl; exact rfl) | (apply OQ.addN; exact rfl; exact rfl; exact (by (try simp only []); omega)) | (apply OQ.subN; exact rfl; exact rfl; exact (by (try simp only []); omega); exact (by (try simp only []); omega)) | (apply OQ.lssN; exact rfl; exact rfl) | (apply OQ.gtrN; exact rfl; exact rfl) | (apply OQ.geqN; exact rfl; exact rfl)) rfl ?_ | refine JC.seq ?_ | refine JC.region ?_ | refine JC.block ?_ | refine JC.skip ?_ | refine JC.exit ?_ | refine JL.nil ?_ | refine JE.next ?_ | refine JE.blk_normal ?_ | refine JE.then_exit ?_ | refine JE.blk_hit ?_ | refine JE.blk_miss rfl ?_ | refine JE.then_ret ?_ | refine JE.blk_ret ?_ | refine JC.label ?_ | refine JL.gon rfl rfl ?_ | refine JL.gskip rfl rfl rfl rfl ?_ | refine JL.gskipU rfl rfl rfl rfl ?_)
  refine JC.loop (fun i : Nat => [(0, Z s), (1, fv), (7, N s.length), (8, N i)]) (fun _ => []) (fun i => s.length - i) (fun i => i ≤ s.length ∧ runB p s = i + runB p (s.drop i)) 0 ⟨Nat.zero_le _, by simp⟩ (by repeat (first | exact SubE.nil | refine SubE.cons _ _ _ rfl ?_)) (Less.refl _) ?_
  rintro i ⟨hi, ha⟩
  repeat (first | refine JL.q (by first | (apply OQ.move; exact rfl) | (apply OQ.assign; exact rfl) | (apply OQ.len; exact rfl; exact rfl) | (apply OQ.addN; exact rfl; exact rfl; exact (by (try simp only []); omega)) | (apply OQ.subN; exact rfl; exact rfl; exact (by (try simp only []); omega); exact (by (try simp only []); omega)) | (apply OQ.lssN; exact rfl; exact rfl) | (apply OQ.gtrN; exact rfl; exact rfl) | (apply OQ.geqN; exact rfl; exact rfl)) rfl ?_ | refine JC.seq ?_ | refine JC.region ?_ | refine JC.block ?_ | refine JC.skip ?_ | refine JC.exit ?_ | refine JL.nil ?_ | refine JE.next ?_ | refine JE.blk_normal ?_ | refine JE.then_exit ?_ | refine JE.blk_hit ?_ | refine JE.blk_miss rfl ?_ | refine JE.then_ret ?_ | refine JE.blk_ret ?_ | refine JC.label ?_ | refine JL.gon rfl rfl ?_ | refine JL.gskip rfl rfl rfl rfl ?_ | refine JL.gskipU rfl rfl rfl rfl ?_)
  refine JC.cond rfl (fun h => ?_) (fun h => ?_)
  · have hi' : i < s.length := of_decide_eq_true h
    clear h hi
    have hd : s.drop i = s.getD i 0 :: s.drop (i + 1) := by rw [List.drop_eq_getElem_cons hi', List.getD_eq_getElem?_getD, List.getElem?_eq_getElem hi']; rfl
    rw [hd, runB_cons] at ha
    have i0 := fun {n : Nat} {E : Env} {C : World → Prop} {dst : Option Tmp} {ty : TypeId} {pos : String} {aft : Array Edge} {g : Option (Nat × Bool)} {x y : Operand} => idxAt10 hi' (n := n) (E := E) (C := C) (dst := dst) (ty := ty) (pos := pos) (aft := aft) (g := g) (x := x) (y := y)
    generalize s.getD i 0 = c at ha i0
    cases h1 : p c
    · rw [h1, if_neg (by decide), Nat.add_zero] at ha
      rw [ha]
      repeat (first | refine JL.q (by first | (apply i0; exact rfl; exact rfl) | (apply OQ.callF; exact hF; exact rfl; exact rfl; exact h1) | (apply OQ.not; exact rfl) | (apply OQ.move; exact rfl) | (apply OQ.assign; exact rfl) | (apply OQ.len; exact rfl; exact rfl) | (apply OQ.addN; exact rfl; exact rfl; exact (by (try simp only []); omega)) | (apply OQ.subN; exact rfl; exact rfl; exact (by (try simp only []); omega); exact (by (try simp only []); omega)) | (apply OQ.lssN; exact rfl; exact rfl) | (apply OQ.gtrN; exact rfl; exact rfl) | (apply OQ.geqN; exact rfl; exact rfl)) rfl ?_ | refine JC.seq ?_ | refine JC.region ?_ | refine JC.block ?_ | refine JC.skip ?_ | refine JC.exit ?_ | refine JL.nil ?_ | refine JE.next ?_ | refine JE.blk_normal ?_ | refine JE.then_exit ?_ | refine JE.blk_hit ?_ | refine JE.blk_miss rfl ?_ | refine JE.then_ret ?_ | refine JE.blk_ret ?_ | refine JC.label ?_ | refine JL.gon rfl rfl ?_ | refine JL.gskip rfl rfl rfl rfl ?_ | refine JL.gskipU rfl rfl rfl rfl ?_)
      refine JC.cond rfl (fun _ => ?_) (fun h => by cases h)
      repeat (first | refine JL.q (by first | (apply OQ.move; exact rfl) | (apply OQ.assign; exact rfl) | (apply OQ.len; exact rfl; exact rfl) | (apply OQ.addN; exact rfl; exact rfl; exact (by (try simp only []); omega)) | (apply OQ.subN; exact rfl; exact rfl; exact (by (try simp only []); omega); exact (by (try simp only []); omega)) | (apply OQ.lssN; exact rfl; exact rfl) | (apply OQ.gtrN; exact rfl; exact rfl) | (apply OQ.geqN; exact rfl; exact rfl)) rfl ?_ | refine JC.seq ?_ | refine JC.region ?_ | refine JC.block ?_ | refine JC.skip ?_ | refine JC.exit ?_ | refine JL.nil ?_ | refine JE.next ?_ | refine JE.blk_normal ?_ | refine JE.then_exit ?_ | refine JE.blk_hit ?_ | refine JE.blk_miss rfl ?_ | refine JE.then_ret ?_ | refine JE.blk_ret ?_ | refine JC.label ?_ | refine JL.gon rfl rfl ?_ | refine JL.gskip rfl rfl rfl rfl ?_ | refine JL.gskipU rfl rfl rfl rfl ?_)
      refine JC.ret ?_
      repeat (first | refine JL.q (by first | (apply OQ.move; exact rfl) | (apply OQ.assign; exact rfl) | (apply OQ.len; exact rfl; exact rfl) | (apply OQ.addN; exact rfl; exact rfl; exact (by (try simp only []); omega)) | (apply OQ.subN; exact rfl; exact rfl; exact (by (try simp only []); omega); exact (by (try simp only []); omega)) | (apply OQ.lssN; exact rfl; exact rfl) | (apply OQ.gtrN; exact rfl; exact rfl) | (apply OQ.geqN; exact rfl; exact rfl)) rfl ?_ | refine JC.seq ?_ | refine JC.region ?_ | refine JC.block ?_ | refine JC.skip ?_ | refine JC.exit ?_ | refine JL.nil ?_ | refine JE.next ?_ | refine JE.blk_normal ?_ | refine JE.then_exit ?_ | refine JE.blk_hit ?_ | refine JE.blk_miss rfl ?_ | refine JE.then_ret ?_ | refine JE.blk_ret ?_ | refine JC.label ?_ | refine JL.gon rfl rfl ?_ | refine JL.gskip rfl rfl rfl rfl ?_ | refine JL.gskipU rfl rfl rfl rfl ?_)
      exact JE.ret1 rfl (RV.tmp rfl) fun w' hw => ⟨rfl, hw.chg⟩
    · rw [h1, if_pos rfl] at ha
      repeat (first | refine JL.q (by first | (apply i0; exact rfl; exact rfl) | (apply OQ.callF; exact hF; exact rfl; exact rfl; exact h1) | (apply OQ.not; exact rfl) | (apply OQ.move; exact rfl) | (apply OQ.assign; exact rfl) | (apply OQ.len; exact rfl; exact rfl) | (apply OQ.addN; exact rfl; exact rfl; exact (by (try simp only []); omega)) | (apply OQ.subN; exact rfl; exact rfl; exact (by (try simp only []); omega); exact (by (try simp only []); omega)) | (apply OQ.lssN; exact rfl; exact rfl) | (apply OQ.gtrN; exact rfl; exact rfl) | (apply OQ.geqN; exact rfl; exact rfl)) rfl ?_ | refine JC.seq ?_ | refine JC.region ?_ | refine JC.block ?_ | refine JC.skip ?_ | refine JC.exit ?_ | refine JL.nil ?_ | refine JE.next ?_ | refine JE.blk_normal ?_ | refine JE.then_exit ?_ | refine JE.blk_hit ?_ | refine JE.blk_miss rfl ?_ | refine JE.then_ret ?_ | refine JE.blk_ret ?_ | refine JC.label ?_ | refine JL.gon rfl rfl ?_ | refine JL.gskip rfl rfl rfl rfl ?_ | refine JL.gskipU rfl rfl rfl rfl ?_)
      refine JC.cond rfl (fun h => by cases h) (fun _ => ?_)
      repeat (first | refine JL.q (by first | (apply OQ.move; exact rfl) | (apply OQ.assign; exact rfl) | (apply OQ.len; exact rfl; exact rfl) | (apply OQ.addN; exact rfl; exact rfl; exact (by (try simp only []); omega)) | (apply OQ.subN; exact rfl; exact rfl; exact (by (try simp only []); omega); exact (by (try simp only []); omega)) | (apply OQ.lssN; exact rfl; exact rfl) | (apply OQ.gtrN; exact rfl; exact rfl) | (apply OQ.geqN; exact rfl; exact rfl)) rfl ?_ | refine JC.seq ?_ | refine JC.region ?_ | refine JC.block ?_ | refine JC.skip ?_ | refine JC.exit ?_ | refine JL.nil ?_ | refine JE.next ?_ | refine JE.blk_normal ?_ | refine JE.then_exit ?_ | refine JE.blk_hit ?_ | refine JE.blk_miss rfl ?_ | refine JE.then_ret ?_ | refine JE.blk_ret ?_ | refine JC.label ?_ | refine JL.gon rfl rfl ?_ | refine JL.gskip rfl rfl rfl rfl ?_ | refine JL.gskipU rfl rfl rfl rfl ?_)
      exact JE.again (i := i) (i + 1) ⟨hi', by omega⟩ (by omega) (by repeat (first | exact SubE.nil | refine SubE.cons _ _ _ rfl ?_)) (Less.refl _)
  · have hi' : ¬ i < s.length := of_decide_eq_false h
    obtain rfl : i = s.length := by omega
    clear h hi hi'
    rw [List.drop_length] at ha
    have : runB p s = s.length := ha
    rw [this]
    repeat (first | refine JL.q (by first | (apply OQ.lenS; exact Tryd.underlying9; exact rfl) | (apply OQ.move; exact rfl) | (apply OQ.assign; exact rfl) | (apply OQ.len; exact rfl; exact rfl) | (apply OQ.addN; exact rfl; exact rfl; exact (by (try simp only []); omega)) | (apply OQ.subN; exact rfl; exact rfl; exact (by (try simp only []); omega); exact (by (try simp only []); omega)) | (apply OQ.lssN; exact rfl; exact rfl) | (apply OQ.gtrN; exact rfl; exact rfl) | (apply OQ.geqN; exact rfl; exact rfl)) rfl ?_ | refine JC.seq ?_ | refine JC.region ?_ | refine JC.block ?_ | refine JC.skip ?_ | refine JC.exit ?_ | refine JL.nil ?_ | refine JE.next ?_ | refine JE.blk_normal ?_ | refine JE.then_exit ?_ | refine JE.blk_hit ?_ | refine JE.blk_miss rfl ?_ | refine JE.then_ret ?_ | refine JE.blk_ret ?_ | refine JC.label ?_ | refine JL.gon rfl rfl ?_ | refine JL.gskip rfl rfl rfl rfl ?_ | refine JL.gskipU rfl rfl rfl rfl ?_)
    refine JC.ret ?_
    exact JE.ret1 rfl (RV.tmp rfl) fun w' hw => ⟨rfl, hw.chg⟩
def madeB (p : Fld.By → Bool) (s : List Fld.By) : Bool := !decide (s = []) && decide ((runB p s : Int) = (s.length : Int))
set_option maxHeartbeats 4000000 in
theorem made_any (s : List Bt) (fv : Value) (p : Bt → Bool) (w : World) (hF : Fun8 Tryd.prog w fv p) (hl : s.length < 9223372036854775808) : Calls Tryd.prog 54 [Z s, fv].toArray w fun e w' => e = .returned (.bool (madeB p s)) ∧ Ext w w' := by
  refine enter (n := 15) Tryd.func54 rfl rfl rfl (Holds.start w []) ?_
  unfold madeB
  cases h1 : decide (s = []) <;> cases h2 : decide ((runB p s : Int) = (s.length : Int))
  all_goals (repeat (first | refine JL.q (by first | (apply OQ.neSB (r := []); exact rfl; exact rfl; exact h1) | (apply OQ.callx (vs := [Z s, fv]); exact goes_run; exact rfl; exact (fun w' hw' => run_any s fv p w' (hF.holds hw') hl)) | (apply OQ.lenS; exact Tryd.underlying9; exact rfl) | (apply OQ.eqB; exact rfl; exact rfl; exact h2) | (apply OQ.pick_t; exact rfl; exact rfl) | (apply OQ.pick_f; exact rfl; exact rfl) | (apply OQ.move; exact rfl) | (apply OQ.assign; exact rfl) | (apply OQ.len; exact rfl; exact rfl) | (apply OQ.addN; exact rfl; exact rfl; exact (by (try simp only []); omega)) | (apply OQ.subN; exact rfl; exact rfl; exact (by (try simp only []); omega); exact (by (try simp only []); omega)) | (apply OQ.lssN; exact rfl; exact rfl) | (apply OQ.gtrN; exact rfl; exact rfl) | (apply OQ.geqN; exact rfl; exact rfl)) rfl ?_ | refine JC.seq ?_ | refine JC.region ?_ | refine JC.block ?_ | refine JC.skip ?_ | refine JC.exit ?_ | refine JL.nil ?_ | refine JE.next ?_ | refine JE.blk_normal ?_ | refine JE.then_exit ?_ | refine JE.blk_hit ?_ | refine JE.blk_miss rfl ?_ | refine JE.then_ret ?_ | refine JE.blk_ret ?_ | refine JC.label ?_ | refine JL.gon rfl rfl ?_ | refine JL.gskip rfl rfl rfl rfl ?_ | refine JL.gskipU rfl rfl rfl rfl ?_))
  all_goals exact JC.ret (JE.ret1 rfl (RV.tmp rfl) fun w' hw => ⟨rfl, hw.chg⟩)
theorem made_atom (s : List Fld.By) : madeB (prB notAtom) s = atomB s := by
  rw [atom_run, prB_atom]
  unfold madeB
  congr 1
  · cases s <;> simp
  · exact decide_eq_decide.2 (by omega)
theorem made_word (s : List Fld.By) : madeB (prB notWord) s = simpleB s := by
  rw [simple_run, prB_word]
  unfold madeB
  congr 1
  · cases s <;> simp
  · exact decide_eq_decide.2 (by omega)
set_option maxHeartbeats 4000000 in
theorem atomA_any (s : List Bt) (w : World) (hl : s.length < 9223372036854775808) : Calls Tryd.prog 29 [Z s].toArray w fun e w' => e = .returned (.bool (atomB s)) ∧ Ext w w' := by
  refine enter (n := 6) Tryd.func29 rfl rfl rfl (Holds.start w []) ?_
  rw [← made_atom]
  repeat (first | refine JL.q (by first | (apply OQ.move; exact rfl) | (apply OQ.assign; exact rfl) | (apply OQ.len; exact rfl; exact rfl) | (apply OQ.addN; exact rfl; exact rfl; exact (by (try simp only []); omega)) | (apply OQ.subN; exact rfl; exact rfl; exact (by (try simp only []); omega); exact (by (try simp only []); omega)) | (apply OQ.lssN; exact rfl; exact rfl) | (apply OQ.gtrN; exact rfl; exact rfl) | (apply OQ.geqN; exact rfl; exact rfl)) rfl ?_ | refine JC.seq ?_ | refine JC.region ?_ | refine JC.block ?_ | refine JC.skip ?_ | refine JC.exit ?_ | refine JL.nil ?_ | refine JE.next ?_ | refine JE.blk_normal ?_ | refine JE.then_exit ?_ | refine JE.blk_hit ?_ | refine JE.blk_miss rfl ?_ | refine JE.then_ret ?_ | refine JE.blk_ret ?_ | refine JC.label ?_ | refine JL.gon rfl rfl ?_ | refine JL.gskip rfl rfl rfl rfl ?_ | refine JL.gskipU rfl rfl rfl rfl ?_)
  refine JL.callg (ι := Nat) (vs := [Z notAtom]) prF (fun b => [⟨b, Row 9 [Z notAtom], true⟩]) goes_printed rfl rfl (fun b e he => by rw [List.mem_singleton.1 he]) (fun w' _ => printed_any notAtom w') fun b => ?_
  repeat (first | refine JL.q (by first | (apply OQ.callx (vs := [Z s, prF b]); exact goes_made; exact rfl; exact (fun w' hw' => made_any s (prF b) (prB notAtom) w' (fun_printed hw' .here) hl)) | (apply OQ.move; exact rfl) | (apply OQ.assign; exact rfl) | (apply OQ.len; exact rfl; exact rfl) | (apply OQ.addN; exact rfl; exact rfl; exact (by (try simp only []); omega)) | (apply OQ.subN; exact rfl; exact rfl; exact (by (try simp only []); omega); exact (by (try simp only []); omega)) | (apply OQ.lssN; exact rfl; exact rfl) | (apply OQ.gtrN; exact rfl; exact rfl) | (apply OQ.geqN; exact rfl; exact rfl)) rfl ?_ | refine JC.seq ?_ | refine JC.region ?_ | refine JC.block ?_ | refine JC.skip ?_ | refine JC.exit ?_ | refine JL.nil ?_ | refine JE.next ?_ | refine JE.blk_normal ?_ | refine JE.then_exit ?_ | refine JE.blk_hit ?_ | refine JE.blk_miss rfl ?_ | refine JE.then_ret ?_ | refine JE.blk_ret ?_ | refine JC.label ?_ | refine JL.gon rfl rfl ?_ | refine JL.gskip rfl rfl rfl rfl ?_ | refine JL.gskipU rfl rfl rfl rfl ?_)
  exact JC.ret (JE.ret1 rfl (RV.tmp rfl) fun w' hw => ⟨rfl, hw.chg⟩)
end Go.Proofs.YtchoiikhepjdiaaDoor

/-
  Of no statement by itself: slices of pairs of strings (fields, parameters) as arguments and as answers.
  Conditions: each theorem's own.
-/
namespace Go.Proofs.YtchoiikhepjdiaaDoor
set_option maxRecDepth 10000
open Sl
abbrev Pr := List Bt × List Bt
def pc (p : Pr) : List Value := [Z p.1, Z p.2]
structure Sl2 where
  ad : Option Addr
  cap : Nat
  l : List Pr
def Sl2.cells (s : Sl2) : List Value := s.l.flatMap pc
def Sl2.v (s : Sl2) : Value := .slice s.ad s.l.length s.cap
structure Sl2.ok (w : World) (s : Sl2) : Prop where
  len : s.l.length ≤ s.cap
  reads : Reads w s.ad s.cells
theorem Sl2.ok.holds {w0 w : World} {S : List Nat} {M : List Ent} {s : Sl2} (h : s.ok w0) (hw : Holds w0 S M w) (hS : S = []) : s.ok w := ⟨h.len, hw.reads h.reads (fun _ a _ => by rw [hS]; simp)⟩
theorem Sl2.ok.ext {w w' : World} {s : Sl2} (h : s.ok w) (hx : Ext w w') : s.ok w' := h.holds (⟨hx, by simp, by simp⟩ : Holds w [] [] w') rfl
def nil2 : Sl2 := ⟨none, 0, []⟩
theorem nil2_ok (w : World) : nil2.ok w := ⟨by simp [nil2], Reads.nil _ _⟩
theorem pc_at : ∀ (l : List Pr) {i : Nat}, i < l.length → (l.flatMap pc)[2 * i]? = some (Z (l.getD i ([], [])).1) ∧ (l.flatMap pc)[2 * i + 1]? = some (Z (l.getD i ([], [])).2)
  | [], i, h => by simp at h
  | p :: l, 0, _ => ⟨rfl, rfl⟩
  | p :: l, i + 1, h => by
    have := pc_at l (i := i) (by simpa using h)
    simp only [List.flatMap_cons, List.getD_cons_succ]
    rw [show 2 * (i + 1) = 2 * i + 2 by omega]
    exact this
theorem pc_len (l : List Pr) : (l.flatMap pc).length = 2 * l.length := by
  induction l with
  | nil => rfl
  | cons p l ih => simp only [List.flatMap_cons, List.length_append, ih, List.length_cons]; show 2 + _ = _; omega
/-- where a pair stands -/
theorem Sl2.ok.at {w : World} {s : Sl2} (h : s.ok w) {i : Nat} (hi : i < s.l.length) : ∃ b j, s.ad = some ⟨b, j, none⟩ ∧ b < w.heap.size ∧ w.cell? ⟨b, j + i * 2, none⟩ = some (Z (s.l.getD i ([], [])).1) ∧ w.cell? ⟨b, j + i * 2 + 1, none⟩ = some (Z (s.l.getD i ([], [])).2) := by
  obtain ⟨h1, h2⟩ := pc_at s.l hi
  obtain ⟨b, j, e1, c1⟩ := h.reads _ _ h1
  obtain ⟨b', j', e2, c2⟩ := h.reads _ _ h2
  rw [e1] at e2
  cases e2
  exact ⟨b, j, e1, block_lt_of_cell c1, by rw [Nat.mul_comm]; exact c1, by rw [Nat.mul_comm, Nat.add_assoc]; exact c2⟩
theorem pair_cells {w : World} {b j : Nat} {p : Pr} (h1 : w.cell? ⟨b, j, none⟩ = some (Z p.1)) (h2 : w.cell? ⟨b, j + 1, none⟩ = some (Z p.2)) : ∀ i u, (pc p)[i]? = some u → w.cell? ⟨b, j + i, none⟩ = some u := by
  intro i u hu
  match i with
  | 0 => cases hu; exact h1
  | 1 => cases hu; exact h2
  | i + 2 => simp [pc] at hu
/-- equality of pairs -/
def EqP (P : Program) (t : TypeId) : Prop := P.eqGuardType P.depth t = false ∧ ∀ (p q : Pr) (w : World), (Op.equalIn 10000 t (.agg (pc p).toArray) (.agg (pc q).toArray)).run P w = .ok (decide (p = q)) w
def pairT (P : Program) (t str : TypeId) : Bool := match (P.fieldsOf t).toList with
  | [f0, f1] => f0.type == str && f1.type == str && f0.offset == 0 && f1.offset == 1 && f0.name != "_" && f1.name != "_"
  | _ => false
theorem eqP_of {P : Program} {t str : TypeId} (ht : P.underlying t = some (.struct (P.fieldsOf t))) (hp : P.stoodInHeld t = false) (hg : P.eqGuardType P.depth t = false) (hf : pairT P t str = true) (hs : P.underlying str = some .string) (hc : scal P str = true) : EqP P t := by
  obtain ⟨f0, f1, hf, h0, h1, o0, o1, b0, b1⟩ : ∃ f0 f1, (P.fieldsOf t).toList = [f0, f1] ∧ f0.type = str ∧ f1.type = str ∧ f0.offset = 0 ∧ f1.offset = 1 ∧ ¬ f0.name = "_" ∧ ¬ f1.name = "_" := by
    unfold pairT at hf
    split at hf
    · next f0 f1 e =>
      simp only [Bool.and_eq_true, beq_iff_eq, bne_iff_ne, ne_eq] at hf
      exact ⟨f0, f1, e, hf.1.1.1.1.1, hf.1.1.1.1.2, hf.1.1.1.2, hf.1.1.2, hf.1.2, hf.2⟩
    · cases hf
  refine ⟨hg, fun p q w => ?_⟩
  rw [run_equalIn_struct w 9999 t _ _ ht hp, hf]
  have e1 : ∀ (a b : List Bt) (w : World), (Op.equalIn 9999 str (.string (strB a)) (.string (strB b))).run P w = .ok (decide (a = b)) w := fun a b w => by
    rw [show (9999 : Nat) = 9998 + 1 from rfl, run_equalIn_string w 9998 str (strB a) (strB b) hs, strB_eq]
  have pa : ∀ (x y : Value) w, (part str #[x, y] 0).run P w = .ok x w := fun x y w => by simp [part, isAgg_scal hc]
  have pb : ∀ (x y : Value) w, (part str #[x, y] 1).run P w = .ok y w := fun x y w => by simp [part, isAgg_scal hc]
  simp only [Op.eqFields, h0, h1, o0, o1, b0, b1, ne_eq, not_false_eq_true, if_true, pc, Sem.run_bind, pa, pb, Result.andThen_ok, e1]
  by_cases c1 : p.1 = q.1 <;> by_cases c2 : p.2 = q.2 <;> simp [c1, c2, Prod.ext_iff, pb, e1]
section
variable {P : Program} {n : Nat} {E : Env} {C : World → Prop} {dst : Option Tmp} {t t' ty : TypeId} {pos : String} {aft : Array Edge} {g : Option (Nat × Bool)} {x y : Operand} {p q : Pr}
theorem OQ.eqP {c : Bool} (he : EqP P t) (hx : ev E x = some (.agg (pc p).toArray)) (hy : ev E y = some (.agg (pc q).toArray)) (h : decide (p = q) = c) : OQ P n E C ⟨dst, .binOp .eql t x y t', ty, pos, aft, g⟩ (.bool c) :=
  OQ.run fun a ha w _ => by
    have h1 := ha.eval hx
    have h2 := ha.eval hy
    have h4 := fun w => run_eqGuard_agg (P := P) (w := w) .eql t x y (pc p).toArray (pc q).toArray he.1
    have h5 := fun w => run_eql_struct (P := P) (w := w) t (pc p).toArray (pc q).toArray
    simp only [execOp, h1, h2, Sem.run_bind, h4, Result.andThen_ok, h5, he.2, h]
    rfl
theorem OQ.neP {c : Bool} (he : EqP P t) (hx : ev E x = some (.agg (pc p).toArray)) (hy : ev E y = some (.agg (pc q).toArray)) (h : decide (p = q) = c) : OQ P n E C ⟨dst, .binOp .neq t x y t', ty, pos, aft, g⟩ (.bool (!c)) :=
  OQ.run fun a ha w _ => by
    have h1 := ha.eval hx
    have h2 := ha.eval hy
    have h4 := fun w => run_eqGuard_agg (P := P) (w := w) .neq t x y (pc p).toArray (pc q).toArray he.1
    have h5 := fun w => run_neq_struct (P := P) (w := w) t (pc p).toArray (pc q).toArray
    simp only [execOp, h1, h2, Sem.run_bind, h4, Result.andThen_ok, h5, he.2, h]
    rfl
end
theorem strC : scal Tryd.prog 9 = true := by kernel_rfl
theorem strS : szT Tryd.prog 9 = some 1 := by kernel_rfl
theorem eq_take {l r : List Pr} {i : Nat} (hl : i < l.length) (hr : i < r.length) (h : l.take i = r.take i) (k : l.getD i ([], []) = r.getD i ([], [])) : l.take (i + 1) = r.take (i + 1) := by
  rw [List.take_add_one, List.take_add_one, h]
  rw [List.getD_eq_getElem?_getD, List.getD_eq_getElem?_getD, List.getElem?_eq_getElem hl, List.getElem?_eq_getElem hr] at k
  rw [List.getElem?_eq_getElem hl, List.getElem?_eq_getElem hr]
  simp only [Option.getD_some] at k
  rw [k]
def small2 (a : Sl2) : Prop := ∀ p ∈ a.l, p.1.length < 9223372036854775808 ∧ p.2.length < 9223372036854775808
theorem mem_getD {l : List Pr} {i : Nat} (h : i < l.length) : l.getD i ([], []) ∈ l := by
  rw [List.getD_eq_getElem?_getD, List.getElem?_eq_getElem h]
  exact List.getElem_mem h
end Go.Proofs.YtchoiikhepjdiaaDoor

/-
  Of no statement by itself: slices of strings as answers; a slice of pairs, a slice of strings out of an entry.
  Conditions: each theorem's own.
-/
namespace Go.Proofs.YtchoiikhepjdiaaDoor
set_option maxRecDepth 10000
open Sl
structure SlZ where
  ad : Option Addr
  cap : Nat
  l : List (List Bt)
def SlZ.cells (s : SlZ) : List Value := s.l.map Z
def SlZ.v (s : SlZ) : Value := .slice s.ad s.l.length s.cap
structure SlZ.ok (w : World) (s : SlZ) : Prop where
  len : s.l.length ≤ s.cap
  reads : Reads w s.ad s.cells
theorem SlZ.ok.holds {w0 w : World} {S : List Nat} {M : List Ent} {s : SlZ} (h : s.ok w0) (hw : Holds w0 S M w) (hS : S = []) : s.ok w := ⟨h.len, hw.reads h.reads (fun _ a _ => by rw [hS]; simp)⟩
theorem SlZ.ok.ext {w w' : World} {s : SlZ} (h : s.ok w) (hx : Ext w w') : s.ok w' := h.holds (⟨hx, by simp, by simp⟩ : Holds w [] [] w') rfl
def nilZ : SlZ := ⟨none, 0, []⟩
theorem nilZ_ok (w : World) : nilZ.ok w := ⟨by simp [nilZ], Reads.nil _ _⟩
theorem slZ_own {w0 w : World} {S : List Nat} {M : List Ent} {b k cap : Nat} {e : TypeId} {l : List (List Bt)} {wr : Bool} (hw : Holds w0 S M w) (hM : Has M b (Own e 1 k cap (l.map Z)) wr) (hk : l.length = k) : SlZ.ok w ⟨some ⟨b, 0, none⟩, cap, l⟩ := by
  obtain ⟨o, ho, hA⟩ := hw.get hM
  have hh := Own.cells _ hA
  obtain ⟨sp, rfl, h2, h3, h4⟩ := hA
  exact ⟨by show l.length ≤ cap; omega, Reads.block ho hh⟩
theorem strE : EI Tryd.prog 9 (Z []) 1 16 := by unfold EI; kernel_rfl
theorem sl2_own {w0 w : World} {S : List Nat} {M : List Ent} {b k cap : Nat} {e : TypeId} {l : List Pr} {wr : Bool} (hw : Holds w0 S M w) (hM : Has M b (Own e 2 k cap (l.flatMap pc)) wr) : Sl2.ok w ⟨some ⟨b, 0, none⟩, cap, l⟩ := by
  obtain ⟨o, ho, hA⟩ := hw.get hM
  have hh := Own.cells _ hA
  obtain ⟨sp, rfl, h2, h3, h4⟩ := hA
  rw [pc_len] at h3
  exact ⟨by show l.length ≤ cap; omega, Reads.block ho hh⟩
theorem SlZ.ok.at {w : World} {s : SlZ} (h : s.ok w) (h0 : 0 < s.l.length) : ∃ b j, s.ad = some ⟨b, j, none⟩ ∧ b < w.heap.size ∧ ∀ i, i < s.l.length → w.cell? ⟨b, j + i, none⟩ = some (Z (s.l.getD i [])) := by
  obtain ⟨b, j, h1, h2⟩ := h.reads.at (by simpa [SlZ.cells] using h0)
  have hc : ∀ i, i < s.l.length → w.cell? ⟨b, j + i, none⟩ = some (Z (s.l.getD i [])) := fun i hi => h2 i _ (map_at Z [] hi)
  exact ⟨b, j, h1, block_lt_of_cell (hc 0 h0), hc⟩
/-! ### as new memory -/
def Sl2.ents (s : Sl2) : List Ent := match s.ad with
  | some a => [⟨a.block, fun o => hasCells o a.off s.cells ∧ s.l.length ≤ s.cap ∧ a.spot = none, true⟩]
  | none => []
theorem Sl2.ents_ok {s : Sl2} {w0 w : World} {S : List Nat} {M : List Ent} (h : Holds w0 S (s.ents ++ M) w) (h0 : s.ad = none → s.l = []) : s.ok w := by
  obtain ⟨ad, cap, l⟩ := s
  cases ad with
  | none =>
    have : l = [] := h0 rfl
    subst this
    exact ⟨by simp, Reads.nil _ _⟩
  | some a =>
    obtain ⟨o, ho, h1, h2, h3⟩ := h.get (b := a.block) (A := fun o => hasCells o a.off (l.flatMap pc) ∧ l.length ≤ cap ∧ a.spot = none) (wr := true) .here
    obtain ⟨b, j, sp⟩ := a
    simp only at h3
    subst h3
    exact ⟨h2, Reads.block ho h1⟩
theorem Sl2.ents_wr (s : Sl2) : ∀ e ∈ s.ents, e.wr = true := by
  intro e he
  unfold Sl2.ents at he
  split at he
  · rw [List.mem_singleton.1 he]
  · cases he
def SlZ.ents (s : SlZ) : List Ent := match s.ad with
  | some a => [⟨a.block, fun o => hasCells o a.off s.cells ∧ s.l.length ≤ s.cap ∧ a.spot = none, true⟩]
  | none => []
theorem SlZ.ents_ok {s : SlZ} {w0 w : World} {S : List Nat} {M : List Ent} (h : Holds w0 S (s.ents ++ M) w) (h0 : s.ad = none → s.l = []) : s.ok w := by
  obtain ⟨ad, cap, l⟩ := s
  cases ad with
  | none =>
    have : l = [] := h0 rfl
    subst this
    exact ⟨by simp, Reads.nil _ _⟩
  | some a =>
    obtain ⟨o, ho, h1, h2, h3⟩ := h.get (b := a.block) (A := fun o => hasCells o a.off (l.map Z) ∧ l.length ≤ cap ∧ a.spot = none) (wr := true) .here
    obtain ⟨b, j, sp⟩ := a
    simp only at h3
    subst h3
    exact ⟨h2, Reads.block ho h1⟩
theorem SlZ.ents_wr (s : SlZ) : ∀ e ∈ s.ents, e.wr = true := by
  intro e he
  unfold SlZ.ents at he
  split at he
  · rw [List.mem_singleton.1 he]
  · cases he
theorem ownZ_ents {M : List Ent} {b cap : Nat} {e : TypeId} {o : List (List Bt)} : Less (SlZ.ents ⟨some ⟨b, 0, none⟩, cap, o⟩) (⟨b, Own e 1 o.length cap (o.map Z), true⟩ :: M) := by
  refine .keep _ _ _ _ _ _ (fun ob hA => ?_) (.nil _)
  have hh := Own.cells _ hA
  obtain ⟨sp, rfl, h2, h3, h4⟩ := hA
  exact ⟨hh, h4, rfl⟩
theorem own2_ents {M : List Ent} {b cap : Nat} {e : TypeId} {o : List Pr} : Less (Sl2.ents ⟨some ⟨b, 0, none⟩, cap, o⟩) (⟨b, Own e 2 o.length cap (o.flatMap pc), true⟩ :: M) := by
  refine .keep _ _ _ _ _ _ (fun ob hA => ?_) (.nil _)
  have hh := Own.cells _ hA
  obtain ⟨sp, rfl, h2, h3, h4⟩ := hA
  exact ⟨hh, h4, rfl⟩
/-- strings as an answer -/
structure Gz (A : List (List Bt)) where
  z : SlZ
  h : z.l = A
  n : z.ad = none → z.l = []
instance {A : List (List Bt)} : Inhabited (Gz A) := ⟨⟨⟨some ⟨0, 0, none⟩, 0, A⟩, rfl, nofun⟩⟩
/-- pairs as an answer -/
structure G2 (A : List Pr) where
  z : Sl2
  h : z.l = A
  n : z.ad = none → z.l = []
instance {A : List Pr} : Inhabited (G2 A) := ⟨⟨⟨some ⟨0, 0, none⟩, 0, A⟩, rfl, nofun⟩⟩
/-- what was made stands, and is written no more -/
def cold (M : List Ent) : List Ent := M.map fun e => ⟨e.b, e.A, false⟩
theorem Holds.cold {w0 w : World} {S : List Nat} {M : List Ent} (h : Holds w0 S M w) : Holds w [] (cold M) w := by
  refine ⟨Chg.refl _ _, ?_, fun e he => ?_⟩
  · rw [Proofs.YtchoiikhepjdiaaDoor.cold, List.map_map]
    exact h.nodup
  · obtain ⟨q, hq, rfl⟩ := List.mem_map.1 he
    exact ⟨(h.all q hq).1, nofun⟩
end Go.Proofs.YtchoiikhepjdiaaDoor

/-
  Of no statement by itself: append of one pair of texts, or of one text, that a literal holds, onto nil or onto a slice of the function's own.
  Conditions: each rule's own hypotheses.
-/
namespace Go.Proofs.YtchoiikhepjdiaaDoor
set_option maxRecDepth 10000
namespace Sl
section
variable {P : Program} {n : Nat} {w0 : World} {S : List Nat} {ops : Array Oper} {Q : Exit → Act → World → Prop} {l : List Oper} {E : Env} {M M' M0 : List Ent} {d : Nat} {t e ty : TypeId} {pos : String} {aft : Array Edge} {x y : Operand}
theorem Holds.perm' {w0 w : World} {S : List Nat} {M M' : List Ent} (hp : M.Perm M') (h : Holds w0 S M w) : Holds w0 S M' w :=
  h.sub ((hp.map Ent.b).nodup_iff.1 h.nodup) fun e he => hp.mem_iff.2 he
theorem JL.lessM (h : JL P n w0 S ops Q l E M') (hM : Less M' M) : JL P n w0 S ops Q l E M := ⟨fun a w ha hw => h.go a w ha (hw.weak hM)⟩
theorem JL.perm (h : JL P n w0 S ops Q l E M') (hp : M.Perm M') : JL P n w0 S ops Q l E M := ⟨fun a w ha hw => h.go a w ha (hw.perm' hp)⟩
theorem JC.lessM {c : Code} (h : JC P n w0 S Q c E M') (hM : Less M' M) : JC P n w0 S Q c E M := ⟨fun a w ha hw => h.go a w ha (hw.weak hM)⟩
def accP (e : TypeId) (q : Acc) (l : List Pr) : List Ent := match q with
  | none => []
  | some p => [⟨p.1, Sl.Own e 2 l.length p.2 (l.flatMap pc), true⟩]
def accLp (q : Acc) (l : List Pr) : Sl2 := match q with
  | none => nil2
  | some p => ⟨some ⟨p.1, 0, none⟩, p.2, l⟩
theorem accLp_v (q : Acc) (l : List Pr) : (accLp q l).v = accV q l.length := by cases q <;> rfl
theorem accLp_l {q : Acc} {l : List Pr} (h : q = none → l = []) : (accLp q l).l = l := by
  cases q with
  | none => rw [h rfl]; rfl
  | some p => rfl
theorem accLp_ok {w0 w : World} {S : List Nat} {M : List Ent} {e : TypeId} {q : Acc} {l : List Pr} (hw : Holds w0 S (accP e q l ++ M) w) : (accLp q l).ok w := by
  cases q with
  | none => exact nil2_ok w
  | some p => exact sl2_own hw .here
theorem pc_one {p : Pr} : ∀ v ∈ pc p, v.oneCell' = true := by
  intro v hv
  simp only [pc, List.mem_cons, List.not_mem_nil, or_false] at hv
  rcases hv with rfl | rfl <;> rfl
/-- one pair more -/
theorem JL.appendP {z : Value} {by' bl : Nat} {p : Pr} {L : List Pr} {ba : Ent} (q : Acc) (hu : P.underlying t = some (.slice e)) (hi : EI P e z 2 by') (hq : q = none → L = []) (hx : ev E x = some (accV q L.length)) (hy : ev E y = some (.slice (some ⟨bl, 0, none⟩) 1 1))
    (hzz : z.cells.size = 2) (hsm : (L.length + 1) * by' ≤ 140737488355328) (hsm2 : L.length + 1 < 9223372036854775808) (hd : Nat.blt d n = true)
    (kk : ∀ b' cap', JL P n w0 S ops Q l ((d, accV (some (b', cap')) (L ++ [p]).length) :: E) (accP e (some (b', cap')) (L ++ [p]) ++ M0)) :
    JL P n w0 S ops Q (⟨some d, .call ⟨.builtin .append, #[x, y], #[t, t]⟩, ty, pos, aft, none⟩ :: l) E (⟨bl, Row e (pc p), true⟩ :: ba :: (accP e q L ++ M0)) := by
  have hr : ∀ w, Holds w0 S (⟨bl, Row e (pc p), true⟩ :: ba :: (accP e q L ++ M0)) w → Reads w (some ⟨bl, 0, none⟩) (pc p) := fun w hw => by
    obtain ⟨o, ho, hA⟩ := hw.get (b := bl) (A := Row e (pc p)) (wr := true) .here
    exact Reads.block ho (Row.all _ hA)
  have eN : (L ++ [p]).length = L.length + 1 := List.length_append
  have eF : (L ++ [p]).flatMap pc = L.flatMap pc ++ pc p := by rw [List.flatMap_append]; simp
  cases q with
  | none =>
    obtain rfl := hq rfl
    refine JL.append_nil (cs := pc p) (m := 1) hu hi hx hy rfl hr (by decide) hzz (by decide) (by simpa using hsm) (by decide) hd fun b' cap' _ => ?_
    refine (kk b' cap').lessM ?_
    exact .keep _ _ _ _ _ _ (fun o h => h) (.drop _ _ _ (.drop _ _ _ (Less.refl _)))
  | some r =>
    refine JL.append (cs := pc p) (m := 1) (b := r.1) (cap := r.2) (k := L.length) (xs := L.flatMap pc) (fun b' cap' => ⟨bl, Row e (pc p), true⟩ :: ba :: (accP e (some (b', cap')) (L ++ [p]) ++ M0)) hu hi hx hy (fun b' cap' => ?_) rfl hr pc_one hzz (by decide) hsm hsm2 hd fun b' cap' => ?_
    · show Repl (_ :: ba :: ⟨r.1, Sl.Own e 2 L.length r.2 (L.flatMap pc), true⟩ :: M0) _ _ _ _ (_ :: ba :: ⟨b', Sl.Own e 2 (L ++ [p]).length cap' ((L ++ [p]).flatMap pc), true⟩ :: M0)
      rw [eN, eF]
      exact .there (.there .here)
    · have := kk b' cap'
      rw [show accV (some (b', cap')) (L ++ [p]).length = Value.slice (some ⟨b', 0, none⟩) (L.length + 1) cap' by rw [eN]; rfl] at this
      exact this.lessM (.drop _ _ _ (.drop _ _ _ (Less.refl _)))
/-- one text more -/
theorem JL.appendT {z : Value} {by' bl : Nat} {p : List Bt} {L : List (List Bt)} (q : Acc) (hu : P.underlying t = some (.slice e)) (hi : EI P e z 1 by') (hq : q = none → L = []) (hx : ev E x = some (accV q L.length)) (hy : ev E y = some (.slice (some ⟨bl, 0, none⟩) 1 1))
    (hzz : z.cells.size = 1) (hsm : (L.length + 1) * by' ≤ 140737488355328) (hsm2 : L.length + 1 < 9223372036854775808) (hd : Nat.blt d n = true)
    (kk : ∀ b' cap', JL P n w0 S ops Q l ((d, accV (some (b', cap')) (L ++ [p]).length) :: E) (accE e (some (b', cap')) ((L ++ [p]).map Z) ++ M0)) :
    JL P n w0 S ops Q (⟨some d, .call ⟨.builtin .append, #[x, y], #[t, t]⟩, ty, pos, aft, none⟩ :: l) E (⟨bl, Row e [Z p], true⟩ :: (accE e q (L.map Z) ++ M0)) := by
  have hr : ∀ w, Holds w0 S (⟨bl, Row e [Z p], true⟩ :: (accE e q (L.map Z) ++ M0)) w → Reads w (some ⟨bl, 0, none⟩) [Z p] := fun w hw => by
    obtain ⟨o, ho, hA⟩ := hw.get (b := bl) (A := Row e [Z p]) (wr := true) .here
    exact Reads.block ho (Row.all _ hA)
  have h1 : ∀ v ∈ [Z p], v.oneCell' = true := fun v hv => by rw [List.mem_singleton.1 hv]; rfl
  have eN : (L ++ [p]).length = L.length + 1 := List.length_append
  have eM : (L ++ [p]).map Z = L.map Z ++ [Z p] := by rw [List.map_append]; rfl
  have eL : ((L ++ [p]).map Z).length = L.length + 1 := by rw [List.length_map, eN]
  cases q with
  | none =>
    obtain rfl := hq rfl
    refine JL.append_nil (cs := [Z p]) (m := 1) hu hi hx hy rfl hr (by decide) hzz (by decide) (by simpa using hsm) (by decide) hd fun b' cap' _ => ?_
    exact (kk b' cap').lessM (.keep _ _ _ _ _ _ (fun o h => h) (.drop _ _ _ (Less.refl _)))
  | some r =>
    refine JL.append (cs := [Z p]) (m := 1) (b := r.1) (cap := r.2) (k := L.length) (xs := L.map Z) (fun b' cap' => ⟨bl, Row e [Z p], true⟩ :: (accE e (some (b', cap')) ((L ++ [p]).map Z) ++ M0)) hu hi hx hy (fun b' cap' => ?_) rfl hr h1 hzz (by decide) hsm hsm2 hd fun b' cap' => ?_
    · show Repl (_ :: ⟨r.1, Sl.Own e 1 (L.map Z).length r.2 (L.map Z), true⟩ :: M0) _ _ _ _ (_ :: ⟨b', Sl.Own e 1 ((L ++ [p]).map Z).length cap' ((L ++ [p]).map Z), true⟩ :: M0)
      rw [eL, eM, List.length_map]
      exact .there .here
    · have := kk b' cap'
      rw [show accV (some (b', cap')) (L ++ [p]).length = Value.slice (some ⟨b', 0, none⟩) (L.length + 1) cap' by rw [eN]; rfl] at this
      exact this.lessM (.drop _ _ _ (Less.refl _))
end
end Sl
end Go.Proofs.YtchoiikhepjdiaaDoor

/-
  Of no statement by itself: what the landed token's comment and quoted give.
  Conditions: each theorem's own.
-/
namespace Go.Proofs.YtchoiikhepjdiaaDoor
set_option maxRecDepth 10000
open Sl Fld Tok
theorem accE_own {e : TypeId} (p : Nat × Nat) (o : List Bt) : accE e (some p) (o.map U8) = [⟨p.1, Own e 1 o.length p.2 (o.map U8), true⟩] := by
  show [(⟨p.1, Own e 1 (o.map U8).length p.2 (o.map U8), true⟩ : Ent)] = _
  rw [List.length_map]
theorem JC.scopeP {P : Program} {n : Nat} {w0 : World} {S : List Nat} {Q : Exit → Act → World → Prop} {E : Env} {M : List Ent} {ι : Type} (l : Nat) (Ei : ι → Env) (Mi : ι → List Ent) (μ : ι → Nat) (I : ι → Prop) {c rest : Code} (hf : findLabel c l = some (.seq .skip rest))
    (pass : ∀ i, I i → JC P n w0 S (Exit.jump l (Jmp n w0 S Ei Mi fun j => I j ∧ μ j < μ i) Q) rest (Ei i) (Mi i))
    (first : (∀ i, I i → JC P n w0 S (Exit.jump l (Jmp n w0 S Ei Mi I) Q) rest (Ei i) (Mi i)) → JC P n w0 S (Exit.jump l (Jmp n w0 S Ei Mi I) Q) c E M) : JC P n w0 S Q (.scope c) E M :=
  JC.scope l Ei Mi μ I hf (first fun i hi => (pass i hi).mono fun e a w hq => by
    cases e with
    | goto l' => exact ⟨hq.1, let ⟨j, h1, h2⟩ := hq.2; ⟨j, h1.1, h2⟩⟩
    | _ => exact hq) fun i hi => JC.seq (JC.skip (JE.next (pass i hi)))
/-! ### comments -/
def cmV (o : Except Nat Nat) : Value := match o with
  | .ok m => .tuple #[N m, N 0]
  | .error e => .tuple #[N 0, N e]
set_option maxHeartbeats 16000000 in
theorem comment_any (r : List Bt) (w : World) (hl : r.length < 9223372036854770000) : Calls Tryd.prog 52 [Z (40 :: r)].toArray w fun e w' => e = .returned (cmV (commR (40 :: r) 0 0)) ∧ Ext w w' := by
  refine enter (n := 32) Tryd.func52 rfl rfl rfl (Holds.start w []) ?_
  generalize hs : 40 :: r = s
  have hsl : s.length < 9223372036854770001 := by rw [← hs, List.length_cons]; omega
  have hs0 : s.getD 0 0 = 40 := by rw [← hs]; rfl
  clear hs
  repeat (refine JL.q (by first | (apply OQ.move; exact rfl) | (apply OQ.assign; exact rfl) | (apply OQ.len; exact rfl; exact rfl) | (apply OQ.addN; exact rfl; exact rfl; exact (by (try simp only []); omega)) | (apply OQ.subN; exact rfl; exact rfl; exact (by (try simp only []); omega); exact (by (try simp only []); omega)) | (apply OQ.lssN; exact rfl; exact rfl) | (apply OQ.gtrN; exact rfl; exact rfl) | (apply OQ.geqN; exact rfl; exact rfl)) rfl ?_)
  refine JC.seq (JC.region ?_)
  repeat (refine JL.q (by first | (apply OQ.move; exact rfl) | (apply OQ.assign; exact rfl) | (apply OQ.len; exact rfl; exact rfl) | (apply OQ.addN; exact rfl; exact rfl; exact (by (try simp only []); omega)) | (apply OQ.subN; exact rfl; exact rfl; exact (by (try simp only []); omega); exact (by (try simp only []); omega)) | (apply OQ.lssN; exact rfl; exact rfl) | (apply OQ.gtrN; exact rfl; exact rfl) | (apply OQ.geqN; exact rfl; exact rfl)) rfl ?_)
  refine JL.nil (JE.next ?_)
  refine JC.scopeP (ι := Nat × Nat) 0 (fun i => [(0, Z s), (4, N i.1), (5, N i.2)]) (fun _ => []) (fun i => s.length + 1 - i.1) (fun i => i.1 ≤ s.length + 1 ∧ i.2 ≤ 9 ∧ (0 < i.2 ∨ i.1 = 0) ∧ commR (s.drop i.1) i.2 i.1 = commR s 0 0) rfl ?_ ?_
  · rintro ⟨k, d⟩ ⟨hk, hd, h0, hc⟩
    dsimp only at hk hd h0 hc ⊢
    repeat (first | refine JL.q (by first | (apply OQ.lenS; exact Tryd.underlying9; exact rfl) | (apply OQ.move; exact rfl) | (apply OQ.assign; exact rfl) | (apply OQ.len; exact rfl; exact rfl) | (apply OQ.addN; exact rfl; exact rfl; exact (by (try simp only []); omega)) | (apply OQ.subN; exact rfl; exact rfl; exact (by (try simp only []); omega); exact (by (try simp only []); omega)) | (apply OQ.lssN; exact rfl; exact rfl) | (apply OQ.gtrN; exact rfl; exact rfl) | (apply OQ.geqN; exact rfl; exact rfl)) rfl ?_ | refine JC.seq ?_ | refine JC.region ?_ | refine JC.block ?_ | refine JC.skip ?_ | refine JC.exit ?_ | refine JL.nil ?_ | refine JE.next ?_ | refine JE.blk_normal ?_ | refine JE.then_exit ?_ | refine JE.blk_hit ?_ | refine JE.blk_miss rfl ?_ | refine JE.then_ret ?_ | refine JE.blk_ret ?_ | refine JC.label ?_ | refine JL.gon rfl rfl ?_ | refine JL.gskip rfl rfl rfl rfl ?_ | refine JL.gskipU rfl rfl rfl rfl ?_)
    refine JC.cond rfl (fun h => ?_) (fun h => ?_)
    · have hk' : s.length ≤ k := of_decide_eq_true h
      rw [List.drop_eq_nil_of_le hk', comm_e] at hc
      rw [← hc]
      repeat (first | refine JL.q (by first | (apply OQ.move; exact rfl) | (apply OQ.assign; exact rfl) | (apply OQ.len; exact rfl; exact rfl) | (apply OQ.addN; exact rfl; exact rfl; exact (by (try simp only []); omega)) | (apply OQ.subN; exact rfl; exact rfl; exact (by (try simp only []); omega); exact (by (try simp only []); omega)) | (apply OQ.lssN; exact rfl; exact rfl) | (apply OQ.gtrN; exact rfl; exact rfl) | (apply OQ.geqN; exact rfl; exact rfl)) rfl ?_ | refine JC.seq ?_ | refine JC.region ?_ | refine JC.block ?_ | refine JC.skip ?_ | refine JC.exit ?_ | refine JL.nil ?_ | refine JE.next ?_ | refine JE.blk_normal ?_ | refine JE.then_exit ?_ | refine JE.blk_hit ?_ | refine JE.blk_miss rfl ?_ | refine JE.then_ret ?_ | refine JE.blk_ret ?_ | refine JC.label ?_ | refine JL.gon rfl rfl ?_ | refine JL.gskip rfl rfl rfl rfl ?_ | refine JL.gskipU rfl rfl rfl rfl ?_)
      refine JC.ret (JE.then_ret (JE.jump_ret ?_))
      exact JE.ret2 rfl (RV.tmp rfl) (RV.tmp rfl) fun w' hw => ⟨rfl, hw.chg⟩
    · have hk' : k < s.length := by have := of_decide_eq_false h; omega
      clear h hk
      have hdr : s.drop k = s.getD k 0 :: s.drop (k + 1) := by rw [List.drop_eq_getElem_cons hk', List.getD_eq_getElem?_getD, List.getElem?_eq_getElem hk']; rfl
      have h0' : 0 < d ∨ s.getD k 0 = 40 := h0.imp id fun h => by rw [h]; exact hs0
      clear h0
      rw [hdr] at hc
      have i0 := fun {n : Nat} {E : Env} {C : World → Prop} {dst : Option Tmp} {ty : TypeId} {pos : String} {aft : Array Edge} {g : Option (Nat × Bool)} {x y : Operand} => idxAt10 hk' (n := n) (E := E) (C := C) (dst := dst) (ty := ty) (pos := pos) (aft := aft) (g := g) (x := x) (y := y)
      generalize s.getD k 0 = c at hc i0 h0'
      cases h40 : decide (c = 40)
      · cases h41 : decide (c = 41)
        · cases h92 : decide (c = 92)
          · rw [comm_c (of_decide_eq_false h40) (of_decide_eq_false h41) (of_decide_eq_false h92)] at hc
            have hd0 : 0 < d := h0'.resolve_right (of_decide_eq_false h40)
            repeat (first | refine JL.q (by first | (apply i0; exact rfl; exact rfl) | (apply OQ.eq8T (b := 40); exact rfl; exact rfl; exact h40) | (apply OQ.move; exact rfl) | (apply OQ.assign; exact rfl) | (apply OQ.len; exact rfl; exact rfl) | (apply OQ.addN; exact rfl; exact rfl; exact (by (try simp only []); omega)) | (apply OQ.subN; exact rfl; exact rfl; exact (by (try simp only []); omega); exact (by (try simp only []); omega)) | (apply OQ.lssN; exact rfl; exact rfl) | (apply OQ.gtrN; exact rfl; exact rfl) | (apply OQ.geqN; exact rfl; exact rfl)) rfl ?_ | refine JC.seq ?_ | refine JC.region ?_ | refine JC.block ?_ | refine JC.skip ?_ | refine JC.exit ?_ | refine JL.nil ?_ | refine JE.next ?_ | refine JE.blk_normal ?_ | refine JE.then_exit ?_ | refine JE.blk_hit ?_ | refine JE.blk_miss rfl ?_ | refine JE.then_ret ?_ | refine JE.blk_ret ?_ | refine JC.label ?_ | refine JL.gon rfl rfl ?_ | refine JL.gskip rfl rfl rfl rfl ?_ | refine JL.gskipU rfl rfl rfl rfl ?_)
            refine JC.cond rfl (fun h => by cases h) (fun _ => ?_)
            repeat (first | refine JL.q (by first | (apply OQ.eq8T (b := 41); exact rfl; exact rfl; exact h41) | (apply OQ.move; exact rfl) | (apply OQ.assign; exact rfl) | (apply OQ.len; exact rfl; exact rfl) | (apply OQ.addN; exact rfl; exact rfl; exact (by (try simp only []); omega)) | (apply OQ.subN; exact rfl; exact rfl; exact (by (try simp only []); omega); exact (by (try simp only []); omega)) | (apply OQ.lssN; exact rfl; exact rfl) | (apply OQ.gtrN; exact rfl; exact rfl) | (apply OQ.geqN; exact rfl; exact rfl)) rfl ?_ | refine JC.seq ?_ | refine JC.region ?_ | refine JC.block ?_ | refine JC.skip ?_ | refine JC.exit ?_ | refine JL.nil ?_ | refine JE.next ?_ | refine JE.blk_normal ?_ | refine JE.then_exit ?_ | refine JE.blk_hit ?_ | refine JE.blk_miss rfl ?_ | refine JE.then_ret ?_ | refine JE.blk_ret ?_ | refine JC.label ?_ | refine JL.gon rfl rfl ?_ | refine JL.gskip rfl rfl rfl rfl ?_ | refine JL.gskipU rfl rfl rfl rfl ?_)
            refine JC.cond rfl (fun h => by cases h) (fun _ => ?_)
            repeat (first | refine JL.q (by first | (apply OQ.eq8T (b := 92); exact rfl; exact rfl; exact h92) | (apply OQ.move; exact rfl) | (apply OQ.assign; exact rfl) | (apply OQ.len; exact rfl; exact rfl) | (apply OQ.addN; exact rfl; exact rfl; exact (by (try simp only []); omega)) | (apply OQ.subN; exact rfl; exact rfl; exact (by (try simp only []); omega); exact (by (try simp only []); omega)) | (apply OQ.lssN; exact rfl; exact rfl) | (apply OQ.gtrN; exact rfl; exact rfl) | (apply OQ.geqN; exact rfl; exact rfl)) rfl ?_ | refine JC.seq ?_ | refine JC.region ?_ | refine JC.block ?_ | refine JC.skip ?_ | refine JC.exit ?_ | refine JL.nil ?_ | refine JE.next ?_ | refine JE.blk_normal ?_ | refine JE.then_exit ?_ | refine JE.blk_hit ?_ | refine JE.blk_miss rfl ?_ | refine JE.then_ret ?_ | refine JE.blk_ret ?_ | refine JC.label ?_ | refine JL.gon rfl rfl ?_ | refine JL.gskip rfl rfl rfl rfl ?_ | refine JL.gskipU rfl rfl rfl rfl ?_)
            refine JC.cond rfl (fun h => by cases h) (fun _ => ?_)
            repeat (first | refine JL.q (by first | (apply OQ.move; exact rfl) | (apply OQ.assign; exact rfl) | (apply OQ.len; exact rfl; exact rfl) | (apply OQ.addN; exact rfl; exact rfl; exact (by (try simp only []); omega)) | (apply OQ.subN; exact rfl; exact rfl; exact (by (try simp only []); omega); exact (by (try simp only []); omega)) | (apply OQ.lssN; exact rfl; exact rfl) | (apply OQ.gtrN; exact rfl; exact rfl) | (apply OQ.geqN; exact rfl; exact rfl)) rfl ?_ | refine JC.seq ?_ | refine JC.region ?_ | refine JC.block ?_ | refine JC.skip ?_ | refine JC.exit ?_ | refine JL.nil ?_ | refine JE.next ?_ | refine JE.blk_normal ?_ | refine JE.then_exit ?_ | refine JE.blk_hit ?_ | refine JE.blk_miss rfl ?_ | refine JE.then_ret ?_ | refine JE.blk_ret ?_ | refine JC.label ?_ | refine JL.gon rfl rfl ?_ | refine JL.gskip rfl rfl rfl rfl ?_ | refine JL.gskipU rfl rfl rfl rfl ?_)
            refine JC.cond rfl (fun _ => JC.goto (JE.then_goto ?_)) (fun h => absurd hd0 (of_decide_eq_false h))
            exact JE.jump_to (k + 1, d) ⟨⟨by dsimp only; omega, hd, Or.inl hd0, hc⟩, by dsimp only; omega⟩ (by repeat (first | exact SubE.nil | refine SubE.cons _ _ _ rfl ?_)) (Less.refl _)
          · rw [of_decide_eq_true h92] at hc
            have hd0 : 0 < d := h0'.resolve_right (of_decide_eq_false h40)
            have hc' : commR (s.drop (k + 2)) d (k + 2) = commR s 0 0 := by
              by_cases he : k + 1 < s.length
              · have hdr' : s.drop (k + 1) = s.getD (k + 1) 0 :: s.drop (k + 2) := by rw [List.drop_eq_getElem_cons he, List.getD_eq_getElem?_getD, List.getElem?_eq_getElem he]; rfl
                rw [hdr', comm_92] at hc
                exact hc
              · rw [List.drop_eq_nil_of_le (by omega), comm_92e] at hc
                rw [List.drop_eq_nil_of_le (by omega), comm_e]
                exact hc
            repeat (first | refine JL.q (by first | (apply i0; exact rfl; exact rfl) | (apply OQ.eq8T (b := 40); exact rfl; exact rfl; exact h40) | (apply OQ.move; exact rfl) | (apply OQ.assign; exact rfl) | (apply OQ.len; exact rfl; exact rfl) | (apply OQ.addN; exact rfl; exact rfl; exact (by (try simp only []); omega)) | (apply OQ.subN; exact rfl; exact rfl; exact (by (try simp only []); omega); exact (by (try simp only []); omega)) | (apply OQ.lssN; exact rfl; exact rfl) | (apply OQ.gtrN; exact rfl; exact rfl) | (apply OQ.geqN; exact rfl; exact rfl)) rfl ?_ | refine JC.seq ?_ | refine JC.region ?_ | refine JC.block ?_ | refine JC.skip ?_ | refine JC.exit ?_ | refine JL.nil ?_ | refine JE.next ?_ | refine JE.blk_normal ?_ | refine JE.then_exit ?_ | refine JE.blk_hit ?_ | refine JE.blk_miss rfl ?_ | refine JE.then_ret ?_ | refine JE.blk_ret ?_ | refine JC.label ?_ | refine JL.gon rfl rfl ?_ | refine JL.gskip rfl rfl rfl rfl ?_ | refine JL.gskipU rfl rfl rfl rfl ?_)
            refine JC.cond rfl (fun h => by cases h) (fun _ => ?_)
            repeat (first | refine JL.q (by first | (apply OQ.eq8T (b := 41); exact rfl; exact rfl; exact h41) | (apply OQ.move; exact rfl) | (apply OQ.assign; exact rfl) | (apply OQ.len; exact rfl; exact rfl) | (apply OQ.addN; exact rfl; exact rfl; exact (by (try simp only []); omega)) | (apply OQ.subN; exact rfl; exact rfl; exact (by (try simp only []); omega); exact (by (try simp only []); omega)) | (apply OQ.lssN; exact rfl; exact rfl) | (apply OQ.gtrN; exact rfl; exact rfl) | (apply OQ.geqN; exact rfl; exact rfl)) rfl ?_ | refine JC.seq ?_ | refine JC.region ?_ | refine JC.block ?_ | refine JC.skip ?_ | refine JC.exit ?_ | refine JL.nil ?_ | refine JE.next ?_ | refine JE.blk_normal ?_ | refine JE.then_exit ?_ | refine JE.blk_hit ?_ | refine JE.blk_miss rfl ?_ | refine JE.then_ret ?_ | refine JE.blk_ret ?_ | refine JC.label ?_ | refine JL.gon rfl rfl ?_ | refine JL.gskip rfl rfl rfl rfl ?_ | refine JL.gskipU rfl rfl rfl rfl ?_)
            refine JC.cond rfl (fun h => by cases h) (fun _ => ?_)
            repeat (first | refine JL.q (by first | (apply OQ.eq8T (b := 92); exact rfl; exact rfl; exact h92) | (apply OQ.move; exact rfl) | (apply OQ.assign; exact rfl) | (apply OQ.len; exact rfl; exact rfl) | (apply OQ.addN; exact rfl; exact rfl; exact (by (try simp only []); omega)) | (apply OQ.subN; exact rfl; exact rfl; exact (by (try simp only []); omega); exact (by (try simp only []); omega)) | (apply OQ.lssN; exact rfl; exact rfl) | (apply OQ.gtrN; exact rfl; exact rfl) | (apply OQ.geqN; exact rfl; exact rfl)) rfl ?_ | refine JC.seq ?_ | refine JC.region ?_ | refine JC.block ?_ | refine JC.skip ?_ | refine JC.exit ?_ | refine JL.nil ?_ | refine JE.next ?_ | refine JE.blk_normal ?_ | refine JE.then_exit ?_ | refine JE.blk_hit ?_ | refine JE.blk_miss rfl ?_ | refine JE.then_ret ?_ | refine JE.blk_ret ?_ | refine JC.label ?_ | refine JL.gon rfl rfl ?_ | refine JL.gskip rfl rfl rfl rfl ?_ | refine JL.gskipU rfl rfl rfl rfl ?_)
            refine JC.cond rfl (fun _ => ?_) (fun h => by cases h)
            repeat (first | refine JL.q (by first | (apply OQ.move; exact rfl) | (apply OQ.assign; exact rfl) | (apply OQ.len; exact rfl; exact rfl) | (apply OQ.addN; exact rfl; exact rfl; exact (by (try simp only []); omega)) | (apply OQ.subN; exact rfl; exact rfl; exact (by (try simp only []); omega); exact (by (try simp only []); omega)) | (apply OQ.lssN; exact rfl; exact rfl) | (apply OQ.gtrN; exact rfl; exact rfl) | (apply OQ.geqN; exact rfl; exact rfl)) rfl ?_ | refine JC.seq ?_ | refine JC.region ?_ | refine JC.block ?_ | refine JC.skip ?_ | refine JC.exit ?_ | refine JL.nil ?_ | refine JE.next ?_ | refine JE.blk_normal ?_ | refine JE.then_exit ?_ | refine JE.blk_hit ?_ | refine JE.blk_miss rfl ?_ | refine JE.then_ret ?_ | refine JE.blk_ret ?_ | refine JC.label ?_ | refine JL.gon rfl rfl ?_ | refine JL.gskip rfl rfl rfl rfl ?_ | refine JL.gskipU rfl rfl rfl rfl ?_)
            refine JC.cond rfl (fun _ => JC.goto (JE.then_goto ?_)) (fun h => absurd hd0 (of_decide_eq_false h))
            exact JE.jump_to (k + 2, d) ⟨⟨by dsimp only; omega, hd, Or.inl hd0, hc'⟩, by dsimp only; omega⟩ (by repeat (first | exact SubE.nil | refine SubE.cons _ _ _ rfl ?_)) (Less.refl _)
        · have h40' : ¬ c = 40 := of_decide_eq_false h40
          rw [of_decide_eq_true h41, comm_41] at hc
          have hd0 : 0 < d := h0'.resolve_right h40'
          repeat (first | refine JL.q (by first | (apply i0; exact rfl; exact rfl) | (apply OQ.eq8T (b := 40); exact rfl; exact rfl; exact h40) | (apply OQ.move; exact rfl) | (apply OQ.assign; exact rfl) | (apply OQ.len; exact rfl; exact rfl) | (apply OQ.addN; exact rfl; exact rfl; exact (by (try simp only []); omega)) | (apply OQ.subN; exact rfl; exact rfl; exact (by (try simp only []); omega); exact (by (try simp only []); omega)) | (apply OQ.lssN; exact rfl; exact rfl) | (apply OQ.gtrN; exact rfl; exact rfl) | (apply OQ.geqN; exact rfl; exact rfl)) rfl ?_ | refine JC.seq ?_ | refine JC.region ?_ | refine JC.block ?_ | refine JC.skip ?_ | refine JC.exit ?_ | refine JL.nil ?_ | refine JE.next ?_ | refine JE.blk_normal ?_ | refine JE.then_exit ?_ | refine JE.blk_hit ?_ | refine JE.blk_miss rfl ?_ | refine JE.then_ret ?_ | refine JE.blk_ret ?_ | refine JC.label ?_ | refine JL.gon rfl rfl ?_ | refine JL.gskip rfl rfl rfl rfl ?_ | refine JL.gskipU rfl rfl rfl rfl ?_)
          refine JC.cond rfl (fun h => by cases h) (fun _ => ?_)
          repeat (first | refine JL.q (by first | (apply OQ.eq8T (b := 41); exact rfl; exact rfl; exact h41) | (apply OQ.move; exact rfl) | (apply OQ.assign; exact rfl) | (apply OQ.len; exact rfl; exact rfl) | (apply OQ.addN; exact rfl; exact rfl; exact (by (try simp only []); omega)) | (apply OQ.subN; exact rfl; exact rfl; exact (by (try simp only []); omega); exact (by (try simp only []); omega)) | (apply OQ.lssN; exact rfl; exact rfl) | (apply OQ.gtrN; exact rfl; exact rfl) | (apply OQ.geqN; exact rfl; exact rfl)) rfl ?_ | refine JC.seq ?_ | refine JC.region ?_ | refine JC.block ?_ | refine JC.skip ?_ | refine JC.exit ?_ | refine JL.nil ?_ | refine JE.next ?_ | refine JE.blk_normal ?_ | refine JE.then_exit ?_ | refine JE.blk_hit ?_ | refine JE.blk_miss rfl ?_ | refine JE.then_ret ?_ | refine JE.blk_ret ?_ | refine JC.label ?_ | refine JL.gon rfl rfl ?_ | refine JL.gskip rfl rfl rfl rfl ?_ | refine JL.gskipU rfl rfl rfl rfl ?_)
          refine JC.cond rfl (fun _ => ?_) (fun h => by cases h)
          repeat (first | refine JL.q (by first | (apply OQ.move; exact rfl) | (apply OQ.assign; exact rfl) | (apply OQ.len; exact rfl; exact rfl) | (apply OQ.addN; exact rfl; exact rfl; exact (by (try simp only []); omega)) | (apply OQ.subN; exact rfl; exact rfl; exact (by (try simp only []); omega); exact (by (try simp only []); omega)) | (apply OQ.lssN; exact rfl; exact rfl) | (apply OQ.gtrN; exact rfl; exact rfl) | (apply OQ.geqN; exact rfl; exact rfl)) rfl ?_ | refine JC.seq ?_ | refine JC.region ?_ | refine JC.block ?_ | refine JC.skip ?_ | refine JC.exit ?_ | refine JL.nil ?_ | refine JE.next ?_ | refine JE.blk_normal ?_ | refine JE.then_exit ?_ | refine JE.blk_hit ?_ | refine JE.blk_miss rfl ?_ | refine JE.then_ret ?_ | refine JE.blk_ret ?_ | refine JC.label ?_ | refine JL.gon rfl rfl ?_ | refine JL.gskip rfl rfl rfl rfl ?_ | refine JL.gskipU rfl rfl rfl rfl ?_)
          refine JC.cond rfl (fun h => ?_) (fun h => ?_)
          · have hd1 : 0 < d - 1 := of_decide_eq_true h
            rw [if_neg (by omega)] at hc
            refine JC.goto (JE.then_goto ?_)
            exact JE.jump_to (k + 1, d - 1) ⟨⟨by dsimp only; omega, by dsimp only; omega, Or.inl hd1, hc⟩, by dsimp only; omega⟩ (by repeat (first | exact SubE.nil | refine SubE.cons _ _ _ rfl ?_)) (Less.refl _)
          · have hd1 : ¬ 0 < d - 1 := of_decide_eq_false h
            rw [if_pos (by omega)] at hc
            rw [← hc]
            repeat (first | refine JL.q (by first | (apply OQ.move; exact rfl) | (apply OQ.assign; exact rfl) | (apply OQ.len; exact rfl; exact rfl) | (apply OQ.addN; exact rfl; exact rfl; exact (by (try simp only []); omega)) | (apply OQ.subN; exact rfl; exact rfl; exact (by (try simp only []); omega); exact (by (try simp only []); omega)) | (apply OQ.lssN; exact rfl; exact rfl) | (apply OQ.gtrN; exact rfl; exact rfl) | (apply OQ.geqN; exact rfl; exact rfl)) rfl ?_ | refine JC.seq ?_ | refine JC.region ?_ | refine JC.block ?_ | refine JC.skip ?_ | refine JC.exit ?_ | refine JL.nil ?_ | refine JE.next ?_ | refine JE.blk_normal ?_ | refine JE.then_exit ?_ | refine JE.blk_hit ?_ | refine JE.blk_miss rfl ?_ | refine JE.then_ret ?_ | refine JE.blk_ret ?_ | refine JC.label ?_ | refine JL.gon rfl rfl ?_ | refine JL.gskip rfl rfl rfl rfl ?_ | refine JL.gskipU rfl rfl rfl rfl ?_)
            refine JC.ret (JE.jump_ret ?_)
            exact JE.ret2 rfl (RV.tmp rfl) (RV.tmp rfl) fun w' hw => ⟨rfl, hw.chg⟩
      · rw [of_decide_eq_true h40, comm_40] at hc
        clear h0'
        by_cases h8 : 8 < d
        · rw [if_pos h8] at hc
          rw [← hc]
          repeat (first | refine JL.q (by first | (apply i0; exact rfl; exact rfl) | (apply OQ.eq8T (b := 40); exact rfl; exact rfl; exact h40) | (apply OQ.move; exact rfl) | (apply OQ.assign; exact rfl) | (apply OQ.len; exact rfl; exact rfl) | (apply OQ.addN; exact rfl; exact rfl; exact (by (try simp only []); omega)) | (apply OQ.subN; exact rfl; exact rfl; exact (by (try simp only []); omega); exact (by (try simp only []); omega)) | (apply OQ.lssN; exact rfl; exact rfl) | (apply OQ.gtrN; exact rfl; exact rfl) | (apply OQ.geqN; exact rfl; exact rfl)) rfl ?_ | refine JC.seq ?_ | refine JC.region ?_ | refine JC.block ?_ | refine JC.skip ?_ | refine JC.exit ?_ | refine JL.nil ?_ | refine JE.next ?_ | refine JE.blk_normal ?_ | refine JE.then_exit ?_ | refine JE.blk_hit ?_ | refine JE.blk_miss rfl ?_ | refine JE.then_ret ?_ | refine JE.blk_ret ?_ | refine JC.label ?_ | refine JL.gon rfl rfl ?_ | refine JL.gskip rfl rfl rfl rfl ?_ | refine JL.gskipU rfl rfl rfl rfl ?_)
          refine JC.cond rfl (fun _ => ?_) (fun h => by cases h)
          repeat (first | refine JL.q (by first | (apply OQ.move; exact rfl) | (apply OQ.assign; exact rfl) | (apply OQ.len; exact rfl; exact rfl) | (apply OQ.addN; exact rfl; exact rfl; exact (by (try simp only []); omega)) | (apply OQ.subN; exact rfl; exact rfl; exact (by (try simp only []); omega); exact (by (try simp only []); omega)) | (apply OQ.lssN; exact rfl; exact rfl) | (apply OQ.gtrN; exact rfl; exact rfl) | (apply OQ.geqN; exact rfl; exact rfl)) rfl ?_ | refine JC.seq ?_ | refine JC.region ?_ | refine JC.block ?_ | refine JC.skip ?_ | refine JC.exit ?_ | refine JL.nil ?_ | refine JE.next ?_ | refine JE.blk_normal ?_ | refine JE.then_exit ?_ | refine JE.blk_hit ?_ | refine JE.blk_miss rfl ?_ | refine JE.then_ret ?_ | refine JE.blk_ret ?_ | refine JC.label ?_ | refine JL.gon rfl rfl ?_ | refine JL.gskip rfl rfl rfl rfl ?_ | refine JL.gskipU rfl rfl rfl rfl ?_)
          refine JC.cond rfl (fun _ => ?_) (fun h => absurd h8 (of_decide_eq_false h))
          repeat (first | refine JL.q (by first | (apply OQ.move; exact rfl) | (apply OQ.assign; exact rfl) | (apply OQ.len; exact rfl; exact rfl) | (apply OQ.addN; exact rfl; exact rfl; exact (by (try simp only []); omega)) | (apply OQ.subN; exact rfl; exact rfl; exact (by (try simp only []); omega); exact (by (try simp only []); omega)) | (apply OQ.lssN; exact rfl; exact rfl) | (apply OQ.gtrN; exact rfl; exact rfl) | (apply OQ.geqN; exact rfl; exact rfl)) rfl ?_ | refine JC.seq ?_ | refine JC.region ?_ | refine JC.block ?_ | refine JC.skip ?_ | refine JC.exit ?_ | refine JL.nil ?_ | refine JE.next ?_ | refine JE.blk_normal ?_ | refine JE.then_exit ?_ | refine JE.blk_hit ?_ | refine JE.blk_miss rfl ?_ | refine JE.then_ret ?_ | refine JE.blk_ret ?_ | refine JC.label ?_ | refine JL.gon rfl rfl ?_ | refine JL.gskip rfl rfl rfl rfl ?_ | refine JL.gskipU rfl rfl rfl rfl ?_)
          refine JC.ret ?_
          repeat (first | refine JL.q (by first | (apply OQ.move; exact rfl) | (apply OQ.assign; exact rfl) | (apply OQ.len; exact rfl; exact rfl) | (apply OQ.addN; exact rfl; exact rfl; exact (by (try simp only []); omega)) | (apply OQ.subN; exact rfl; exact rfl; exact (by (try simp only []); omega); exact (by (try simp only []); omega)) | (apply OQ.lssN; exact rfl; exact rfl) | (apply OQ.gtrN; exact rfl; exact rfl) | (apply OQ.geqN; exact rfl; exact rfl)) rfl ?_ | refine JC.seq ?_ | refine JC.region ?_ | refine JC.block ?_ | refine JC.skip ?_ | refine JC.exit ?_ | refine JL.nil ?_ | refine JE.next ?_ | refine JE.blk_normal ?_ | refine JE.then_exit ?_ | refine JE.blk_hit ?_ | refine JE.blk_miss rfl ?_ | refine JE.then_ret ?_ | refine JE.blk_ret ?_ | refine JC.label ?_ | refine JL.gon rfl rfl ?_ | refine JL.gskip rfl rfl rfl rfl ?_ | refine JL.gskipU rfl rfl rfl rfl ?_)
          refine JE.jump_ret ?_
          exact JE.ret2 rfl (RV.tmp rfl) (RV.tmp rfl) fun w' hw => ⟨rfl, hw.chg⟩
        · rw [if_neg h8] at hc
          repeat (first | refine JL.q (by first | (apply i0; exact rfl; exact rfl) | (apply OQ.eq8T (b := 40); exact rfl; exact rfl; exact h40) | (apply OQ.move; exact rfl) | (apply OQ.assign; exact rfl) | (apply OQ.len; exact rfl; exact rfl) | (apply OQ.addN; exact rfl; exact rfl; exact (by (try simp only []); omega)) | (apply OQ.subN; exact rfl; exact rfl; exact (by (try simp only []); omega); exact (by (try simp only []); omega)) | (apply OQ.lssN; exact rfl; exact rfl) | (apply OQ.gtrN; exact rfl; exact rfl) | (apply OQ.geqN; exact rfl; exact rfl)) rfl ?_ | refine JC.seq ?_ | refine JC.region ?_ | refine JC.block ?_ | refine JC.skip ?_ | refine JC.exit ?_ | refine JL.nil ?_ | refine JE.next ?_ | refine JE.blk_normal ?_ | refine JE.then_exit ?_ | refine JE.blk_hit ?_ | refine JE.blk_miss rfl ?_ | refine JE.then_ret ?_ | refine JE.blk_ret ?_ | refine JC.label ?_ | refine JL.gon rfl rfl ?_ | refine JL.gskip rfl rfl rfl rfl ?_ | refine JL.gskipU rfl rfl rfl rfl ?_)
          refine JC.cond rfl (fun _ => ?_) (fun h => by cases h)
          repeat (first | refine JL.q (by first | (apply OQ.move; exact rfl) | (apply OQ.assign; exact rfl) | (apply OQ.len; exact rfl; exact rfl) | (apply OQ.addN; exact rfl; exact rfl; exact (by (try simp only []); omega)) | (apply OQ.subN; exact rfl; exact rfl; exact (by (try simp only []); omega); exact (by (try simp only []); omega)) | (apply OQ.lssN; exact rfl; exact rfl) | (apply OQ.gtrN; exact rfl; exact rfl) | (apply OQ.geqN; exact rfl; exact rfl)) rfl ?_ | refine JC.seq ?_ | refine JC.region ?_ | refine JC.block ?_ | refine JC.skip ?_ | refine JC.exit ?_ | refine JL.nil ?_ | refine JE.next ?_ | refine JE.blk_normal ?_ | refine JE.then_exit ?_ | refine JE.blk_hit ?_ | refine JE.blk_miss rfl ?_ | refine JE.then_ret ?_ | refine JE.blk_ret ?_ | refine JC.label ?_ | refine JL.gon rfl rfl ?_ | refine JL.gskip rfl rfl rfl rfl ?_ | refine JL.gskipU rfl rfl rfl rfl ?_)
          refine JC.cond rfl (fun h => absurd (of_decide_eq_true h) h8) (fun _ => ?_)
          repeat (first | refine JL.q (by first | (apply OQ.move; exact rfl) | (apply OQ.assign; exact rfl) | (apply OQ.len; exact rfl; exact rfl) | (apply OQ.addN; exact rfl; exact rfl; exact (by (try simp only []); omega)) | (apply OQ.subN; exact rfl; exact rfl; exact (by (try simp only []); omega); exact (by (try simp only []); omega)) | (apply OQ.lssN; exact rfl; exact rfl) | (apply OQ.gtrN; exact rfl; exact rfl) | (apply OQ.geqN; exact rfl; exact rfl)) rfl ?_ | refine JC.seq ?_ | refine JC.region ?_ | refine JC.block ?_ | refine JC.skip ?_ | refine JC.exit ?_ | refine JL.nil ?_ | refine JE.next ?_ | refine JE.blk_normal ?_ | refine JE.then_exit ?_ | refine JE.blk_hit ?_ | refine JE.blk_miss rfl ?_ | refine JE.then_ret ?_ | refine JE.blk_ret ?_ | refine JC.label ?_ | refine JL.gon rfl rfl ?_ | refine JL.gskip rfl rfl rfl rfl ?_ | refine JL.gskipU rfl rfl rfl rfl ?_)
          refine JC.cond rfl (fun _ => JC.goto (JE.then_goto ?_)) (fun h => absurd (Nat.succ_pos d) (of_decide_eq_false h))
          exact JE.jump_to (k + 1, d + 1) ⟨⟨by dsimp only; omega, by dsimp only; omega, Or.inl (Nat.succ_pos d), hc⟩, by dsimp only; omega⟩ (by repeat (first | exact SubE.nil | refine SubE.cons _ _ _ rfl ?_)) (Less.refl _)
  · intro hp
    refine JC.seq (JC.region ?_)
    repeat (refine JL.q (by first | (apply OQ.move; exact rfl) | (apply OQ.assign; exact rfl) | (apply OQ.len; exact rfl; exact rfl) | (apply OQ.addN; exact rfl; exact rfl; exact (by (try simp only []); omega)) | (apply OQ.subN; exact rfl; exact rfl; exact (by (try simp only []); omega); exact (by (try simp only []); omega)) | (apply OQ.lssN; exact rfl; exact rfl) | (apply OQ.gtrN; exact rfl; exact rfl) | (apply OQ.geqN; exact rfl; exact rfl)) rfl ?_)
    refine JL.nil (JE.next ?_)
    refine JC.seq (JC.region ?_)
    repeat (refine JL.q (by first | (apply OQ.move; exact rfl) | (apply OQ.assign; exact rfl) | (apply OQ.len; exact rfl; exact rfl) | (apply OQ.addN; exact rfl; exact rfl; exact (by (try simp only []); omega)) | (apply OQ.subN; exact rfl; exact rfl; exact (by (try simp only []); omega); exact (by (try simp only []); omega)) | (apply OQ.lssN; exact rfl; exact rfl) | (apply OQ.gtrN; exact rfl; exact rfl) | (apply OQ.geqN; exact rfl; exact rfl)) rfl ?_)
    refine JL.nil (JE.next ?_)
    refine JC.seq (JC.label (JE.next ?_))
    exact (hp (0, 0) ⟨Nat.zero_le _, Nat.zero_le _, Or.inr rfl, rfl⟩).weak (by repeat (first | exact SubE.nil | refine SubE.cons _ _ _ rfl ?_)) (Less.refl _)
/-! ### quoted texts -/
set_option maxHeartbeats 16000000 in
theorem quoted_any (c0 : Bt) (r : List Bt) (w : World) (hl : r.length < 9223372036854770000) : Calls Tryd.prog 53 [Z (c0 :: r)].toArray w fun e w' => e = .returned (N (quotR r 1)) ∧ Ext w w' := by
  refine enter (n := 21) Tryd.func53 rfl rfl rfl (Holds.start w []) ?_
  rw [show quotR r 1 = quotR ((c0 :: r).drop 1) 1 from rfl]
  generalize hs : c0 :: r = s
  have hsl : s.length < 9223372036854770001 := by rw [← hs, List.length_cons]; omega
  clear hs
  repeat (first | refine JL.q (by first | (apply OQ.move; exact rfl) | (apply OQ.assign; exact rfl) | (apply OQ.len; exact rfl; exact rfl) | (apply OQ.addN; exact rfl; exact rfl; exact (by (try simp only []); omega)) | (apply OQ.subN; exact rfl; exact rfl; exact (by (try simp only []); omega); exact (by (try simp only []); omega)) | (apply OQ.lssN; exact rfl; exact rfl) | (apply OQ.gtrN; exact rfl; exact rfl) | (apply OQ.geqN; exact rfl; exact rfl)) rfl ?_ | refine JC.seq ?_ | refine JC.region ?_ | refine JC.block ?_ | refine JC.skip ?_ | refine JC.exit ?_ | refine JL.nil ?_ | refine JE.next ?_ | refine JE.blk_normal ?_ | refine JE.then_exit ?_ | refine JE.blk_hit ?_ | refine JE.blk_miss rfl ?_ | refine JE.then_ret ?_ | refine JE.blk_ret ?_ | refine JC.label ?_ | refine JL.gon rfl rfl ?_ | refine JL.gskip rfl rfl rfl rfl ?_ | refine JL.gskipU rfl rfl rfl rfl ?_)
  refine JC.loop (fun k : Nat => [(0, Z s), (3, N k)]) (fun _ => []) (fun k => s.length + 1 - k) (fun k => k ≤ s.length + 1 ∧ quotR (s.drop k) k = quotR (s.drop 1) 1) 1 ⟨by omega, rfl⟩ (by repeat (first | exact SubE.nil | refine SubE.cons _ _ _ rfl ?_)) (Less.refl _) ?_
  rintro k ⟨hk, hc⟩
  repeat (first | refine JL.q (by first | (apply OQ.lenS; exact Tryd.underlying9; exact rfl) | (apply OQ.move; exact rfl) | (apply OQ.assign; exact rfl) | (apply OQ.len; exact rfl; exact rfl) | (apply OQ.addN; exact rfl; exact rfl; exact (by (try simp only []); omega)) | (apply OQ.subN; exact rfl; exact rfl; exact (by (try simp only []); omega); exact (by (try simp only []); omega)) | (apply OQ.lssN; exact rfl; exact rfl) | (apply OQ.gtrN; exact rfl; exact rfl) | (apply OQ.geqN; exact rfl; exact rfl)) rfl ?_ | refine JC.seq ?_ | refine JC.region ?_ | refine JC.block ?_ | refine JC.skip ?_ | refine JC.exit ?_ | refine JL.nil ?_ | refine JE.next ?_ | refine JE.blk_normal ?_ | refine JE.then_exit ?_ | refine JE.blk_hit ?_ | refine JE.blk_miss rfl ?_ | refine JE.then_ret ?_ | refine JE.blk_ret ?_ | refine JC.label ?_ | refine JL.gon rfl rfl ?_ | refine JL.gskip rfl rfl rfl rfl ?_ | refine JL.gskipU rfl rfl rfl rfl ?_)
  refine JC.cond rfl (fun h => ?_) (fun h => ?_)
  · have hk' : k < s.length := of_decide_eq_true h
    clear h hk
    have hdr : s.drop k = s.getD k 0 :: s.drop (k + 1) := by rw [List.drop_eq_getElem_cons hk', List.getD_eq_getElem?_getD, List.getElem?_eq_getElem hk']; rfl
    rw [hdr] at hc
    have i0 := fun {n : Nat} {E : Env} {C : World → Prop} {dst : Option Tmp} {ty : TypeId} {pos : String} {aft : Array Edge} {g : Option (Nat × Bool)} {x y : Operand} => idxAt10 hk' (n := n) (E := E) (C := C) (dst := dst) (ty := ty) (pos := pos) (aft := aft) (g := g) (x := x) (y := y)
    generalize s.getD k 0 = c at hc i0
    cases h92 : decide (c = 92)
    · cases h34 : decide (c = 34)
      · rw [quot_c (of_decide_eq_false h34) (of_decide_eq_false h92)] at hc
        repeat (first | refine JL.q (by first | (apply i0; exact rfl; exact rfl) | (apply OQ.eq8T (b := 92); exact rfl; exact rfl; exact h92) | (apply OQ.move; exact rfl) | (apply OQ.assign; exact rfl) | (apply OQ.len; exact rfl; exact rfl) | (apply OQ.addN; exact rfl; exact rfl; exact (by (try simp only []); omega)) | (apply OQ.subN; exact rfl; exact rfl; exact (by (try simp only []); omega); exact (by (try simp only []); omega)) | (apply OQ.lssN; exact rfl; exact rfl) | (apply OQ.gtrN; exact rfl; exact rfl) | (apply OQ.geqN; exact rfl; exact rfl)) rfl ?_ | refine JC.seq ?_ | refine JC.region ?_ | refine JC.block ?_ | refine JC.skip ?_ | refine JC.exit ?_ | refine JL.nil ?_ | refine JE.next ?_ | refine JE.blk_normal ?_ | refine JE.then_exit ?_ | refine JE.blk_hit ?_ | refine JE.blk_miss rfl ?_ | refine JE.then_ret ?_ | refine JE.blk_ret ?_ | refine JC.label ?_ | refine JL.gon rfl rfl ?_ | refine JL.gskip rfl rfl rfl rfl ?_ | refine JL.gskipU rfl rfl rfl rfl ?_)
        refine JC.cond rfl (fun h => by cases h) (fun _ => ?_)
        repeat (first | refine JL.q (by first | (apply OQ.eq8T (b := 34); exact rfl; exact rfl; exact h34) | (apply OQ.move; exact rfl) | (apply OQ.assign; exact rfl) | (apply OQ.len; exact rfl; exact rfl) | (apply OQ.addN; exact rfl; exact rfl; exact (by (try simp only []); omega)) | (apply OQ.subN; exact rfl; exact rfl; exact (by (try simp only []); omega); exact (by (try simp only []); omega)) | (apply OQ.lssN; exact rfl; exact rfl) | (apply OQ.gtrN; exact rfl; exact rfl) | (apply OQ.geqN; exact rfl; exact rfl)) rfl ?_ | refine JC.seq ?_ | refine JC.region ?_ | refine JC.block ?_ | refine JC.skip ?_ | refine JC.exit ?_ | refine JL.nil ?_ | refine JE.next ?_ | refine JE.blk_normal ?_ | refine JE.then_exit ?_ | refine JE.blk_hit ?_ | refine JE.blk_miss rfl ?_ | refine JE.then_ret ?_ | refine JE.blk_ret ?_ | refine JC.label ?_ | refine JL.gon rfl rfl ?_ | refine JL.gskip rfl rfl rfl rfl ?_ | refine JL.gskipU rfl rfl rfl rfl ?_)
        refine JC.cond rfl (fun h => by cases h) (fun _ => ?_)
        repeat (first | refine JL.q (by first | (apply OQ.move; exact rfl) | (apply OQ.assign; exact rfl) | (apply OQ.len; exact rfl; exact rfl) | (apply OQ.addN; exact rfl; exact rfl; exact (by (try simp only []); omega)) | (apply OQ.subN; exact rfl; exact rfl; exact (by (try simp only []); omega); exact (by (try simp only []); omega)) | (apply OQ.lssN; exact rfl; exact rfl) | (apply OQ.gtrN; exact rfl; exact rfl) | (apply OQ.geqN; exact rfl; exact rfl)) rfl ?_ | refine JC.seq ?_ | refine JC.region ?_ | refine JC.block ?_ | refine JC.skip ?_ | refine JC.exit ?_ | refine JL.nil ?_ | refine JE.next ?_ | refine JE.blk_normal ?_ | refine JE.then_exit ?_ | refine JE.blk_hit ?_ | refine JE.blk_miss rfl ?_ | refine JE.then_ret ?_ | refine JE.blk_ret ?_ | refine JC.label ?_ | refine JL.gon rfl rfl ?_ | refine JL.gskip rfl rfl rfl rfl ?_ | refine JL.gskipU rfl rfl rfl rfl ?_)
        exact JE.again (i := k) (k + 1) ⟨by omega, hc⟩ (by omega) (by repeat (first | exact SubE.nil | refine SubE.cons _ _ _ rfl ?_)) (Less.refl _)
      · rw [of_decide_eq_true h34, quot_34] at hc
        rw [← hc]
        repeat (first | refine JL.q (by first | (apply i0; exact rfl; exact rfl) | (apply OQ.eq8T (b := 92); exact rfl; exact rfl; exact h92) | (apply OQ.move; exact rfl) | (apply OQ.assign; exact rfl) | (apply OQ.len; exact rfl; exact rfl) | (apply OQ.addN; exact rfl; exact rfl; exact (by (try simp only []); omega)) | (apply OQ.subN; exact rfl; exact rfl; exact (by (try simp only []); omega); exact (by (try simp only []); omega)) | (apply OQ.lssN; exact rfl; exact rfl) | (apply OQ.gtrN; exact rfl; exact rfl) | (apply OQ.geqN; exact rfl; exact rfl)) rfl ?_ | refine JC.seq ?_ | refine JC.region ?_ | refine JC.block ?_ | refine JC.skip ?_ | refine JC.exit ?_ | refine JL.nil ?_ | refine JE.next ?_ | refine JE.blk_normal ?_ | refine JE.then_exit ?_ | refine JE.blk_hit ?_ | refine JE.blk_miss rfl ?_ | refine JE.then_ret ?_ | refine JE.blk_ret ?_ | refine JC.label ?_ | refine JL.gon rfl rfl ?_ | refine JL.gskip rfl rfl rfl rfl ?_ | refine JL.gskipU rfl rfl rfl rfl ?_)
        refine JC.cond rfl (fun h => by cases h) (fun _ => ?_)
        repeat (first | refine JL.q (by first | (apply OQ.eq8T (b := 34); exact rfl; exact rfl; exact h34) | (apply OQ.move; exact rfl) | (apply OQ.assign; exact rfl) | (apply OQ.len; exact rfl; exact rfl) | (apply OQ.addN; exact rfl; exact rfl; exact (by (try simp only []); omega)) | (apply OQ.subN; exact rfl; exact rfl; exact (by (try simp only []); omega); exact (by (try simp only []); omega)) | (apply OQ.lssN; exact rfl; exact rfl) | (apply OQ.gtrN; exact rfl; exact rfl) | (apply OQ.geqN; exact rfl; exact rfl)) rfl ?_ | refine JC.seq ?_ | refine JC.region ?_ | refine JC.block ?_ | refine JC.skip ?_ | refine JC.exit ?_ | refine JL.nil ?_ | refine JE.next ?_ | refine JE.blk_normal ?_ | refine JE.then_exit ?_ | refine JE.blk_hit ?_ | refine JE.blk_miss rfl ?_ | refine JE.then_ret ?_ | refine JE.blk_ret ?_ | refine JC.label ?_ | refine JL.gon rfl rfl ?_ | refine JL.gskip rfl rfl rfl rfl ?_ | refine JL.gskipU rfl rfl rfl rfl ?_)
        refine JC.cond rfl (fun _ => ?_) (fun h => by cases h)
        repeat (first | refine JL.q (by first | (apply OQ.move; exact rfl) | (apply OQ.assign; exact rfl) | (apply OQ.len; exact rfl; exact rfl) | (apply OQ.addN; exact rfl; exact rfl; exact (by (try simp only []); omega)) | (apply OQ.subN; exact rfl; exact rfl; exact (by (try simp only []); omega); exact (by (try simp only []); omega)) | (apply OQ.lssN; exact rfl; exact rfl) | (apply OQ.gtrN; exact rfl; exact rfl) | (apply OQ.geqN; exact rfl; exact rfl)) rfl ?_ | refine JC.seq ?_ | refine JC.region ?_ | refine JC.block ?_ | refine JC.skip ?_ | refine JC.exit ?_ | refine JL.nil ?_ | refine JE.next ?_ | refine JE.blk_normal ?_ | refine JE.then_exit ?_ | refine JE.blk_hit ?_ | refine JE.blk_miss rfl ?_ | refine JE.then_ret ?_ | refine JE.blk_ret ?_ | refine JC.label ?_ | refine JL.gon rfl rfl ?_ | refine JL.gskip rfl rfl rfl rfl ?_ | refine JL.gskipU rfl rfl rfl rfl ?_)
        refine JC.ret ?_
        repeat (first | refine JL.q (by first | (apply OQ.move; exact rfl) | (apply OQ.assign; exact rfl) | (apply OQ.len; exact rfl; exact rfl) | (apply OQ.addN; exact rfl; exact rfl; exact (by (try simp only []); omega)) | (apply OQ.subN; exact rfl; exact rfl; exact (by (try simp only []); omega); exact (by (try simp only []); omega)) | (apply OQ.lssN; exact rfl; exact rfl) | (apply OQ.gtrN; exact rfl; exact rfl) | (apply OQ.geqN; exact rfl; exact rfl)) rfl ?_ | refine JC.seq ?_ | refine JC.region ?_ | refine JC.block ?_ | refine JC.skip ?_ | refine JC.exit ?_ | refine JL.nil ?_ | refine JE.next ?_ | refine JE.blk_normal ?_ | refine JE.then_exit ?_ | refine JE.blk_hit ?_ | refine JE.blk_miss rfl ?_ | refine JE.then_ret ?_ | refine JE.blk_ret ?_ | refine JC.label ?_ | refine JL.gon rfl rfl ?_ | refine JL.gskip rfl rfl rfl rfl ?_ | refine JL.gskipU rfl rfl rfl rfl ?_)
        exact JE.ret1 rfl (RV.tmp rfl) fun w' hw => ⟨rfl, hw.chg⟩
    · rw [of_decide_eq_true h92] at hc
      have hc' : quotR (s.drop (k + 2)) (k + 2) = quotR (s.drop 1) 1 := by
        by_cases he : k + 1 < s.length
        · have hdr' : s.drop (k + 1) = s.getD (k + 1) 0 :: s.drop (k + 2) := by rw [List.drop_eq_getElem_cons he, List.getD_eq_getElem?_getD, List.getElem?_eq_getElem he]; rfl
          rw [hdr', quot_92] at hc
          exact hc
        · rw [List.drop_eq_nil_of_le (by omega), quot_92e] at hc
          rw [List.drop_eq_nil_of_le (by omega), quot_e]
          exact hc
      repeat (first | refine JL.q (by first | (apply i0; exact rfl; exact rfl) | (apply OQ.eq8T (b := 92); exact rfl; exact rfl; exact h92) | (apply OQ.move; exact rfl) | (apply OQ.assign; exact rfl) | (apply OQ.len; exact rfl; exact rfl) | (apply OQ.addN; exact rfl; exact rfl; exact (by (try simp only []); omega)) | (apply OQ.subN; exact rfl; exact rfl; exact (by (try simp only []); omega); exact (by (try simp only []); omega)) | (apply OQ.lssN; exact rfl; exact rfl) | (apply OQ.gtrN; exact rfl; exact rfl) | (apply OQ.geqN; exact rfl; exact rfl)) rfl ?_ | refine JC.seq ?_ | refine JC.region ?_ | refine JC.block ?_ | refine JC.skip ?_ | refine JC.exit ?_ | refine JL.nil ?_ | refine JE.next ?_ | refine JE.blk_normal ?_ | refine JE.then_exit ?_ | refine JE.blk_hit ?_ | refine JE.blk_miss rfl ?_ | refine JE.then_ret ?_ | refine JE.blk_ret ?_ | refine JC.label ?_ | refine JL.gon rfl rfl ?_ | refine JL.gskip rfl rfl rfl rfl ?_ | refine JL.gskipU rfl rfl rfl rfl ?_)
      refine JC.cond rfl (fun _ => ?_) (fun h => by cases h)
      repeat (first | refine JL.q (by first | (apply OQ.move; exact rfl) | (apply OQ.assign; exact rfl) | (apply OQ.len; exact rfl; exact rfl) | (apply OQ.addN; exact rfl; exact rfl; exact (by (try simp only []); omega)) | (apply OQ.subN; exact rfl; exact rfl; exact (by (try simp only []); omega); exact (by (try simp only []); omega)) | (apply OQ.lssN; exact rfl; exact rfl) | (apply OQ.gtrN; exact rfl; exact rfl) | (apply OQ.geqN; exact rfl; exact rfl)) rfl ?_ | refine JC.seq ?_ | refine JC.region ?_ | refine JC.block ?_ | refine JC.skip ?_ | refine JC.exit ?_ | refine JL.nil ?_ | refine JE.next ?_ | refine JE.blk_normal ?_ | refine JE.then_exit ?_ | refine JE.blk_hit ?_ | refine JE.blk_miss rfl ?_ | refine JE.then_ret ?_ | refine JE.blk_ret ?_ | refine JC.label ?_ | refine JL.gon rfl rfl ?_ | refine JL.gskip rfl rfl rfl rfl ?_ | refine JL.gskipU rfl rfl rfl rfl ?_)
      exact JE.again (i := k) (k + 2) ⟨by omega, hc'⟩ (by omega) (by repeat (first | exact SubE.nil | refine SubE.cons _ _ _ rfl ?_)) (Less.refl _)
  · have hk' : s.length ≤ k := by have := of_decide_eq_false h; omega
    rw [List.drop_eq_nil_of_le hk', quot_e] at hc
    rw [← hc]
    repeat (first | refine JL.q (by first | (apply OQ.move; exact rfl) | (apply OQ.assign; exact rfl) | (apply OQ.len; exact rfl; exact rfl) | (apply OQ.addN; exact rfl; exact rfl; exact (by (try simp only []); omega)) | (apply OQ.subN; exact rfl; exact rfl; exact (by (try simp only []); omega); exact (by (try simp only []); omega)) | (apply OQ.lssN; exact rfl; exact rfl) | (apply OQ.gtrN; exact rfl; exact rfl) | (apply OQ.geqN; exact rfl; exact rfl)) rfl ?_ | refine JC.seq ?_ | refine JC.region ?_ | refine JC.block ?_ | refine JC.skip ?_ | refine JC.exit ?_ | refine JL.nil ?_ | refine JE.next ?_ | refine JE.blk_normal ?_ | refine JE.then_exit ?_ | refine JE.blk_hit ?_ | refine JE.blk_miss rfl ?_ | refine JE.then_ret ?_ | refine JE.blk_ret ?_ | refine JC.label ?_ | refine JL.gon rfl rfl ?_ | refine JL.gskip rfl rfl rfl rfl ?_ | refine JL.gskipU rfl rfl rfl rfl ?_)
    refine JC.ret ?_
    exact JE.ret1 rfl (RV.tmp rfl) fun w' hw => ⟨rfl, hw.chg⟩
/-! ### Bare -/
def needBa : Nat → List (Nat × Nat)
  | 2 => [(0, 25), (1, 26)]
  | 5 => [(3, 28), (4, 29)]
  | 6 => [(2, 27)]
  | 7 => [(5, 30)]
  | _ => []
def inpBa : Nat → List Nat
  | 2 => [8, 1]
  | _ => []
def eatBa : Nat → List Nat
  | 2 => [8]
  | _ => []
def srcBa : Nat → Option Nat
  | 6 => some 2
  | _ => none
def needBb : Nat → List (Nat × Nat)
  | 3 => [(1, 40), (2, 41)]
  | 4 => [(0, 39), (3, 42)]
  | 7 => [(5, 44), (6, 45)]
  | 8 => [(4, 43)]
  | 9 => [(7, 46)]
  | _ => []
def inpBb : Nat → List Nat
  | 4 => [10]
  | _ => []
def eatBb : Nat → List Nat
  | 4 => [10]
  | _ => []
def srcBb : Nat → Option Nat
  | 8 => some 4
  | _ => none
theorem comm_err : ∀ (n : Nat) (r : List Fld.By) (d k e : Nat), r.length ≤ n → commR r d k = .error e → decide ((e : Int) = 0) = false := by
  intro n
  induction n with
  | zero =>
    intro r d k e h hc
    obtain rfl : r = [] := List.eq_nil_of_length_eq_zero (by omega)
    rw [comm_e] at hc
    cases hc
    rfl
  | succ n ih =>
    intro r d k e h hc
    match r, h with
    | [], _ =>
      rw [comm_e] at hc
      cases hc
      rfl
    | c :: r, h =>
      simp only [List.length_cons] at h
      by_cases h40 : c = 40
      · rw [h40, comm_40] at hc
        split at hc
        · cases hc
          rfl
        · exact ih _ _ _ _ (by omega) hc
      by_cases h41 : c = 41
      · rw [h41, comm_41] at hc
        split at hc
        · cases hc
        · exact ih _ _ _ _ (by omega) hc
      by_cases h92 : c = 92
      · rw [h92] at hc
        match r, h with
        | [], _ =>
          rw [comm_92e] at hc
          cases hc
          rfl
        | c2 :: r, h =>
          rw [comm_92] at hc
          simp only [List.length_cons] at h
          exact ih _ _ _ _ (by omega) hc
      · rw [comm_c h40 h41 h92] at hc
        exact ih _ _ _ _ (by omega) hc
structure BaS where
  r : List Bt
  o : List Bt
  b : Nat
  cap : Nat
set_option maxHeartbeats 32000000 in
theorem bareA_any (s : List Bt) (w : World) (hl : s.length < 140000000) : Calls Tryd.prog 27 [Z s].toArray w fun e w' => e = .returned (.tuple #[Z (bareB s).1, N (bareB s).2]) ∧ Ext w w' := by
  refine enter (n := 49) Tryd.func27 rfl rfl rfl (Holds.start w []) ?_
  repeat (first | refine JL.q (by first | (apply OQ.lenS; exact Tryd.underlying9; exact rfl) | (apply OQ.move; exact rfl) | (apply OQ.assign; exact rfl) | (apply OQ.len; exact rfl; exact rfl) | (apply OQ.addN; exact rfl; exact rfl; exact (by (try simp only []); omega)) | (apply OQ.subN; exact rfl; exact rfl; exact (by (try simp only []); omega); exact (by (try simp only []); omega)) | (apply OQ.lssN; exact rfl; exact rfl) | (apply OQ.gtrN; exact rfl; exact rfl) | (apply OQ.geqN; exact rfl; exact rfl)) rfl ?_ | refine JC.seq ?_ | refine JC.region ?_ | refine JC.block ?_ | refine JC.skip ?_ | refine JC.exit ?_ | refine JL.nil ?_ | refine JE.next ?_ | refine JE.blk_normal ?_ | refine JE.then_exit ?_ | refine JE.blk_hit ?_ | refine JE.blk_miss rfl ?_ | refine JE.then_ret ?_ | refine JE.blk_ret ?_ | refine JC.label ?_ | refine JL.gon rfl rfl ?_ | refine JL.gskip rfl rfl rfl rfl ?_ | refine JL.gskipU rfl rfl rfl rfl ?_)
  refine JL.make0 (c := s.length) Tryd.underlying25 u8e rfl rfl (by omega) rfl fun b0 _ => ?_
  repeat (first | refine JL.q (by first | (apply OQ.move; exact rfl) | (apply OQ.assign; exact rfl) | (apply OQ.len; exact rfl; exact rfl) | (apply OQ.addN; exact rfl; exact rfl; exact (by (try simp only []); omega)) | (apply OQ.subN; exact rfl; exact rfl; exact (by (try simp only []); omega); exact (by (try simp only []); omega)) | (apply OQ.lssN; exact rfl; exact rfl) | (apply OQ.gtrN; exact rfl; exact rfl) | (apply OQ.geqN; exact rfl; exact rfl)) rfl ?_ | refine JC.seq ?_ | refine JC.region ?_ | refine JC.block ?_ | refine JC.skip ?_ | refine JC.exit ?_ | refine JL.nil ?_ | refine JE.next ?_ | refine JE.blk_normal ?_ | refine JE.then_exit ?_ | refine JE.blk_hit ?_ | refine JE.blk_miss rfl ?_ | refine JE.then_ret ?_ | refine JE.blk_ret ?_ | refine JC.label ?_ | refine JL.gon rfl rfl ?_ | refine JL.gskip rfl rfl rfl rfl ?_ | refine JL.gskipU rfl rfl rfl rfl ?_)
  refine JC.loop (fun z : BaS => [(0, Z z.r), (4, .slice (some ⟨z.b, 0, none⟩) z.o.length z.cap)]) (fun z => [⟨z.b, Own 5 1 z.o.length z.cap (z.o.map U8), true⟩]) (fun z => z.r.length) (fun z => z.r.length + z.o.length ≤ s.length ∧ bareB s = bareR z.r 0 false z.o) ⟨s, [], b0, s.length⟩ ⟨Nat.le_refl _, rfl⟩ (by repeat (first | exact SubE.nil | refine SubE.cons _ _ _ rfl ?_)) (Less.refl _) ?_
  rintro ⟨r, o, b, cap⟩ ⟨hlen, hc⟩
  dsimp only at hlen hc ⊢
  cases hr0 : decide (r = [])
  · obtain ⟨c, r, rfl⟩ : ∃ c r', r = c :: r' := by
      cases r with
      | nil => cases hr0
      | cons c r => exact ⟨c, r, rfl⟩
    have hrl : r.length + 1 + o.length ≤ s.length := by rw [List.length_cons] at hlen; exact hlen
    have i0 := fun {n : Nat} {E : Env} {C : World → Prop} {dst : Option Tmp} {ty : TypeId} {pos : String} {aft : Array Edge} {g : Option (Nat × Bool)} {x y : Operand} => idxAt10 (s := c :: r) (i := 0) (Nat.succ_pos _) (n := n) (E := E) (C := C) (dst := dst) (ty := ty) (pos := pos) (aft := aft) (g := g) (x := x) (y := y)
    rw [List.getD_cons_zero] at i0
    repeat (first | refine JL.q (by first | (apply OQ.neSB (r := []); exact rfl; exact rfl; exact hr0) | (apply OQ.move; exact rfl) | (apply OQ.assign; exact rfl) | (apply OQ.len; exact rfl; exact rfl) | (apply OQ.addN; exact rfl; exact rfl; exact (by (try simp only []); omega)) | (apply OQ.subN; exact rfl; exact rfl; exact (by (try simp only []); omega); exact (by (try simp only []); omega)) | (apply OQ.lssN; exact rfl; exact rfl) | (apply OQ.gtrN; exact rfl; exact rfl) | (apply OQ.geqN; exact rfl; exact rfl)) rfl ?_ | refine JC.seq ?_ | refine JC.region ?_ | refine JC.block ?_ | refine JC.skip ?_ | refine JC.exit ?_ | refine JL.nil ?_ | refine JE.next ?_ | refine JE.blk_normal ?_ | refine JE.then_exit ?_ | refine JE.blk_hit ?_ | refine JE.blk_miss rfl ?_ | refine JE.then_ret ?_ | refine JE.blk_ret ?_ | refine JC.label ?_ | refine JL.gon rfl rfl ?_ | refine JL.gskip rfl rfl rfl rfl ?_ | refine JL.gskipU rfl rfl rfl rfl ?_)
    refine JC.cond rfl (fun _ => ?_) (fun h => by cases h)
    cases h40 : decide (c = 40)
    · cases h41 : decide (c = 41)
      · cases h34 : decide (c = 34)
        · rw [bare_0 (of_decide_eq_false h40) (of_decide_eq_false h41), show (c == 34) = false from beq_eq_false_iff_ne.2 (of_decide_eq_false h34)] at hc
          replace hc : bareB s = bareR ((c :: r).drop 1) 0 false (o ++ (c :: r).take 1) := hc
          repeat (first | refine JL.q (by first | (apply i0; exact rfl; exact rfl) | (apply OQ.eq8T (b := 40); exact rfl; exact rfl; exact h40) | (apply OQ.move; exact rfl) | (apply OQ.assign; exact rfl) | (apply OQ.len; exact rfl; exact rfl) | (apply OQ.addN; exact rfl; exact rfl; exact (by (try simp only []); omega)) | (apply OQ.subN; exact rfl; exact rfl; exact (by (try simp only []); omega); exact (by (try simp only []); omega)) | (apply OQ.lssN; exact rfl; exact rfl) | (apply OQ.gtrN; exact rfl; exact rfl) | (apply OQ.geqN; exact rfl; exact rfl)) rfl ?_ | refine JC.seq ?_ | refine JC.region ?_ | refine JC.block ?_ | refine JC.skip ?_ | refine JC.exit ?_ | refine JL.nil ?_ | refine JE.next ?_ | refine JE.blk_normal ?_ | refine JE.then_exit ?_ | refine JE.blk_hit ?_ | refine JE.blk_miss rfl ?_ | refine JE.then_ret ?_ | refine JE.blk_ret ?_ | refine JC.label ?_ | refine JL.gon rfl rfl ?_ | refine JL.gskip rfl rfl rfl rfl ?_ | refine JL.gskipU rfl rfl rfl rfl ?_)
          refine JC.cond rfl (fun h => by cases h) (fun _ => ?_)
          repeat (first | refine JL.q (by first | (apply OQ.eq8T (b := 41); exact rfl; exact rfl; exact h41) | (apply OQ.move; exact rfl) | (apply OQ.assign; exact rfl) | (apply OQ.len; exact rfl; exact rfl) | (apply OQ.addN; exact rfl; exact rfl; exact (by (try simp only []); omega)) | (apply OQ.subN; exact rfl; exact rfl; exact (by (try simp only []); omega); exact (by (try simp only []); omega)) | (apply OQ.lssN; exact rfl; exact rfl) | (apply OQ.gtrN; exact rfl; exact rfl) | (apply OQ.geqN; exact rfl; exact rfl)) rfl ?_ | refine JC.seq ?_ | refine JC.region ?_ | refine JC.block ?_ | refine JC.skip ?_ | refine JC.exit ?_ | refine JL.nil ?_ | refine JE.next ?_ | refine JE.blk_normal ?_ | refine JE.then_exit ?_ | refine JE.blk_hit ?_ | refine JE.blk_miss rfl ?_ | refine JE.then_ret ?_ | refine JE.blk_ret ?_ | refine JC.label ?_ | refine JL.gon rfl rfl ?_ | refine JL.gskip rfl rfl rfl rfl ?_ | refine JL.gskipU rfl rfl rfl rfl ?_)
          refine JC.cond rfl (fun h => by cases h) (fun _ => ?_)
          repeat (first | refine JL.q (by first | (apply OQ.eq8T (b := 34); exact rfl; exact rfl; exact h34) | (apply OQ.move; exact rfl) | (apply OQ.assign; exact rfl) | (apply OQ.len; exact rfl; exact rfl) | (apply OQ.addN; exact rfl; exact rfl; exact (by (try simp only []); omega)) | (apply OQ.subN; exact rfl; exact rfl; exact (by (try simp only []); omega); exact (by (try simp only []); omega)) | (apply OQ.lssN; exact rfl; exact rfl) | (apply OQ.gtrN; exact rfl; exact rfl) | (apply OQ.geqN; exact rfl; exact rfl)) rfl ?_ | refine JC.seq ?_ | refine JC.region ?_ | refine JC.block ?_ | refine JC.skip ?_ | refine JC.exit ?_ | refine JL.nil ?_ | refine JE.next ?_ | refine JE.blk_normal ?_ | refine JE.then_exit ?_ | refine JE.blk_hit ?_ | refine JE.blk_miss rfl ?_ | refine JE.then_ret ?_ | refine JE.blk_ret ?_ | refine JC.label ?_ | refine JL.gon rfl rfl ?_ | refine JL.gskip rfl rfl rfl rfl ?_ | refine JL.gskipU rfl rfl rfl rfl ?_)
          refine JC.cond rfl (fun h => by cases h) (fun _ => ?_)
          repeat (first | refine JL.q (by first | (apply OQ.move; exact rfl) | (apply OQ.assign; exact rfl) | (apply OQ.len; exact rfl; exact rfl) | (apply OQ.addN; exact rfl; exact rfl; exact (by (try simp only []); omega)) | (apply OQ.subN; exact rfl; exact rfl; exact (by (try simp only []); omega); exact (by (try simp only []); omega)) | (apply OQ.lssN; exact rfl; exact rfl) | (apply OQ.gtrN; exact rfl; exact rfl) | (apply OQ.geqN; exact rfl; exact rfl)) rfl ?_ | refine JC.seq ?_ | refine JC.region ?_ | refine JC.block ?_ | refine JC.skip ?_ | refine JC.exit ?_ | refine JL.nil ?_ | refine JE.next ?_ | refine JE.blk_normal ?_ | refine JE.then_exit ?_ | refine JE.blk_hit ?_ | refine JE.blk_miss rfl ?_ | refine JE.then_ret ?_ | refine JE.blk_ret ?_ | refine JC.label ?_ | refine JL.gon rfl rfl ?_ | refine JL.gskip rfl rfl rfl rfl ?_ | refine JL.gskipU rfl rfl rfl rfl ?_)
          have hml : ((c :: r).take 1).length = 1 := by rw [List.length_take, List.length_cons]; omega
          have hdl : ((c :: r).drop 1).length = r.length + 1 - 1 := by rw [List.length_drop, List.length_cons]
          have hne : (c :: r).take 1 ≠ [] := fun h => by rw [h] at hml; rw [List.length_nil] at hml; omega
          have hlm : 1 ≤ (c :: r).length := by rw [List.length_cons]; omega
          let vs : Nat → X → Value := fun j x => match j with
            | 0 => .slice (some ⟨b, 0, none⟩) o.length cap
            | 1 => Z (c :: r)
            | 2 => N 1
            | 3 => Z ((c :: r).take 1)
            | 5 => Z (c :: r)
            | 6 => N 1
            | 7 => Z ((c :: r).drop 1)
            | 9 => Z ((c :: r).drop 1)
            | _ => .slice (some ⟨x.1, 0, none⟩) (o ++ (c :: r).take 1).length x.2
          let Ms : Nat → X → List Ent := fun j x => match j with
            | 4 => [⟨x.1, Own 5 1 (o ++ (c :: r).take 1).length x.2 ((o ++ (c :: r).take 1).map U8), true⟩]
            | 10 => [⟨b, Own 5 1 o.length cap (o.map U8), true⟩]
            | _ => []
          refine JC.growO (g := ⟨[(5, N 1)], 11, vs, Ms, needBb, inpBb, eatBb, srcBb, fun j => match j with | 0 => [(4, .slice (some ⟨b, 0, none⟩) o.length cap)] | 1 => [(0, Z (c :: r))] | 5 => [(0, Z (c :: r))] | _ => []⟩) [(8, 4), (9, 0)] [4] mixT (by repeat (first | exact SubE.nil | refine SubE.cons _ _ _ rfl ?_)) (fun j _ => match j with | 0 => (by repeat (first | exact SubE.nil | refine SubE.cons _ _ _ rfl ?_)) | 1 => (by repeat (first | exact SubE.nil | refine SubE.cons _ _ _ rfl ?_)) | 2 => .nil | 3 => .nil | 4 => .nil | 5 => (by repeat (first | exact SubE.nil | refine SubE.cons _ _ _ rfl ?_)) | _ + 6 => .nil) (Less.refl _) (by kernel_rfl) (by kernel_rfl) (by kernel_rfl) ?_ ?_
          · refine ⟨?_, ?_, ?_, ?_, ?_, ?_, ?_, ?_, ?_, ?_, trivial⟩
            iterate 4 (focus (intro x EF MF Q kk; (try refine JL.gon rfl rfl ?_); exact JL.q (by first | (apply OQ.subS_hi; exact Tryd.underlying9; exact rfl; exact rfl; exact hlm) | (apply OQ.move; exact rfl) | (apply OQ.assign; exact rfl) | (apply OQ.len; exact rfl; exact rfl) | (apply OQ.addN; exact rfl; exact rfl; exact (by (try simp only []); omega)) | (apply OQ.subN; exact rfl; exact rfl; exact (by (try simp only []); omega); exact (by (try simp only []); omega)) | (apply OQ.lssN; exact rfl; exact rfl) | (apply OQ.gtrN; exact rfl; exact rfl) | (apply OQ.geqN; exact rfl; exact rfl)) rfl (JL.nil (kk default nofun))))
            · intro x EF MF Q kk
              refine JL.lessM (M' := accE 5 (some (b, cap)) (o.map U8) ++ MF) ?_ (by show Less ([⟨b, Own 5 1 (o.map U8).length cap (o.map U8), true⟩] ++ MF) _; rw [List.length_map]; exact Less.refl _)
              refine JL.appendZ (r := (c :: r).take 1) (xs := o.map U8) (M := MF) (some (b, cap)) Tryd.underlying25 Tryd.underlying9 u8e (fun h => by cases h) (by rw [List.length_map]; rfl) rfl hne (by rw [List.length_map]; omega) rfl fun p => JL.nil ?_
              rw [← List.map_append, List.length_map, accE_own]
              exact kk p (fun k h => by cases h)
            iterate 3 (focus (intro x EF MF Q kk; (try refine JL.gon rfl rfl ?_); exact JL.q (by first | (apply OQ.subS_lo; exact Tryd.underlying9; exact rfl; exact rfl; exact hlm) | (apply OQ.move; exact rfl) | (apply OQ.assign; exact rfl) | (apply OQ.len; exact rfl; exact rfl) | (apply OQ.addN; exact rfl; exact rfl; exact (by (try simp only []); omega)) | (apply OQ.subN; exact rfl; exact rfl; exact (by (try simp only []); omega); exact (by (try simp only []); omega)) | (apply OQ.lssN; exact rfl; exact rfl) | (apply OQ.gtrN; exact rfl; exact rfl) | (apply OQ.geqN; exact rfl; exact rfl)) rfl (JL.nil (kk default nofun))))
            · intro x EF MF Q kk
              exact JL.q (OQ.assign rfl) rfl (JL.nil (kk (x 4) (fun k h => by cases h; rfl)))
            · (intro x EF MF Q kk; (try refine JL.gon rfl rfl ?_); exact JL.q (by first | (apply OQ.move; exact rfl) | (apply OQ.assign; exact rfl) | (apply OQ.len; exact rfl; exact rfl) | (apply OQ.addN; exact rfl; exact rfl; exact (by (try simp only []); omega)) | (apply OQ.subN; exact rfl; exact rfl; exact (by (try simp only []); omega); exact (by (try simp only []); omega)) | (apply OQ.lssN; exact rfl; exact rfl) | (apply OQ.gtrN; exact rfl; exact rfl) | (apply OQ.geqN; exact rfl; exact rfl)) rfl (JL.nil (kk default nofun)))
          · intro x hx'
            have h84 := hx' 8 4 (by decide) rfl
            show JE _ _ _ _ _ [(4, .slice (some ⟨(x 8).1, 0, none⟩) (o ++ (c :: r).take 1).length (x 8).2), (0, Z ((c :: r).drop 1)), (5, N 1)] [⟨(x 4).1, Own 5 1 (o ++ (c :: r).take 1).length (x 4).2 ((o ++ (c :: r).take 1).map U8), true⟩]
            rw [h84]
            obtain ⟨b', cap'⟩ := x 4
            clear hx' h84 x vs Ms
            dsimp only
            repeat (first | refine JL.q (by first | (apply OQ.move; exact rfl) | (apply OQ.assign; exact rfl) | (apply OQ.len; exact rfl; exact rfl) | (apply OQ.addN; exact rfl; exact rfl; exact (by (try simp only []); omega)) | (apply OQ.subN; exact rfl; exact rfl; exact (by (try simp only []); omega); exact (by (try simp only []); omega)) | (apply OQ.lssN; exact rfl; exact rfl) | (apply OQ.gtrN; exact rfl; exact rfl) | (apply OQ.geqN; exact rfl; exact rfl)) rfl ?_ | refine JC.seq ?_ | refine JC.region ?_ | refine JC.block ?_ | refine JC.skip ?_ | refine JC.exit ?_ | refine JL.nil ?_ | refine JE.next ?_ | refine JE.blk_normal ?_ | refine JE.then_exit ?_ | refine JE.blk_hit ?_ | refine JE.blk_miss rfl ?_ | refine JE.then_ret ?_ | refine JE.blk_ret ?_ | refine JC.label ?_ | refine JL.gon rfl rfl ?_ | refine JL.gskip rfl rfl rfl rfl ?_ | refine JL.gskipU rfl rfl rfl rfl ?_)
            exact JE.again (i := BaS.mk (c :: r) o b cap) (BaS.mk ((c :: r).drop 1) (o ++ (c :: r).take 1) b' cap') ⟨by dsimp only; rw [List.length_append]; omega, hc⟩ (by dsimp only; rw [List.length_cons]; omega) (by repeat (first | exact SubE.nil | refine SubE.cons _ _ _ rfl ?_)) (Less.refl _)
        · obtain rfl : c = 34 := of_decide_eq_true h34
          have cQ := fun w' => quoted_any 34 r w' (by omega)
          cases hq : decide ((quotR r 1 : Int) = 0)
          · have hqn : quotR r 1 ≠ 0 := by have := of_decide_eq_false hq; omega
            obtain ⟨m0, m1, hb⟩ := step_quot_ok o hqn
            rw [hb] at hc
            generalize quotR r 1 = m at cQ hq m0 m1 hc
            clear hb hqn
            repeat (first | refine JL.q (by first | (apply i0; exact rfl; exact rfl) | (apply OQ.eq8T (b := 40); exact rfl; exact rfl; exact h40) | (apply OQ.move; exact rfl) | (apply OQ.assign; exact rfl) | (apply OQ.len; exact rfl; exact rfl) | (apply OQ.addN; exact rfl; exact rfl; exact (by (try simp only []); omega)) | (apply OQ.subN; exact rfl; exact rfl; exact (by (try simp only []); omega); exact (by (try simp only []); omega)) | (apply OQ.lssN; exact rfl; exact rfl) | (apply OQ.gtrN; exact rfl; exact rfl) | (apply OQ.geqN; exact rfl; exact rfl)) rfl ?_ | refine JC.seq ?_ | refine JC.region ?_ | refine JC.block ?_ | refine JC.skip ?_ | refine JC.exit ?_ | refine JL.nil ?_ | refine JE.next ?_ | refine JE.blk_normal ?_ | refine JE.then_exit ?_ | refine JE.blk_hit ?_ | refine JE.blk_miss rfl ?_ | refine JE.then_ret ?_ | refine JE.blk_ret ?_ | refine JC.label ?_ | refine JL.gon rfl rfl ?_ | refine JL.gskip rfl rfl rfl rfl ?_ | refine JL.gskipU rfl rfl rfl rfl ?_)
            refine JC.cond rfl (fun h => by cases h) (fun _ => ?_)
            repeat (first | refine JL.q (by first | (apply OQ.eq8T (b := 41); exact rfl; exact rfl; exact h41) | (apply OQ.move; exact rfl) | (apply OQ.assign; exact rfl) | (apply OQ.len; exact rfl; exact rfl) | (apply OQ.addN; exact rfl; exact rfl; exact (by (try simp only []); omega)) | (apply OQ.subN; exact rfl; exact rfl; exact (by (try simp only []); omega); exact (by (try simp only []); omega)) | (apply OQ.lssN; exact rfl; exact rfl) | (apply OQ.gtrN; exact rfl; exact rfl) | (apply OQ.geqN; exact rfl; exact rfl)) rfl ?_ | refine JC.seq ?_ | refine JC.region ?_ | refine JC.block ?_ | refine JC.skip ?_ | refine JC.exit ?_ | refine JL.nil ?_ | refine JE.next ?_ | refine JE.blk_normal ?_ | refine JE.then_exit ?_ | refine JE.blk_hit ?_ | refine JE.blk_miss rfl ?_ | refine JE.then_ret ?_ | refine JE.blk_ret ?_ | refine JC.label ?_ | refine JL.gon rfl rfl ?_ | refine JL.gskip rfl rfl rfl rfl ?_ | refine JL.gskipU rfl rfl rfl rfl ?_)
            refine JC.cond rfl (fun h => by cases h) (fun _ => ?_)
            repeat (first | refine JL.q (by first | (apply OQ.eq8T (b := 34); exact rfl; exact rfl; exact h34) | (apply OQ.move; exact rfl) | (apply OQ.assign; exact rfl) | (apply OQ.len; exact rfl; exact rfl) | (apply OQ.addN; exact rfl; exact rfl; exact (by (try simp only []); omega)) | (apply OQ.subN; exact rfl; exact rfl; exact (by (try simp only []); omega); exact (by (try simp only []); omega)) | (apply OQ.lssN; exact rfl; exact rfl) | (apply OQ.gtrN; exact rfl; exact rfl) | (apply OQ.geqN; exact rfl; exact rfl)) rfl ?_ | refine JC.seq ?_ | refine JC.region ?_ | refine JC.block ?_ | refine JC.skip ?_ | refine JC.exit ?_ | refine JL.nil ?_ | refine JE.next ?_ | refine JE.blk_normal ?_ | refine JE.then_exit ?_ | refine JE.blk_hit ?_ | refine JE.blk_miss rfl ?_ | refine JE.then_ret ?_ | refine JE.blk_ret ?_ | refine JC.label ?_ | refine JL.gon rfl rfl ?_ | refine JL.gskip rfl rfl rfl rfl ?_ | refine JL.gskipU rfl rfl rfl rfl ?_)
            refine JC.cond rfl (fun _ => ?_) (fun h => by cases h)
            repeat (first | refine JL.q (by first | (apply OQ.callx (vs := [Z (34 :: r)]); exact goes_quoted; exact rfl; exact (fun w' _ => cQ w')) | (apply OQ.eqB (b := 0); exact rfl; exact rfl; exact hq) | (apply OQ.move; exact rfl) | (apply OQ.assign; exact rfl) | (apply OQ.len; exact rfl; exact rfl) | (apply OQ.addN; exact rfl; exact rfl; exact (by (try simp only []); omega)) | (apply OQ.subN; exact rfl; exact rfl; exact (by (try simp only []); omega); exact (by (try simp only []); omega)) | (apply OQ.lssN; exact rfl; exact rfl) | (apply OQ.gtrN; exact rfl; exact rfl) | (apply OQ.geqN; exact rfl; exact rfl)) rfl ?_ | refine JC.seq ?_ | refine JC.region ?_ | refine JC.block ?_ | refine JC.skip ?_ | refine JC.exit ?_ | refine JL.nil ?_ | refine JE.next ?_ | refine JE.blk_normal ?_ | refine JE.then_exit ?_ | refine JE.blk_hit ?_ | refine JE.blk_miss rfl ?_ | refine JE.then_ret ?_ | refine JE.blk_ret ?_ | refine JC.label ?_ | refine JL.gon rfl rfl ?_ | refine JL.gskip rfl rfl rfl rfl ?_ | refine JL.gskipU rfl rfl rfl rfl ?_)
            refine JC.cond rfl (fun h => by cases h) (fun _ => ?_)
            repeat (first | refine JL.q (by first | (apply OQ.move; exact rfl) | (apply OQ.assign; exact rfl) | (apply OQ.len; exact rfl; exact rfl) | (apply OQ.addN; exact rfl; exact rfl; exact (by (try simp only []); omega)) | (apply OQ.subN; exact rfl; exact rfl; exact (by (try simp only []); omega); exact (by (try simp only []); omega)) | (apply OQ.lssN; exact rfl; exact rfl) | (apply OQ.gtrN; exact rfl; exact rfl) | (apply OQ.geqN; exact rfl; exact rfl)) rfl ?_ | refine JC.seq ?_ | refine JC.region ?_ | refine JC.block ?_ | refine JC.skip ?_ | refine JC.exit ?_ | refine JL.nil ?_ | refine JE.next ?_ | refine JE.blk_normal ?_ | refine JE.then_exit ?_ | refine JE.blk_hit ?_ | refine JE.blk_miss rfl ?_ | refine JE.then_ret ?_ | refine JE.blk_ret ?_ | refine JC.label ?_ | refine JL.gon rfl rfl ?_ | refine JL.gskip rfl rfl rfl rfl ?_ | refine JL.gskipU rfl rfl rfl rfl ?_)
            have hml : ((34 :: r).take m).length = m := by rw [List.length_take, List.length_cons]; omega
            have hdl : ((34 :: r).drop m).length = r.length + 1 - m := by rw [List.length_drop, List.length_cons]
            have hne : (34 :: r).take m ≠ [] := fun h => by rw [h] at hml; rw [List.length_nil] at hml; omega
            have hlm : m ≤ (34 :: r).length := by rw [List.length_cons]; omega
            let vs : Nat → X → Value := fun j x => match j with
              | 0 => .slice (some ⟨b, 0, none⟩) o.length cap
              | 1 => Z (34 :: r)
              | 2 => N m
              | 3 => Z ((34 :: r).take m)
              | 5 => Z (34 :: r)
              | 6 => N m
              | 7 => Z ((34 :: r).drop m)
              | 9 => Z ((34 :: r).drop m)
              | _ => .slice (some ⟨x.1, 0, none⟩) (o ++ (34 :: r).take m).length x.2
            let Ms : Nat → X → List Ent := fun j x => match j with
              | 4 => [⟨x.1, Own 5 1 (o ++ (34 :: r).take m).length x.2 ((o ++ (34 :: r).take m).map U8), true⟩]
              | 10 => [⟨b, Own 5 1 o.length cap (o.map U8), true⟩]
              | _ => []
            refine JC.growO (g := ⟨[(5, N m)], 11, vs, Ms, needBb, inpBb, eatBb, srcBb, fun j => match j with | 0 => [(4, .slice (some ⟨b, 0, none⟩) o.length cap)] | 1 => [(0, Z (34 :: r))] | 5 => [(0, Z (34 :: r))] | _ => []⟩) [(8, 4), (9, 0)] [4] mixT (by repeat (first | exact SubE.nil | refine SubE.cons _ _ _ rfl ?_)) (fun j _ => match j with | 0 => (by repeat (first | exact SubE.nil | refine SubE.cons _ _ _ rfl ?_)) | 1 => (by repeat (first | exact SubE.nil | refine SubE.cons _ _ _ rfl ?_)) | 2 => .nil | 3 => .nil | 4 => .nil | 5 => (by repeat (first | exact SubE.nil | refine SubE.cons _ _ _ rfl ?_)) | _ + 6 => .nil) (Less.refl _) (by kernel_rfl) (by kernel_rfl) (by kernel_rfl) ?_ ?_
            · refine ⟨?_, ?_, ?_, ?_, ?_, ?_, ?_, ?_, ?_, ?_, trivial⟩
              iterate 4 (focus (intro x EF MF Q kk; (try refine JL.gon rfl rfl ?_); exact JL.q (by first | (apply OQ.subS_hi; exact Tryd.underlying9; exact rfl; exact rfl; exact hlm) | (apply OQ.move; exact rfl) | (apply OQ.assign; exact rfl) | (apply OQ.len; exact rfl; exact rfl) | (apply OQ.addN; exact rfl; exact rfl; exact (by (try simp only []); omega)) | (apply OQ.subN; exact rfl; exact rfl; exact (by (try simp only []); omega); exact (by (try simp only []); omega)) | (apply OQ.lssN; exact rfl; exact rfl) | (apply OQ.gtrN; exact rfl; exact rfl) | (apply OQ.geqN; exact rfl; exact rfl)) rfl (JL.nil (kk default nofun))))
              · intro x EF MF Q kk
                refine JL.lessM (M' := accE 5 (some (b, cap)) (o.map U8) ++ MF) ?_ (by show Less ([⟨b, Own 5 1 (o.map U8).length cap (o.map U8), true⟩] ++ MF) _; rw [List.length_map]; exact Less.refl _)
                refine JL.appendZ (r := (34 :: r).take m) (xs := o.map U8) (M := MF) (some (b, cap)) Tryd.underlying25 Tryd.underlying9 u8e (fun h => by cases h) (by rw [List.length_map]; rfl) rfl hne (by rw [List.length_map]; omega) rfl fun p => JL.nil ?_
                rw [← List.map_append, List.length_map, accE_own]
                exact kk p (fun k h => by cases h)
              iterate 3 (focus (intro x EF MF Q kk; (try refine JL.gon rfl rfl ?_); exact JL.q (by first | (apply OQ.subS_lo; exact Tryd.underlying9; exact rfl; exact rfl; exact hlm) | (apply OQ.move; exact rfl) | (apply OQ.assign; exact rfl) | (apply OQ.len; exact rfl; exact rfl) | (apply OQ.addN; exact rfl; exact rfl; exact (by (try simp only []); omega)) | (apply OQ.subN; exact rfl; exact rfl; exact (by (try simp only []); omega); exact (by (try simp only []); omega)) | (apply OQ.lssN; exact rfl; exact rfl) | (apply OQ.gtrN; exact rfl; exact rfl) | (apply OQ.geqN; exact rfl; exact rfl)) rfl (JL.nil (kk default nofun))))
              · intro x EF MF Q kk
                exact JL.q (OQ.assign rfl) rfl (JL.nil (kk (x 4) (fun k h => by cases h; rfl)))
              · (intro x EF MF Q kk; (try refine JL.gon rfl rfl ?_); exact JL.q (by first | (apply OQ.move; exact rfl) | (apply OQ.assign; exact rfl) | (apply OQ.len; exact rfl; exact rfl) | (apply OQ.addN; exact rfl; exact rfl; exact (by (try simp only []); omega)) | (apply OQ.subN; exact rfl; exact rfl; exact (by (try simp only []); omega); exact (by (try simp only []); omega)) | (apply OQ.lssN; exact rfl; exact rfl) | (apply OQ.gtrN; exact rfl; exact rfl) | (apply OQ.geqN; exact rfl; exact rfl)) rfl (JL.nil (kk default nofun)))
            · intro x hx'
              have h84 := hx' 8 4 (by decide) rfl
              show JE _ _ _ _ _ [(4, .slice (some ⟨(x 8).1, 0, none⟩) (o ++ (34 :: r).take m).length (x 8).2), (0, Z ((34 :: r).drop m)), (5, N m)] [⟨(x 4).1, Own 5 1 (o ++ (34 :: r).take m).length (x 4).2 ((o ++ (34 :: r).take m).map U8), true⟩]
              rw [h84]
              obtain ⟨b', cap'⟩ := x 4
              clear hx' h84 x vs Ms
              dsimp only
              repeat (first | refine JL.q (by first | (apply OQ.move; exact rfl) | (apply OQ.assign; exact rfl) | (apply OQ.len; exact rfl; exact rfl) | (apply OQ.addN; exact rfl; exact rfl; exact (by (try simp only []); omega)) | (apply OQ.subN; exact rfl; exact rfl; exact (by (try simp only []); omega); exact (by (try simp only []); omega)) | (apply OQ.lssN; exact rfl; exact rfl) | (apply OQ.gtrN; exact rfl; exact rfl) | (apply OQ.geqN; exact rfl; exact rfl)) rfl ?_ | refine JC.seq ?_ | refine JC.region ?_ | refine JC.block ?_ | refine JC.skip ?_ | refine JC.exit ?_ | refine JL.nil ?_ | refine JE.next ?_ | refine JE.blk_normal ?_ | refine JE.then_exit ?_ | refine JE.blk_hit ?_ | refine JE.blk_miss rfl ?_ | refine JE.then_ret ?_ | refine JE.blk_ret ?_ | refine JC.label ?_ | refine JL.gon rfl rfl ?_ | refine JL.gskip rfl rfl rfl rfl ?_ | refine JL.gskipU rfl rfl rfl rfl ?_)
              exact JE.again (i := BaS.mk (34 :: r) o b cap) (BaS.mk ((34 :: r).drop m) (o ++ (34 :: r).take m) b' cap') ⟨by dsimp only; rw [List.length_append]; omega, hc⟩ (by dsimp only; rw [List.length_cons]; omega) (by repeat (first | exact SubE.nil | refine SubE.cons _ _ _ rfl ?_)) (Less.refl _)
          · rw [step_quot o (by have := of_decide_eq_true hq; omega)] at hc
            rw [hc]
            generalize quotR r 1 = m at cQ hq
            repeat (first | refine JL.q (by first | (apply i0; exact rfl; exact rfl) | (apply OQ.eq8T (b := 40); exact rfl; exact rfl; exact h40) | (apply OQ.move; exact rfl) | (apply OQ.assign; exact rfl) | (apply OQ.len; exact rfl; exact rfl) | (apply OQ.addN; exact rfl; exact rfl; exact (by (try simp only []); omega)) | (apply OQ.subN; exact rfl; exact rfl; exact (by (try simp only []); omega); exact (by (try simp only []); omega)) | (apply OQ.lssN; exact rfl; exact rfl) | (apply OQ.gtrN; exact rfl; exact rfl) | (apply OQ.geqN; exact rfl; exact rfl)) rfl ?_ | refine JC.seq ?_ | refine JC.region ?_ | refine JC.block ?_ | refine JC.skip ?_ | refine JC.exit ?_ | refine JL.nil ?_ | refine JE.next ?_ | refine JE.blk_normal ?_ | refine JE.then_exit ?_ | refine JE.blk_hit ?_ | refine JE.blk_miss rfl ?_ | refine JE.then_ret ?_ | refine JE.blk_ret ?_ | refine JC.label ?_ | refine JL.gon rfl rfl ?_ | refine JL.gskip rfl rfl rfl rfl ?_ | refine JL.gskipU rfl rfl rfl rfl ?_)
            refine JC.cond rfl (fun h => by cases h) (fun _ => ?_)
            repeat (first | refine JL.q (by first | (apply OQ.eq8T (b := 41); exact rfl; exact rfl; exact h41) | (apply OQ.move; exact rfl) | (apply OQ.assign; exact rfl) | (apply OQ.len; exact rfl; exact rfl) | (apply OQ.addN; exact rfl; exact rfl; exact (by (try simp only []); omega)) | (apply OQ.subN; exact rfl; exact rfl; exact (by (try simp only []); omega); exact (by (try simp only []); omega)) | (apply OQ.lssN; exact rfl; exact rfl) | (apply OQ.gtrN; exact rfl; exact rfl) | (apply OQ.geqN; exact rfl; exact rfl)) rfl ?_ | refine JC.seq ?_ | refine JC.region ?_ | refine JC.block ?_ | refine JC.skip ?_ | refine JC.exit ?_ | refine JL.nil ?_ | refine JE.next ?_ | refine JE.blk_normal ?_ | refine JE.then_exit ?_ | refine JE.blk_hit ?_ | refine JE.blk_miss rfl ?_ | refine JE.then_ret ?_ | refine JE.blk_ret ?_ | refine JC.label ?_ | refine JL.gon rfl rfl ?_ | refine JL.gskip rfl rfl rfl rfl ?_ | refine JL.gskipU rfl rfl rfl rfl ?_)
            refine JC.cond rfl (fun h => by cases h) (fun _ => ?_)
            repeat (first | refine JL.q (by first | (apply OQ.eq8T (b := 34); exact rfl; exact rfl; exact h34) | (apply OQ.move; exact rfl) | (apply OQ.assign; exact rfl) | (apply OQ.len; exact rfl; exact rfl) | (apply OQ.addN; exact rfl; exact rfl; exact (by (try simp only []); omega)) | (apply OQ.subN; exact rfl; exact rfl; exact (by (try simp only []); omega); exact (by (try simp only []); omega)) | (apply OQ.lssN; exact rfl; exact rfl) | (apply OQ.gtrN; exact rfl; exact rfl) | (apply OQ.geqN; exact rfl; exact rfl)) rfl ?_ | refine JC.seq ?_ | refine JC.region ?_ | refine JC.block ?_ | refine JC.skip ?_ | refine JC.exit ?_ | refine JL.nil ?_ | refine JE.next ?_ | refine JE.blk_normal ?_ | refine JE.then_exit ?_ | refine JE.blk_hit ?_ | refine JE.blk_miss rfl ?_ | refine JE.then_ret ?_ | refine JE.blk_ret ?_ | refine JC.label ?_ | refine JL.gon rfl rfl ?_ | refine JL.gskip rfl rfl rfl rfl ?_ | refine JL.gskipU rfl rfl rfl rfl ?_)
            refine JC.cond rfl (fun _ => ?_) (fun h => by cases h)
            repeat (first | refine JL.q (by first | (apply OQ.callx (vs := [Z (34 :: r)]); exact goes_quoted; exact rfl; exact (fun w' _ => cQ w')) | (apply OQ.eqB (b := 0); exact rfl; exact rfl; exact hq) | (apply OQ.move; exact rfl) | (apply OQ.assign; exact rfl) | (apply OQ.len; exact rfl; exact rfl) | (apply OQ.addN; exact rfl; exact rfl; exact (by (try simp only []); omega)) | (apply OQ.subN; exact rfl; exact rfl; exact (by (try simp only []); omega); exact (by (try simp only []); omega)) | (apply OQ.lssN; exact rfl; exact rfl) | (apply OQ.gtrN; exact rfl; exact rfl) | (apply OQ.geqN; exact rfl; exact rfl)) rfl ?_ | refine JC.seq ?_ | refine JC.region ?_ | refine JC.block ?_ | refine JC.skip ?_ | refine JC.exit ?_ | refine JL.nil ?_ | refine JE.next ?_ | refine JE.blk_normal ?_ | refine JE.then_exit ?_ | refine JE.blk_hit ?_ | refine JE.blk_miss rfl ?_ | refine JE.then_ret ?_ | refine JE.blk_ret ?_ | refine JC.label ?_ | refine JL.gon rfl rfl ?_ | refine JL.gskip rfl rfl rfl rfl ?_ | refine JL.gskipU rfl rfl rfl rfl ?_)
            refine JC.cond rfl (fun _ => ?_) (fun h => by cases h)
            repeat (first | refine JL.q (by first | (apply OQ.move; exact rfl) | (apply OQ.assign; exact rfl) | (apply OQ.len; exact rfl; exact rfl) | (apply OQ.addN; exact rfl; exact rfl; exact (by (try simp only []); omega)) | (apply OQ.subN; exact rfl; exact rfl; exact (by (try simp only []); omega); exact (by (try simp only []); omega)) | (apply OQ.lssN; exact rfl; exact rfl) | (apply OQ.gtrN; exact rfl; exact rfl) | (apply OQ.geqN; exact rfl; exact rfl)) rfl ?_ | refine JC.seq ?_ | refine JC.region ?_ | refine JC.block ?_ | refine JC.skip ?_ | refine JC.exit ?_ | refine JL.nil ?_ | refine JE.next ?_ | refine JE.blk_normal ?_ | refine JE.then_exit ?_ | refine JE.blk_hit ?_ | refine JE.blk_miss rfl ?_ | refine JE.then_ret ?_ | refine JE.blk_ret ?_ | refine JC.label ?_ | refine JL.gon rfl rfl ?_ | refine JL.gskip rfl rfl rfl rfl ?_ | refine JL.gskipU rfl rfl rfl rfl ?_)
            refine JC.ret ?_
            repeat (first | refine JL.q (by first | (apply OQ.move; exact rfl) | (apply OQ.assign; exact rfl) | (apply OQ.len; exact rfl; exact rfl) | (apply OQ.addN; exact rfl; exact rfl; exact (by (try simp only []); omega)) | (apply OQ.subN; exact rfl; exact rfl; exact (by (try simp only []); omega); exact (by (try simp only []); omega)) | (apply OQ.lssN; exact rfl; exact rfl) | (apply OQ.gtrN; exact rfl; exact rfl) | (apply OQ.geqN; exact rfl; exact rfl)) rfl ?_ | refine JC.seq ?_ | refine JC.region ?_ | refine JC.block ?_ | refine JC.skip ?_ | refine JC.exit ?_ | refine JL.nil ?_ | refine JE.next ?_ | refine JE.blk_normal ?_ | refine JE.then_exit ?_ | refine JE.blk_hit ?_ | refine JE.blk_miss rfl ?_ | refine JE.then_ret ?_ | refine JE.blk_ret ?_ | refine JC.label ?_ | refine JL.gon rfl rfl ?_ | refine JL.gskip rfl rfl rfl rfl ?_ | refine JL.gskipU rfl rfl rfl rfl ?_)
            exact JE.ret2 rfl (RV.tmp rfl) (RV.tmp rfl) fun w' hw => ⟨rfl, hw.chg⟩
      · rw [of_decide_eq_true h41, bare_41, if_pos rfl] at hc
        rw [hc]
        repeat (first | refine JL.q (by first | (apply i0; exact rfl; exact rfl) | (apply OQ.eq8T (b := 40); exact rfl; exact rfl; exact h40) | (apply OQ.move; exact rfl) | (apply OQ.assign; exact rfl) | (apply OQ.len; exact rfl; exact rfl) | (apply OQ.addN; exact rfl; exact rfl; exact (by (try simp only []); omega)) | (apply OQ.subN; exact rfl; exact rfl; exact (by (try simp only []); omega); exact (by (try simp only []); omega)) | (apply OQ.lssN; exact rfl; exact rfl) | (apply OQ.gtrN; exact rfl; exact rfl) | (apply OQ.geqN; exact rfl; exact rfl)) rfl ?_ | refine JC.seq ?_ | refine JC.region ?_ | refine JC.block ?_ | refine JC.skip ?_ | refine JC.exit ?_ | refine JL.nil ?_ | refine JE.next ?_ | refine JE.blk_normal ?_ | refine JE.then_exit ?_ | refine JE.blk_hit ?_ | refine JE.blk_miss rfl ?_ | refine JE.then_ret ?_ | refine JE.blk_ret ?_ | refine JC.label ?_ | refine JL.gon rfl rfl ?_ | refine JL.gskip rfl rfl rfl rfl ?_ | refine JL.gskipU rfl rfl rfl rfl ?_)
        refine JC.cond rfl (fun h => by cases h) (fun _ => ?_)
        repeat (first | refine JL.q (by first | (apply OQ.eq8T (b := 41); exact rfl; exact rfl; exact h41) | (apply OQ.move; exact rfl) | (apply OQ.assign; exact rfl) | (apply OQ.len; exact rfl; exact rfl) | (apply OQ.addN; exact rfl; exact rfl; exact (by (try simp only []); omega)) | (apply OQ.subN; exact rfl; exact rfl; exact (by (try simp only []); omega); exact (by (try simp only []); omega)) | (apply OQ.lssN; exact rfl; exact rfl) | (apply OQ.gtrN; exact rfl; exact rfl) | (apply OQ.geqN; exact rfl; exact rfl)) rfl ?_ | refine JC.seq ?_ | refine JC.region ?_ | refine JC.block ?_ | refine JC.skip ?_ | refine JC.exit ?_ | refine JL.nil ?_ | refine JE.next ?_ | refine JE.blk_normal ?_ | refine JE.then_exit ?_ | refine JE.blk_hit ?_ | refine JE.blk_miss rfl ?_ | refine JE.then_ret ?_ | refine JE.blk_ret ?_ | refine JC.label ?_ | refine JL.gon rfl rfl ?_ | refine JL.gskip rfl rfl rfl rfl ?_ | refine JL.gskipU rfl rfl rfl rfl ?_)
        refine JC.cond rfl (fun _ => ?_) (fun h => by cases h)
        repeat (first | refine JL.q (by first | (apply OQ.move; exact rfl) | (apply OQ.assign; exact rfl) | (apply OQ.len; exact rfl; exact rfl) | (apply OQ.addN; exact rfl; exact rfl; exact (by (try simp only []); omega)) | (apply OQ.subN; exact rfl; exact rfl; exact (by (try simp only []); omega); exact (by (try simp only []); omega)) | (apply OQ.lssN; exact rfl; exact rfl) | (apply OQ.gtrN; exact rfl; exact rfl) | (apply OQ.geqN; exact rfl; exact rfl)) rfl ?_ | refine JC.seq ?_ | refine JC.region ?_ | refine JC.block ?_ | refine JC.skip ?_ | refine JC.exit ?_ | refine JL.nil ?_ | refine JE.next ?_ | refine JE.blk_normal ?_ | refine JE.then_exit ?_ | refine JE.blk_hit ?_ | refine JE.blk_miss rfl ?_ | refine JE.then_ret ?_ | refine JE.blk_ret ?_ | refine JC.label ?_ | refine JL.gon rfl rfl ?_ | refine JL.gskip rfl rfl rfl rfl ?_ | refine JL.gskipU rfl rfl rfl rfl ?_)
        refine JC.ret ?_
        repeat (first | refine JL.q (by first | (apply OQ.move; exact rfl) | (apply OQ.assign; exact rfl) | (apply OQ.len; exact rfl; exact rfl) | (apply OQ.addN; exact rfl; exact rfl; exact (by (try simp only []); omega)) | (apply OQ.subN; exact rfl; exact rfl; exact (by (try simp only []); omega); exact (by (try simp only []); omega)) | (apply OQ.lssN; exact rfl; exact rfl) | (apply OQ.gtrN; exact rfl; exact rfl) | (apply OQ.geqN; exact rfl; exact rfl)) rfl ?_ | refine JC.seq ?_ | refine JC.region ?_ | refine JC.block ?_ | refine JC.skip ?_ | refine JC.exit ?_ | refine JL.nil ?_ | refine JE.next ?_ | refine JE.blk_normal ?_ | refine JE.then_exit ?_ | refine JE.blk_hit ?_ | refine JE.blk_miss rfl ?_ | refine JE.then_ret ?_ | refine JE.blk_ret ?_ | refine JC.label ?_ | refine JL.gon rfl rfl ?_ | refine JL.gskip rfl rfl rfl rfl ?_ | refine JL.gskipU rfl rfl rfl rfl ?_)
        exact JE.ret2 rfl (RV.tmp rfl) (RV.tmp rfl) fun w' hw => ⟨rfl, hw.chg⟩
    · obtain rfl : c = 40 := of_decide_eq_true h40
      have cC := fun w' => comment_any r w' (by omega)
      cases hcm : commR (40 :: r) 0 0 with
      | error e =>
        rw [hcm] at cC
        have he := comm_err _ _ _ _ _ (Nat.le_refl _) hcm
        rw [step_comm o hcm] at hc
        rw [hc]
        repeat (first | refine JL.q (by first | (apply i0; exact rfl; exact rfl) | (apply OQ.eq8T (b := 40); exact rfl; exact rfl; exact h40) | (apply OQ.move; exact rfl) | (apply OQ.assign; exact rfl) | (apply OQ.len; exact rfl; exact rfl) | (apply OQ.addN; exact rfl; exact rfl; exact (by (try simp only []); omega)) | (apply OQ.subN; exact rfl; exact rfl; exact (by (try simp only []); omega); exact (by (try simp only []); omega)) | (apply OQ.lssN; exact rfl; exact rfl) | (apply OQ.gtrN; exact rfl; exact rfl) | (apply OQ.geqN; exact rfl; exact rfl)) rfl ?_ | refine JC.seq ?_ | refine JC.region ?_ | refine JC.block ?_ | refine JC.skip ?_ | refine JC.exit ?_ | refine JL.nil ?_ | refine JE.next ?_ | refine JE.blk_normal ?_ | refine JE.then_exit ?_ | refine JE.blk_hit ?_ | refine JE.blk_miss rfl ?_ | refine JE.then_ret ?_ | refine JE.blk_ret ?_ | refine JC.label ?_ | refine JL.gon rfl rfl ?_ | refine JL.gskip rfl rfl rfl rfl ?_ | refine JL.gskipU rfl rfl rfl rfl ?_)
        refine JC.cond rfl (fun _ => ?_) (fun h => by cases h)
        repeat (first | refine JL.q (by first | (apply OQ.callx (vs := [Z (40 :: r)]); exact goes_comment; exact rfl; exact (fun w' _ => cC w')) | (apply OQ.extract; exact rfl; exact rfl) | (apply OQ.neB (b := 0); exact rfl; exact rfl; exact he) | (apply OQ.move; exact rfl) | (apply OQ.assign; exact rfl) | (apply OQ.len; exact rfl; exact rfl) | (apply OQ.addN; exact rfl; exact rfl; exact (by (try simp only []); omega)) | (apply OQ.subN; exact rfl; exact rfl; exact (by (try simp only []); omega); exact (by (try simp only []); omega)) | (apply OQ.lssN; exact rfl; exact rfl) | (apply OQ.gtrN; exact rfl; exact rfl) | (apply OQ.geqN; exact rfl; exact rfl)) rfl ?_ | refine JC.seq ?_ | refine JC.region ?_ | refine JC.block ?_ | refine JC.skip ?_ | refine JC.exit ?_ | refine JL.nil ?_ | refine JE.next ?_ | refine JE.blk_normal ?_ | refine JE.then_exit ?_ | refine JE.blk_hit ?_ | refine JE.blk_miss rfl ?_ | refine JE.then_ret ?_ | refine JE.blk_ret ?_ | refine JC.label ?_ | refine JL.gon rfl rfl ?_ | refine JL.gskip rfl rfl rfl rfl ?_ | refine JL.gskipU rfl rfl rfl rfl ?_)
        refine JC.cond rfl (fun _ => ?_) (fun h => by cases h)
        repeat (first | refine JL.q (by first | (apply OQ.move; exact rfl) | (apply OQ.assign; exact rfl) | (apply OQ.len; exact rfl; exact rfl) | (apply OQ.addN; exact rfl; exact rfl; exact (by (try simp only []); omega)) | (apply OQ.subN; exact rfl; exact rfl; exact (by (try simp only []); omega); exact (by (try simp only []); omega)) | (apply OQ.lssN; exact rfl; exact rfl) | (apply OQ.gtrN; exact rfl; exact rfl) | (apply OQ.geqN; exact rfl; exact rfl)) rfl ?_ | refine JC.seq ?_ | refine JC.region ?_ | refine JC.block ?_ | refine JC.skip ?_ | refine JC.exit ?_ | refine JL.nil ?_ | refine JE.next ?_ | refine JE.blk_normal ?_ | refine JE.then_exit ?_ | refine JE.blk_hit ?_ | refine JE.blk_miss rfl ?_ | refine JE.then_ret ?_ | refine JE.blk_ret ?_ | refine JC.label ?_ | refine JL.gon rfl rfl ?_ | refine JL.gskip rfl rfl rfl rfl ?_ | refine JL.gskipU rfl rfl rfl rfl ?_)
        refine JC.ret ?_
        repeat (first | refine JL.q (by first | (apply OQ.move; exact rfl) | (apply OQ.assign; exact rfl) | (apply OQ.len; exact rfl; exact rfl) | (apply OQ.addN; exact rfl; exact rfl; exact (by (try simp only []); omega)) | (apply OQ.subN; exact rfl; exact rfl; exact (by (try simp only []); omega); exact (by (try simp only []); omega)) | (apply OQ.lssN; exact rfl; exact rfl) | (apply OQ.gtrN; exact rfl; exact rfl) | (apply OQ.geqN; exact rfl; exact rfl)) rfl ?_ | refine JC.seq ?_ | refine JC.region ?_ | refine JC.block ?_ | refine JC.skip ?_ | refine JC.exit ?_ | refine JL.nil ?_ | refine JE.next ?_ | refine JE.blk_normal ?_ | refine JE.then_exit ?_ | refine JE.blk_hit ?_ | refine JE.blk_miss rfl ?_ | refine JE.then_ret ?_ | refine JE.blk_ret ?_ | refine JC.label ?_ | refine JL.gon rfl rfl ?_ | refine JL.gskip rfl rfl rfl rfl ?_ | refine JL.gskipU rfl rfl rfl rfl ?_)
        exact JE.ret2 rfl (RV.tmp rfl) (RV.tmp rfl) fun w' hw => ⟨rfl, hw.chg⟩
      | ok m =>
        rw [hcm] at cC
        obtain ⟨m0, m1, hb⟩ := step_comm_ok o hcm
        rw [hb] at hc
        repeat (first | refine JL.q (by first | (apply i0; exact rfl; exact rfl) | (apply OQ.eq8T (b := 40); exact rfl; exact rfl; exact h40) | (apply OQ.move; exact rfl) | (apply OQ.assign; exact rfl) | (apply OQ.len; exact rfl; exact rfl) | (apply OQ.addN; exact rfl; exact rfl; exact (by (try simp only []); omega)) | (apply OQ.subN; exact rfl; exact rfl; exact (by (try simp only []); omega); exact (by (try simp only []); omega)) | (apply OQ.lssN; exact rfl; exact rfl) | (apply OQ.gtrN; exact rfl; exact rfl) | (apply OQ.geqN; exact rfl; exact rfl)) rfl ?_ | refine JC.seq ?_ | refine JC.region ?_ | refine JC.block ?_ | refine JC.skip ?_ | refine JC.exit ?_ | refine JL.nil ?_ | refine JE.next ?_ | refine JE.blk_normal ?_ | refine JE.then_exit ?_ | refine JE.blk_hit ?_ | refine JE.blk_miss rfl ?_ | refine JE.then_ret ?_ | refine JE.blk_ret ?_ | refine JC.label ?_ | refine JL.gon rfl rfl ?_ | refine JL.gskip rfl rfl rfl rfl ?_ | refine JL.gskipU rfl rfl rfl rfl ?_)
        refine JC.cond rfl (fun _ => ?_) (fun h => by cases h)
        repeat (first | refine JL.q (by first | (apply OQ.callx (vs := [Z (40 :: r)]); exact goes_comment; exact rfl; exact (fun w' _ => cC w')) | (apply OQ.extract; exact rfl; exact rfl) | (apply OQ.neB (b := 0) (c := true); exact rfl; exact rfl; exact rfl) | (apply OQ.move; exact rfl) | (apply OQ.assign; exact rfl) | (apply OQ.len; exact rfl; exact rfl) | (apply OQ.addN; exact rfl; exact rfl; exact (by (try simp only []); omega)) | (apply OQ.subN; exact rfl; exact rfl; exact (by (try simp only []); omega); exact (by (try simp only []); omega)) | (apply OQ.lssN; exact rfl; exact rfl) | (apply OQ.gtrN; exact rfl; exact rfl) | (apply OQ.geqN; exact rfl; exact rfl)) rfl ?_ | refine JC.seq ?_ | refine JC.region ?_ | refine JC.block ?_ | refine JC.skip ?_ | refine JC.exit ?_ | refine JL.nil ?_ | refine JE.next ?_ | refine JE.blk_normal ?_ | refine JE.then_exit ?_ | refine JE.blk_hit ?_ | refine JE.blk_miss rfl ?_ | refine JE.then_ret ?_ | refine JE.blk_ret ?_ | refine JC.label ?_ | refine JL.gon rfl rfl ?_ | refine JL.gskip rfl rfl rfl rfl ?_ | refine JL.gskipU rfl rfl rfl rfl ?_)
        refine JC.cond rfl (fun h => by cases h) (fun _ => ?_)
        repeat (first | refine JL.q (by first | (apply OQ.move; exact rfl) | (apply OQ.assign; exact rfl) | (apply OQ.len; exact rfl; exact rfl) | (apply OQ.addN; exact rfl; exact rfl; exact (by (try simp only []); omega)) | (apply OQ.subN; exact rfl; exact rfl; exact (by (try simp only []); omega); exact (by (try simp only []); omega)) | (apply OQ.lssN; exact rfl; exact rfl) | (apply OQ.gtrN; exact rfl; exact rfl) | (apply OQ.geqN; exact rfl; exact rfl)) rfl ?_ | refine JC.seq ?_ | refine JC.region ?_ | refine JC.block ?_ | refine JC.skip ?_ | refine JC.exit ?_ | refine JL.nil ?_ | refine JE.next ?_ | refine JE.blk_normal ?_ | refine JE.then_exit ?_ | refine JE.blk_hit ?_ | refine JE.blk_miss rfl ?_ | refine JE.then_ret ?_ | refine JE.blk_ret ?_ | refine JC.label ?_ | refine JL.gon rfl rfl ?_ | refine JL.gskip rfl rfl rfl rfl ?_ | refine JL.gskipU rfl rfl rfl rfl ?_)
        have hdl : ((40 :: r).drop m).length = r.length + 1 - m := by rw [List.length_drop, List.length_cons]
        have hlm : m ≤ (40 :: r).length := by rw [List.length_cons]; omega
        let vs : Nat → X → Value := fun j x => match j with
          | 0 => .slice (some ⟨b, 0, none⟩) o.length cap
          | 1 => .slice (some ⟨x.1, 0, none⟩) 1 1
          | 3 => Z (40 :: r)
          | 4 => N m
          | 5 => Z ((40 :: r).drop m)
          | 7 => Z ((40 :: r).drop m)
          | _ => .slice (some ⟨x.1, 0, none⟩) (o ++ [32]).length x.2
        let Ms : Nat → X → List Ent := fun j x => match j with
          | 1 => [⟨x.1, Row 5 [U8 32], true⟩]
          | 2 => [⟨x.1, Own 5 1 (o ++ [32]).length x.2 ((o ++ [32]).map U8), true⟩]
          | 8 => [⟨b, Own 5 1 o.length cap (o.map U8), true⟩]
          | _ => []
        refine JC.growO (g := ⟨[(6, N m)], 9, vs, Ms, needBa, inpBa, eatBa, srcBa, fun j => match j with | 0 => [(4, .slice (some ⟨b, 0, none⟩) o.length cap)] | 3 => [(0, Z (40 :: r))] | _ => []⟩) [(6, 4), (7, 0)] [2] mixT (by repeat (first | exact SubE.nil | refine SubE.cons _ _ _ rfl ?_)) (fun j _ => match j with | 0 => (by repeat (first | exact SubE.nil | refine SubE.cons _ _ _ rfl ?_)) | 1 => .nil | 2 => .nil | 3 => (by repeat (first | exact SubE.nil | refine SubE.cons _ _ _ rfl ?_)) | _ + 4 => .nil) (Less.refl _) (by kernel_rfl) (by kernel_rfl) (by kernel_rfl) ?_ ?_
        · refine ⟨?_, ?_, ?_, ?_, ?_, ?_, ?_, ?_, trivial⟩
          · (intro x EF MF Q kk; (try refine JL.gon rfl rfl ?_); exact JL.q (by first | (apply OQ.move; exact rfl) | (apply OQ.assign; exact rfl) | (apply OQ.len; exact rfl; exact rfl) | (apply OQ.addN; exact rfl; exact rfl; exact (by (try simp only []); omega)) | (apply OQ.subN; exact rfl; exact rfl; exact (by (try simp only []); omega); exact (by (try simp only []); omega)) | (apply OQ.lssN; exact rfl; exact rfl) | (apply OQ.gtrN; exact rfl; exact rfl) | (apply OQ.geqN; exact rfl; exact rfl)) rfl (JL.nil (kk default nofun)))
          · intro x EF MF Q kk
            exact JL.lit1 Tryd.underlying25 u8e rfl rfl rfl rfl fun b _ => JL.nil (kk (b, 0) nofun)
          · intro x EF MF Q kk
            refine JL.lessM (M' := accE 5 (some (b, cap)) (o.map U8) ++ ⟨(x 1).1, Row 5 [U8 32], true⟩ :: MF) ?_ (by show Less ([⟨b, Own 5 1 (o.map U8).length cap (o.map U8), true⟩] ++ ⟨(x 1).1, Row 5 [U8 32], true⟩ :: MF) _; rw [List.length_map]; exact Less.refl _)
            refine JL.appendQ (cs := [U8 32]) (m := 1) (ad := some ⟨(x 1).1, 0, none⟩) (sc := 1) (xs := o.map U8) (M := ⟨(x 1).1, Row 5 [U8 32], true⟩ :: MF) (some (b, cap)) Tryd.underlying25 u8e (fun h => by cases h) (by rw [List.length_map]; rfl) rfl rfl (fun w' hw' => ?_) (fun v hv => by rw [List.mem_singleton.1 hv]; rfl) rfl (by rw [List.length_map]; omega) (by rw [List.length_map]; omega) rfl fun q' hq' => JL.nil ?_
            · have hw' : Holds _ _ (⟨b, Own 5 1 (o.map U8).length cap (o.map U8), true⟩ :: ⟨(x 1).1, Row 5 [U8 32], true⟩ :: MF) w' := hw'
              obtain ⟨o', ho, hA⟩ := hw'.get (.there .here)
              exact Reads.block ho (Row.all _ hA)
            · cases q' with
              | none => exact absurd (hq' rfl) (by simp)
              | some p =>
                rw [show o.map U8 ++ [U8 32] = (o ++ [32]).map U8 by rw [List.map_append]; rfl, List.length_map, accE_own]
                exact kk p (fun k h => by cases h)
          iterate 3 (focus (intro x EF MF Q kk; (try refine JL.gon rfl rfl ?_); exact JL.q (by first | (apply OQ.subS_lo; exact Tryd.underlying9; exact rfl; exact rfl; exact hlm) | (apply OQ.move; exact rfl) | (apply OQ.assign; exact rfl) | (apply OQ.len; exact rfl; exact rfl) | (apply OQ.addN; exact rfl; exact rfl; exact (by (try simp only []); omega)) | (apply OQ.subN; exact rfl; exact rfl; exact (by (try simp only []); omega); exact (by (try simp only []); omega)) | (apply OQ.lssN; exact rfl; exact rfl) | (apply OQ.gtrN; exact rfl; exact rfl) | (apply OQ.geqN; exact rfl; exact rfl)) rfl (JL.nil (kk default nofun))))
          · intro x EF MF Q kk
            exact JL.q (OQ.assign rfl) rfl (JL.nil (kk (x 2) (fun k h => by cases h; rfl)))
          · (intro x EF MF Q kk; (try refine JL.gon rfl rfl ?_); exact JL.q (by first | (apply OQ.move; exact rfl) | (apply OQ.assign; exact rfl) | (apply OQ.len; exact rfl; exact rfl) | (apply OQ.addN; exact rfl; exact rfl; exact (by (try simp only []); omega)) | (apply OQ.subN; exact rfl; exact rfl; exact (by (try simp only []); omega); exact (by (try simp only []); omega)) | (apply OQ.lssN; exact rfl; exact rfl) | (apply OQ.gtrN; exact rfl; exact rfl) | (apply OQ.geqN; exact rfl; exact rfl)) rfl (JL.nil (kk default nofun)))
        · intro x hx'
          have h84 := hx' 6 2 (by decide) rfl
          show JE _ _ _ _ _ [(4, .slice (some ⟨(x 6).1, 0, none⟩) (o ++ [32]).length (x 6).2), (0, Z ((40 :: r).drop m)), (6, N m)] [⟨(x 2).1, Own 5 1 (o ++ [32]).length (x 2).2 ((o ++ [32]).map U8), true⟩]
          rw [h84]
          obtain ⟨b', cap'⟩ := x 2
          clear hx' h84 x vs Ms
          dsimp only
          repeat (first | refine JL.q (by first | (apply OQ.move; exact rfl) | (apply OQ.assign; exact rfl) | (apply OQ.len; exact rfl; exact rfl) | (apply OQ.addN; exact rfl; exact rfl; exact (by (try simp only []); omega)) | (apply OQ.subN; exact rfl; exact rfl; exact (by (try simp only []); omega); exact (by (try simp only []); omega)) | (apply OQ.lssN; exact rfl; exact rfl) | (apply OQ.gtrN; exact rfl; exact rfl) | (apply OQ.geqN; exact rfl; exact rfl)) rfl ?_ | refine JC.seq ?_ | refine JC.region ?_ | refine JC.block ?_ | refine JC.skip ?_ | refine JC.exit ?_ | refine JL.nil ?_ | refine JE.next ?_ | refine JE.blk_normal ?_ | refine JE.then_exit ?_ | refine JE.blk_hit ?_ | refine JE.blk_miss rfl ?_ | refine JE.then_ret ?_ | refine JE.blk_ret ?_ | refine JC.label ?_ | refine JL.gon rfl rfl ?_ | refine JL.gskip rfl rfl rfl rfl ?_ | refine JL.gskipU rfl rfl rfl rfl ?_)
          exact JE.again (i := BaS.mk (40 :: r) o b cap) (BaS.mk ((40 :: r).drop m) (o ++ [32]) b' cap') ⟨by dsimp only; rw [List.length_append, List.length_singleton]; omega, hc⟩ (by dsimp only; rw [List.length_cons]; omega) (by repeat (first | exact SubE.nil | refine SubE.cons _ _ _ rfl ?_)) (Less.refl _)
  · obtain rfl : r = [] := of_decide_eq_true hr0
    rw [bare_end, if_neg (by decide)] at hc
    rw [hc]
    repeat (first | refine JL.q (by first | (apply OQ.neSB (r := []); exact rfl; exact rfl; exact hr0) | (apply OQ.move; exact rfl) | (apply OQ.assign; exact rfl) | (apply OQ.len; exact rfl; exact rfl) | (apply OQ.addN; exact rfl; exact rfl; exact (by (try simp only []); omega)) | (apply OQ.subN; exact rfl; exact rfl; exact (by (try simp only []); omega); exact (by (try simp only []); omega)) | (apply OQ.lssN; exact rfl; exact rfl) | (apply OQ.gtrN; exact rfl; exact rfl) | (apply OQ.geqN; exact rfl; exact rfl)) rfl ?_ | refine JC.seq ?_ | refine JC.region ?_ | refine JC.block ?_ | refine JC.skip ?_ | refine JC.exit ?_ | refine JL.nil ?_ | refine JE.next ?_ | refine JE.blk_normal ?_ | refine JE.then_exit ?_ | refine JE.blk_hit ?_ | refine JE.blk_miss rfl ?_ | refine JE.then_ret ?_ | refine JE.blk_ret ?_ | refine JC.label ?_ | refine JL.gon rfl rfl ?_ | refine JL.gskip rfl rfl rfl rfl ?_ | refine JL.gskipU rfl rfl rfl rfl ?_)
    refine JC.cond rfl (fun h => by cases h) (fun _ => ?_)
    repeat (first | refine JL.q (by first | (apply OQ.b2s (s := ⟨some ⟨b, 0, none⟩, cap, o⟩); exact Tryd.underlying25; exact Tryd.underlying5; exact Tryd.underlying9; exact rfl; exact (fun w' hw' => ownb_ok hw' .here)) | (apply OQ.move; exact rfl) | (apply OQ.assign; exact rfl) | (apply OQ.len; exact rfl; exact rfl) | (apply OQ.addN; exact rfl; exact rfl; exact (by (try simp only []); omega)) | (apply OQ.subN; exact rfl; exact rfl; exact (by (try simp only []); omega); exact (by (try simp only []); omega)) | (apply OQ.lssN; exact rfl; exact rfl) | (apply OQ.gtrN; exact rfl; exact rfl) | (apply OQ.geqN; exact rfl; exact rfl)) rfl ?_ | refine JC.seq ?_ | refine JC.region ?_ | refine JC.block ?_ | refine JC.skip ?_ | refine JC.exit ?_ | refine JL.nil ?_ | refine JE.next ?_ | refine JE.blk_normal ?_ | refine JE.then_exit ?_ | refine JE.blk_hit ?_ | refine JE.blk_miss rfl ?_ | refine JE.then_ret ?_ | refine JE.blk_ret ?_ | refine JC.label ?_ | refine JL.gon rfl rfl ?_ | refine JL.gskip rfl rfl rfl rfl ?_ | refine JL.gskipU rfl rfl rfl rfl ?_)
    refine JC.ret ?_
    exact JE.ret2 rfl (RV.tmp rfl) (RV.tmp rfl) fun w' hw => ⟨rfl, hw.chg⟩
end Go.Proofs.YtchoiikhepjdiaaDoor

/-
  Of no statement by itself: strings.ToLower of bytes below 128 and Split at one byte, by the library's contracts over any program; strings.CutPrefix, CutSuffix and LastIndexByte at one byte by their bodies.
  Conditions: each theorem's own.
-/
namespace Go.Proofs.YtchoiikhepjdiaaDoor
set_option maxRecDepth 10000
open Sl Fld Go.Shelf
/-! ### small letters -/
def lowLaysRen : Ren := ⟨fun | 159 => 61 | 165 => 95 | 166 => 96 | 167 => 97 | 169 => 98 | 230 => 99 | 204 => 100 | 240 => 118 | 241 => 119 | 197 => 108 | 118 => 120 | 168 => 121 | 270 => 122 | 262 => 123 | 276 => 140 | 277 => 141 | 260 => 129 | 242 => 142 | 313 => 143 | 278 => 149 | 274 => 150 | 275 => 151 | n => n,
  fun | 9 => 9 | 4 => 4 | 3 => 3 | 5 => 5 | 72 => 104 | 0 => 0 | 76 => 108 | 75 => 107 | 107 => 113 | 70 => 102 | 20 => 20 | 37 => 25 | 127 => 122 | 21 => 21 | 105 => 117 | 164 => 132 | 162 => 138 | 203 => 136 | 119 => 139 | 46 => 129 | 139 => 142 | 138 => 141 | 51 => 143 | 160 => 147 | 208 => 153 | 206 => 151 | 80 => 111 | n => n,
  fun | 13 => 1 | 3 => 2 | 4 => 3 | n => n⟩
theorem lowLays : Lays.n159 Tryd.prog lowLaysRen := {
  mixed := by kernel_rfl
  f118 := Tryd.func120.trans (congrArg some (by kernel_rfl))
  f159 := Tryd.func61.trans (congrArg some (by kernel_rfl))
  f165 := Tryd.func95.trans (congrArg some (by kernel_rfl))
  f166 := Tryd.func96.trans (congrArg some (by kernel_rfl))
  f167 := Tryd.func97.trans (congrArg some (by kernel_rfl))
  f168 := Tryd.func121.trans (congrArg some (by kernel_rfl))
  f169 := Tryd.func98.trans (congrArg some (by kernel_rfl))
  f197 := Tryd.func108.trans (congrArg some (by kernel_rfl))
  f204 := Tryd.func100.trans (congrArg some (by kernel_rfl))
  f230 := Tryd.func99.trans (congrArg some (by kernel_rfl))
  f240 := Tryd.func118.trans (congrArg some (by kernel_rfl))
  f241 := Tryd.func119.trans (congrArg some (by kernel_rfl))
  f242 := Tryd.func142.trans (congrArg some (by kernel_rfl))
  f260 := Tryd.func129.trans (congrArg some (by kernel_rfl))
  f262 := Tryd.func123.trans (congrArg some (by kernel_rfl))
  f270 := Tryd.func122.trans (congrArg some (by kernel_rfl))
  f274 := Tryd.func150.trans (congrArg some (by kernel_rfl))
  f275 := Tryd.func151.trans (congrArg some (by kernel_rfl))
  f276 := Tryd.func140.trans (congrArg some (by kernel_rfl))
  f277 := Tryd.func141.trans (congrArg some (by kernel_rfl))
  f278 := Tryd.func149.trans (congrArg some (by kernel_rfl))
  f313 := Tryd.func143.trans (congrArg some (by kernel_rfl))
  t0 := Tryd.underlying0
  a0 := Tryd.isAgg0
  z0 := Tryd.sizeOf0
  v0 := Tryd.zeroValue0
  t3 := Tryd.underlying3
  a3 := Tryd.isAgg3
  z3 := Tryd.sizeOf3
  v3 := Tryd.zeroValue3
  t4 := Tryd.underlying4
  a4 := Tryd.isAgg4
  z4 := Tryd.sizeOf4
  v4 := Tryd.zeroValue4
  t5 := Tryd.underlying5
  a5 := Tryd.isAgg5
  z5 := Tryd.sizeOf5
  v5 := Tryd.zeroValue5
  t9 := Tryd.underlying9
  a9 := Tryd.isAgg9
  z9 := Tryd.sizeOf9
  v9 := Tryd.zeroValue9
  t20 := Tryd.underlying20
  a20 := Tryd.isAgg20
  z20 := Tryd.sizeOf20
  v20 := Tryd.zeroValue20
  t21 := Tryd.underlying21
  a21 := Tryd.isAgg21
  z21 := Tryd.sizeOf21
  v21 := Tryd.zeroValue21
  t37 := Tryd.underlying25
  a37 := Tryd.isAgg25
  z37 := Tryd.sizeOf25
  v37 := Tryd.zeroValue25
  t46 := Tryd.underlying129
  a46 := Tryd.isAgg129
  z46 := Tryd.sizeOf129
  v46 := Tryd.zeroValue129
  t51 := Tryd.underlying143
  a51 := Tryd.isAgg143
  z51 := Tryd.sizeOf143
  v51 := Tryd.zeroValue143
  t70 := Tryd.underlying102
  a70 := Tryd.isAgg102
  z70 := Tryd.sizeOf102
  v70 := Tryd.zeroValue102
  t72 := Tryd.underlying104
  a72 := Tryd.isAgg104
  z72 := Tryd.sizeOf104
  v72 := Tryd.zeroValue104
  t75 := Tryd.underlying107
  a75 := Tryd.isAgg107
  z75 := Tryd.sizeOf107
  v75 := Tryd.zeroValue107
  t76 := Tryd.underlying108
  a76 := Tryd.isAgg108
  z76 := Tryd.sizeOf108
  v76 := Tryd.zeroValue108
  t105 := Tryd.underlying117
  a105 := Tryd.isAgg117
  z105 := Tryd.sizeOf117
  v105 := Tryd.zeroValue117
  t107 := Tryd.underlying113
  a107 := Tryd.isAgg113
  z107 := Tryd.sizeOf113
  v107 := Tryd.zeroValue113
  t119 := Tryd.underlying139
  a119 := Tryd.isAgg139
  z119 := Tryd.sizeOf139
  t127 := Tryd.underlying122
  a127 := Tryd.isAgg122
  z127 := Tryd.sizeOf122
  v127 := Tryd.zeroValue122
  t138 := Tryd.underlying141
  a138 := Tryd.isAgg141
  z138 := Tryd.sizeOf141
  v138 := Tryd.zeroValue141
  t139 := Tryd.underlying142
  a139 := Tryd.isAgg142
  z139 := Tryd.sizeOf142
  v139 := Tryd.zeroValue142
  t160 := Tryd.underlying147
  a160 := Tryd.isAgg147
  z160 := Tryd.sizeOf147
  v160 := Tryd.zeroValue147
  t162 := Tryd.underlying138
  a162 := Tryd.isAgg138
  z162 := Tryd.sizeOf138
  v162 := Tryd.zeroValue138
  t164 := Tryd.underlying132
  a164 := Tryd.isAgg132
  z164 := Tryd.sizeOf132
  v164 := Tryd.zeroValue132
  t203 := Tryd.underlying136
  a203 := Tryd.isAgg136
  z203 := Tryd.sizeOf136
  v203 := Tryd.zeroValue136
  t206 := Tryd.underlying151
  a206 := Tryd.isAgg151
  z206 := Tryd.sizeOf151
  v206 := Tryd.zeroValue151
  t208 := Tryd.underlying153
  a208 := Tryd.isAgg153
  z208 := Tryd.sizeOf153
  v208 := Tryd.zeroValue153
  g3 := by kernel_rfl
  g4 := by kernel_rfl
  g13 := by kernel_rfl }
theorem lowX : Builder.Extra Tryd.prog lowLaysRen := {
  sizeBuilder := by kernel_rfl
  liesBuilder := by kernel_rfl
  t5 := Tryd.underlying5
  a5 := Tryd.isAgg5
  z5 := Tryd.sizeOf5
  v5 := Tryd.zeroValue5
  infoByte := by kernel_rfl
  cellsByte := by kernel_rfl
  sizeByte := by kernel_rfl
  neB5 := by decide }
theorem low_u8 (l : List Fld.By) : Go.Lib.toLowerA (Fld.u8s l) = Fld.u8s (l.map small) := by
  have h : ∀ c : Fin 256, Go.Lib.lowerB (UInt8.ofBitVec (BitVec.ofNat 8 c.val)) = UInt8.ofBitVec (small (BitVec.ofNat 8 c.val)) := by decide +kernel
  unfold Go.Lib.toLowerA Fld.u8s
  rw [List.map_map, List.map_map]
  refine List.map_congr_left fun c _ => ?_
  simpa using h ⟨c.toNat, c.isLt⟩
theorem goes_lower : Goes Tryd.prog 61 := ⟨_, Tryd.func61, rfl, by kernel_rfl⟩
theorem lower_any (s : List Bt) (w : World) (hl : s.length ≤ 140737488355328) (hs : ∀ c ∈ s, c.toNat < 128) : Calls Tryd.prog 61 [Z s].toArray w fun e w' => e = .returned (Z (s.map small)) ∧ Ext w w' :=
  (Any.strings_ToLower_ascii lowLays lowX (strB s) w (by rw [strB_size]; exact hl) (fun j b hb => by
    rw [strB_list] at hb
    obtain ⟨c, hc, rfl⟩ := List.mem_map.1 (List.mem_of_getElem? hb)
    exact hs c hc)).mono fun e w' ⟨h1, h2⟩ => ⟨by rw [h1, strB_list, low_u8, u8s_str], below_ext h2⟩
/-! ### texts parted at a byte -/
namespace Fld
def spW (c : Fld.By) : List Fld.By → List (List Fld.By)
  | [] => [[]]
  | d :: r => if d = c then [] :: spW c r else match spW c r with
    | [] => [[d]]
    | x :: L => (d :: x) :: L
theorem spW_ne (c : Fld.By) : ∀ s, spW c s ≠ []
  | [] => by simp [spW]
  | d :: r => by
    unfold spW
    split
    · simp
    · split <;> simp
theorem spW_none {c : Fld.By} : ∀ {s : List Fld.By}, fi c s = s.length → spW c s = [s]
  | [], _ => rfl
  | d :: r, h => by
    rw [fi_cons] at h
    by_cases hd : d = c
    · rw [if_pos hd] at h; simp at h
    · rw [if_neg hd] at h
      rw [spW, if_neg hd, spW_none (s := r) (by simpa using h)]
theorem spW_some {c : Fld.By} : ∀ {s : List Fld.By}, fi c s < s.length → spW c s = s.take (fi c s) :: spW c (s.drop (fi c s + 1))
  | [], h => by simp [fi] at h
  | d :: r, h => by
    by_cases hd : d = c
    · rw [fi_cons, if_pos hd, spW, if_pos hd]
      rfl
    · rw [fi_cons, if_neg hd] at h ⊢
      rw [spW, if_neg hd, spW_some (s := r) (by simpa using h)]
      rfl
theorem index_u8 (c : Fld.By) (s : List Fld.By) : Go.Lib.index (Fld.u8s s) (Fld.u8s [c]) = ixC c s := by
  show Go.Lib.index (Fld.u8s s) [UInt8.ofBitVec c] = _
  rw [Go.Lib.index_one, ixb_is2]
where
  ixb_is2 {c : Fld.By} : ∀ {l : List Fld.By}, Go.Lib.indexByte (Fld.u8s l) (UInt8.ofBitVec c) = ixC c l
  | [] => rfl
  | d :: r => by
    show (if (UInt8.ofBitVec d == UInt8.ofBitVec c) then 0 else if Go.Lib.indexByte (Fld.u8s r) (UInt8.ofBitVec c) == -1 then -1 else Go.Lib.indexByte (Fld.u8s r) (UInt8.ofBitVec c) + 1 : Int) = _
    rw [ixb_is2 (c := c) (l := r)]
    unfold ixC
    rw [fi_cons]
    have hb : (UInt8.ofBitVec d == UInt8.ofBitVec c) = decide (d = c) := by
      by_cases h : d = c
      · subst h; simp
      · rw [decide_eq_false h]
        exact beq_eq_false_iff_ne.2 fun k => h (congrArg UInt8.toBitVec k)
    rw [hb]
    by_cases hd : d = c
    · simp [hd]
    · simp only [hd, decide_false, Bool.false_eq_true, if_false, List.length_cons, Nat.add_lt_add_iff_right]
      by_cases h : fi c r < r.length
      · simp only [h, if_true]
        rw [if_neg (by rw [beq_iff_eq]; omega)]
        omega
      · simp only [h, if_false]
        rfl
theorem u8s_count (c : Fld.By) : ∀ s : List Fld.By, (Fld.u8s s).count (UInt8.ofBitVec c) = s.count c
  | [] => rfl
  | d :: r => by
    show (UInt8.ofBitVec d :: Fld.u8s r).count _ = _
    rw [List.count_cons, List.count_cons, u8s_count c r]
    congr 1
    by_cases h : d = c
    · subst h; simp
    · have h2 : ¬ UInt8.ofBitVec d = UInt8.ofBitVec c := fun k => h (congrArg UInt8.toBitVec k)
      rw [if_neg (by simpa using h2), if_neg (by simpa using h)]
theorem count_split {c : Fld.By} : ∀ {s : List Fld.By}, (s.count c = 0 → fi c s = s.length) ∧ (s.count c ≠ 0 → fi c s < s.length ∧ s.count c = (s.drop (fi c s + 1)).count c + 1)
  | [] => by simp [fi]
  | d :: r => by
    obtain ⟨h1, h2⟩ := count_split (c := c) (s := r)
    rw [fi_cons, List.count_cons]
    by_cases hd : d = c
    · subst hd
      simp
    · have hdb : (d == c) = false := beq_eq_false_iff_ne.2 hd
      simp only [hdb, hd, if_false, Bool.false_eq_true, Nat.add_zero, List.length_cons, Nat.add_lt_add_iff_right, List.drop_succ_cons]
      exact ⟨fun h => by rw [h1 h], h2⟩
theorem splitK_u8 (c : Fld.By) : ∀ (k : Nat) (s : List Fld.By), s.count c = k → Go.Lib.splitK (Fld.u8s [c]) 0 k (Fld.u8s s) = (spW c s).map Fld.u8s
  | 0, s, h => by
    rw [spW_none (count_split.1 h)]
    rfl
  | k + 1, s, h => by
    obtain ⟨h1, h2⟩ := (count_split (c := c) (s := s)).2 (by omega)
    have hi : Go.Lib.index (Fld.u8s s) (Fld.u8s [c]) = (fi c s : Nat) := by rw [index_u8, ixC, if_pos h1]
    have hd : (Fld.u8s s).drop (fi c s + 1) = Fld.u8s (s.drop (fi c s + 1)) := by unfold Fld.u8s; rw [List.map_drop]
    have ht : (Fld.u8s s).take (fi c s) = Fld.u8s (s.take (fi c s)) := by unfold Fld.u8s; rw [List.map_take]
    show (if Go.Lib.index (Fld.u8s s) (Fld.u8s [c]) == -1 then [Fld.u8s s] else (Fld.u8s s).take ((Go.Lib.index (Fld.u8s s) (Fld.u8s [c])).toNat + 0) :: Go.Lib.splitK (Fld.u8s [c]) 0 k ((Fld.u8s s).drop ((Go.Lib.index (Fld.u8s s) (Fld.u8s [c])).toNat + (Fld.u8s [c]).length))) = _
    rw [hi, if_neg (by rw [beq_iff_eq]; omega), Int.toNat_natCast, Nat.add_zero, show (Fld.u8s [c]).length = 1 from rfl, hd, ht, splitK_u8 c k _ (by omega), spW_some h1]
    rfl
end Fld
theorem split_is (c : Bt) (s : List Bt) : (Go.Lib.splitB (strB [c]) 0 (s.count c) (strB s)).map Value.string = (spW c s).map Z := by
  have h1 := Go.Lib.splitB_data (strB [c]) 0 (s.count c) (strB s)
  rw [strB_list, strB_list, splitK_u8 c _ s rfl] at h1
  have h2 := congrArg (List.map fun l : List UInt8 => Value.string ⟨l.toArray⟩) h1
  rw [List.map_map, List.map_map] at h2
  exact h2
def splitLaysRen : Ren := ⟨fun | 221 => 117 | 268 => 137 | 138 => 138 | 143 => 139 | 195 => 147 | 197 => 108 | 218 => 148 | 219 => 116 | 260 => 129 | 217 => 114 | 225 => 128 | 224 => 127 | 267 => 136 | 266 => 135 | 314 => 146 | n => n,
  fun | 9 => 9 | 3 => 3 | 31 => 48 | 4 => 4 | 0 => 0 | 105 => 117 | 21 => 21 | 5 => 5 | 46 => 129 | 119 => 139 | 139 => 142 | 138 => 141 | 146 => 144 | 51 => 143 | n => n,
  fun | 1 => 0 | 3 => 2 | 4 => 3 | n => n⟩
theorem splitLays : Lays.n221 Tryd.prog splitLaysRen := {
  mixed := by kernel_rfl
  f138 := Tryd.func138.trans (congrArg some (by kernel_rfl))
  f143 := Tryd.func139.trans (congrArg some (by kernel_rfl))
  f195 := Tryd.func147.trans (congrArg some (by kernel_rfl))
  f197 := Tryd.func108.trans (congrArg some (by kernel_rfl))
  f217 := Tryd.func114.trans (congrArg some (by kernel_rfl))
  f218 := Tryd.func148.trans (congrArg some (by kernel_rfl))
  f219 := Tryd.func116.trans (congrArg some (by kernel_rfl))
  f221 := Tryd.func117.trans (congrArg some (by kernel_rfl))
  f224 := Tryd.func127.trans (congrArg some (by kernel_rfl))
  f225 := Tryd.func128.trans (congrArg some (by kernel_rfl))
  f260 := Tryd.func129.trans (congrArg some (by kernel_rfl))
  f266 := Tryd.func135.trans (congrArg some (by kernel_rfl))
  f267 := Tryd.func136.trans (congrArg some (by kernel_rfl))
  f268 := Tryd.func137.trans (congrArg some (by kernel_rfl))
  f314 := Tryd.func146.trans (congrArg some (by kernel_rfl))
  t0 := Tryd.underlying0
  a0 := Tryd.isAgg0
  z0 := Tryd.sizeOf0
  v0 := Tryd.zeroValue0
  t3 := Tryd.underlying3
  a3 := Tryd.isAgg3
  z3 := Tryd.sizeOf3
  v3 := Tryd.zeroValue3
  t4 := Tryd.underlying4
  a4 := Tryd.isAgg4
  z4 := Tryd.sizeOf4
  v4 := Tryd.zeroValue4
  t5 := Tryd.underlying5
  a5 := Tryd.isAgg5
  z5 := Tryd.sizeOf5
  v5 := Tryd.zeroValue5
  t9 := Tryd.underlying9
  a9 := Tryd.isAgg9
  z9 := Tryd.sizeOf9
  v9 := Tryd.zeroValue9
  t21 := Tryd.underlying21
  a21 := Tryd.isAgg21
  z21 := Tryd.sizeOf21
  v21 := Tryd.zeroValue21
  t31 := Tryd.underlying48
  a31 := Tryd.isAgg48
  z31 := Tryd.sizeOf48
  v31 := Tryd.zeroValue48
  t46 := Tryd.underlying129
  a46 := Tryd.isAgg129
  z46 := Tryd.sizeOf129
  v46 := Tryd.zeroValue129
  t51 := Tryd.underlying143
  a51 := Tryd.isAgg143
  z51 := Tryd.sizeOf143
  v51 := Tryd.zeroValue143
  t105 := Tryd.underlying117
  a105 := Tryd.isAgg117
  z105 := Tryd.sizeOf117
  v105 := Tryd.zeroValue117
  t119 := Tryd.underlying139
  a119 := Tryd.isAgg139
  z119 := Tryd.sizeOf139
  t138 := Tryd.underlying141
  a138 := Tryd.isAgg141
  z138 := Tryd.sizeOf141
  v138 := Tryd.zeroValue141
  t139 := Tryd.underlying142
  a139 := Tryd.isAgg142
  z139 := Tryd.sizeOf142
  v139 := Tryd.zeroValue142
  t146 := Tryd.underlying144
  a146 := Tryd.isAgg144
  z146 := Tryd.sizeOf144
  v146 := Tryd.zeroValue144
  g1 := by kernel_rfl
  g3 := by kernel_rfl
  g4 := by kernel_rfl }
theorem strI9 : (Tryd.prog.info? (splitLaysRen.t 9)).map (fun i => (i.zero, i.size, i.bytes)) = some (some (.string ByteArray.empty), 1, 16) := by kernel_rfl
theorem goes_gens : Goes Tryd.prog 117 := ⟨_, Tryd.func117, rfl, by kernel_rfl⟩
theorem goes_splw : Goes Tryd.prog 94 := ⟨_, Tryd.func94, rfl, by kernel_rfl⟩
theorem gens_any (s : List Bt) (c : Bt) (w : World) (hl : s.length < 4294967281) : Calls Tryd.prog 117 [Z s, Z [c], N 0, I (-1)].toArray w fun e w' =>
    ∃ b, e = .returned (.slice (some ⟨b, 0, none⟩) (spW c s).length (spW c s).length) ∧ Holds w [] [⟨b, Row 9 ((spW c s).map Z), true⟩] w' := by
  have hcnt : Go.Lib.countB (strB s) (strB [c]) = s.count c := by
    show Go.Lib.count (Fld.u8s s) [UInt8.ofBitVec c] = _
    rw [Go.Lib.count_one, u8s_count]
  have hcle : s.count c ≤ s.length := List.count_le_length
  have hlen : (Go.Lib.splitB (strB [c]) 0 (s.count c) (strB s)).length = s.count c + 1 := Go.Lib.splitB_all (strB [c]) (by rw [strB_size]; exact Nat.le_refl _) 0 _ (strB s) hcnt
  have hlen2 : (spW c s).length = s.count c + 1 := by
    have := congrArg List.length (split_is c s)
    rw [List.length_map, List.length_map, hlen] at this
    exact this.symm
  have := Any.strings_genSplit_core splitLays strI9 (strB s) (strB [c]) 0 (-1) (s.count c + 1) w (by rw [strB_size]; exact hl) (by rw [strB_size]; exact Nat.le_refl _) (Nat.zero_le _)
    (fun x cs hx => (Any.strings_Index_one { splitLays with } x (UInt8.ofBitVec c) _).mono fun e w' ⟨h1, h2⟩ => ⟨by
      rw [h1]
      show Ending.returned (Value.int .i64 (Go.Lib.indexByte x.data.toList (UInt8.ofBitVec c))) = Ending.returned (Value.int .i64 (Go.Lib.index x.data.toList [UInt8.ofBitVec c]))
      rw [Go.Lib.index_one], h2⟩)
    ((Any.strings_Count_one { splitLays with } (strB s) (UInt8.ofBitVec c) w).mono fun e w' ⟨h1, h2⟩ => ⟨by
      rw [h1]
      show Ending.returned (Value.int .i64 (((Fld.u8s s).count (UInt8.ofBitVec c) : Nat) : Int)) = Ending.returned (Value.int .i64 ((Go.Lib.countB (strB s) (strB [c]) : Nat) : Int))
      rw [hcnt, u8s_count], h2⟩) (by decide) (by decide) (by
        rw [if_pos (by decide), hcnt, strB_size]
        omega)
  refine this.mono fun e w' ⟨h1, h2⟩ => ⟨w.heap.size, ?_, ?_⟩
  · rw [h1, Nat.add_sub_cancel, hlen, hlen2]
  · rw [h2, Nat.add_sub_cancel]
    have e1 : Go.Lib.cellsOf (Go.Lib.splitB (strB [c]) 0 (s.count c) (strB s)) (s.count c + 1) = ((spW c s).map Z).toArray := by
      rw [← hlen, Go.Lib.cellsOf_full, split_is]
    rw [e1]
    exact (Holds.start w []).push (.cells ((spW c s).map Z).toArray 9 (0, 0)) rfl rfl rfl rfl rfl
theorem splw_any (s : List Bt) (c : Bt) (w : World) (hl : s.length < 4294967281) : Calls Tryd.prog 94 [Z s, Z [c]].toArray w fun e w' =>
    ∃ b, e = .returned (.slice (some ⟨b, 0, none⟩) (spW c s).length (spW c s).length) ∧ Holds w [] [⟨b, Row 9 ((spW c s).map Z), true⟩] w' := by
  refine enter (n := 8) Tryd.func94 rfl rfl rfl (Holds.start w []) ?_
  repeat (first | refine JL.q (by first | (apply OQ.move; exact rfl) | (apply OQ.assign; exact rfl) | (apply OQ.len; exact rfl; exact rfl) | (apply OQ.addN; exact rfl; exact rfl; exact (by (try simp only []); omega)) | (apply OQ.subN; exact rfl; exact rfl; exact (by (try simp only []); omega); exact (by (try simp only []); omega))) rfl ?_ | refine JC.seq ?_ | refine JC.region ?_ | refine JC.block ?_ | refine JC.skip ?_ | refine JC.exit ?_ | refine JL.nil ?_ | refine JE.next ?_ | refine JE.blk_normal ?_ | refine JE.then_exit ?_ | refine JE.blk_hit ?_ | refine JE.blk_miss rfl ?_ | refine JE.then_ret ?_ | refine JE.blk_ret ?_ | refine JC.label ?_ | refine JL.gon rfl rfl ?_ | refine JL.gskip rfl rfl rfl rfl ?_ | refine JL.gskipU rfl rfl rfl rfl ?_)
  refine JL.callg (ι := Nat) (vs := [Z s, Z [c], N 0, I (-1)]) (fun b => .slice (some ⟨b, 0, none⟩) (spW c s).length (spW c s).length) (fun b => [⟨b, Row 9 ((spW c s).map Z), true⟩]) goes_gens rfl rfl (fun b e he => by rw [List.mem_singleton.1 he]) (fun w' _ => gens_any s c w' hl) fun b => ?_
  repeat (first | refine JL.q (by first | (apply OQ.move; exact rfl) | (apply OQ.assign; exact rfl) | (apply OQ.len; exact rfl; exact rfl) | (apply OQ.addN; exact rfl; exact rfl; exact (by (try simp only []); omega)) | (apply OQ.subN; exact rfl; exact rfl; exact (by (try simp only []); omega); exact (by (try simp only []); omega))) rfl ?_ | refine JC.seq ?_ | refine JC.region ?_ | refine JC.block ?_ | refine JC.skip ?_ | refine JC.exit ?_ | refine JL.nil ?_ | refine JE.next ?_ | refine JE.blk_normal ?_ | refine JE.then_exit ?_ | refine JE.blk_hit ?_ | refine JE.blk_miss rfl ?_ | refine JE.then_ret ?_ | refine JE.blk_ret ?_ | refine JC.label ?_ | refine JL.gon rfl rfl ?_ | refine JL.gskip rfl rfl rfl rfl ?_ | refine JL.gskipU rfl rfl rfl rfl ?_)
  exact JC.ret (JE.ret1 rfl (RV.tmp rfl) fun w' hw => ⟨b, rfl, hw⟩)
/-! ### one byte at an end -/
theorem goes_shp : Goes Tryd.prog 124 := ⟨_, Tryd.func124, rfl, by kernel_rfl⟩
theorem goes_scp : Goes Tryd.prog 101 := ⟨_, Tryd.func101, rfl, by kernel_rfl⟩
theorem goes_cpw : Goes Tryd.prog 66 := ⟨_, Tryd.func66, rfl, by kernel_rfl⟩
theorem goes_shs : Goes Tryd.prog 115 := ⟨_, Tryd.func115, rfl, by kernel_rfl⟩
theorem goes_scs : Goes Tryd.prog 91 := ⟨_, Tryd.func91, rfl, by kernel_rfl⟩
theorem goes_csw : Goes Tryd.prog 57 := ⟨_, Tryd.func57, rfl, by kernel_rfl⟩
theorem head_is (s : List Fld.By) (c : Fld.By) : decide (s.head? = some c) = (decide ((1 : Int) ≤ (s.length : Int)) && decide (s.take 1 = [c])) := by
  cases s with
  | nil => simp
  | cons d r =>
    simp
    intro _
    omega
theorem last_is (s : List Fld.By) (c : Fld.By) : decide (s.getLast? = some c) = (decide ((1 : Int) ≤ (s.length : Int)) && decide (s.drop (s.length - 1) = [c])) := by
  rcases List.eq_nil_or_concat s with rfl | ⟨r, d, rfl⟩
  · simp
  · simp
    intro _
    omega
set_option maxHeartbeats 2000000 in
theorem shp_any (s : List Bt) (c : Bt) (w : World) : Calls Tryd.prog 124 [Z s, Z [c]].toArray w fun e w' => e = .returned (.bool (decide (s.head? = some c))) ∧ Ext w w' := by
  refine enter (n := 18) Tryd.func124 rfl rfl rfl (Holds.start w []) ?_
  rw [head_is]
  cases h1 : decide ((1 : Int) ≤ (s.length : Int))
  · repeat (first | refine JL.q (by first | (apply OQ.lenS; exact Tryd.underlying9; exact rfl) | (apply OQ.geqB (b := 1); exact rfl; exact rfl; exact h1) | (apply OQ.pick_f; exact rfl; exact rfl) | (apply OQ.move; exact rfl) | (apply OQ.assign; exact rfl) | (apply OQ.len; exact rfl; exact rfl) | (apply OQ.addN; exact rfl; exact rfl; exact (by (try simp only []); omega)) | (apply OQ.subN; exact rfl; exact rfl; exact (by (try simp only []); omega); exact (by (try simp only []); omega))) rfl ?_ | refine JC.seq ?_ | refine JC.region ?_ | refine JC.block ?_ | refine JC.skip ?_ | refine JC.exit ?_ | refine JL.nil ?_ | refine JE.next ?_ | refine JE.blk_normal ?_ | refine JE.then_exit ?_ | refine JE.blk_hit ?_ | refine JE.blk_miss rfl ?_ | refine JE.then_ret ?_ | refine JE.blk_ret ?_ | refine JC.label ?_ | refine JL.gon rfl rfl ?_ | refine JL.gskip rfl rfl rfl rfl ?_ | refine JL.gskipU rfl rfl rfl rfl ?_)
    exact JC.ret (JE.ret1 rfl (RV.tmp rfl) fun w' hw => ⟨rfl, hw.chg⟩)
  · have hle : 1 ≤ s.length := by have := of_decide_eq_true h1; omega
    cases h2 : decide (s.take 1 = [c])
    all_goals (repeat (first | refine JL.q (by first | (apply OQ.lenS; exact Tryd.underlying9; exact rfl) | (apply OQ.geqB (b := 1); exact rfl; exact rfl; exact h1) | (apply OQ.subS_hi (j := 1); exact Tryd.underlying9; exact rfl; exact rfl; exact hle) | (apply OQ.eqSB; exact rfl; exact rfl; exact h2) | (apply OQ.pick_t; exact rfl; exact rfl) | (apply OQ.move; exact rfl) | (apply OQ.assign; exact rfl) | (apply OQ.len; exact rfl; exact rfl) | (apply OQ.addN; exact rfl; exact rfl; exact (by (try simp only []); omega)) | (apply OQ.subN; exact rfl; exact rfl; exact (by (try simp only []); omega); exact (by (try simp only []); omega))) rfl ?_ | refine JC.seq ?_ | refine JC.region ?_ | refine JC.block ?_ | refine JC.skip ?_ | refine JC.exit ?_ | refine JL.nil ?_ | refine JE.next ?_ | refine JE.blk_normal ?_ | refine JE.then_exit ?_ | refine JE.blk_hit ?_ | refine JE.blk_miss rfl ?_ | refine JE.then_ret ?_ | refine JE.blk_ret ?_ | refine JC.label ?_ | refine JL.gon rfl rfl ?_ | refine JL.gskip rfl rfl rfl rfl ?_ | refine JL.gskipU rfl rfl rfl rfl ?_))
    all_goals exact JC.ret (JE.ret1 rfl (RV.tmp rfl) fun w' hw => ⟨rfl, hw.chg⟩)
def cpV (c : Bt) (s : List Bt) : Value := if s.head? = some c then .tuple #[Z s.tail, .bool true] else .tuple #[Z s, .bool false]
theorem scp_any (s : List Bt) (c : Bt) (w : World) : Calls Tryd.prog 101 [Z s, Z [c]].toArray w fun e w' => e = .returned (cpV c s) ∧ Ext w w' := by
  refine enter (n := 15) Tryd.func101 rfl rfl rfl (Holds.start w []) ?_
  have hq := fun w' => shp_any s c w'
  unfold cpV
  by_cases h : s.head? = some c
  · simp only [h, decide_true, if_true] at hq ⊢
    have hle : 1 ≤ s.length := by
      cases s with
      | nil => cases h
      | cons d r => simp
    repeat (first | refine JL.q (by first | (apply OQ.callx (vs := [Z s, Z [c]]); exact goes_shp; exact rfl; exact (fun w' _ => hq w')) | (apply OQ.not; exact rfl) | (apply OQ.move; exact rfl) | (apply OQ.assign; exact rfl) | (apply OQ.len; exact rfl; exact rfl) | (apply OQ.addN; exact rfl; exact rfl; exact (by (try simp only []); omega)) | (apply OQ.subN; exact rfl; exact rfl; exact (by (try simp only []); omega); exact (by (try simp only []); omega))) rfl ?_ | refine JC.seq ?_ | refine JC.region ?_ | refine JC.block ?_ | refine JC.skip ?_ | refine JC.exit ?_ | refine JL.nil ?_ | refine JE.next ?_ | refine JE.blk_normal ?_ | refine JE.then_exit ?_ | refine JE.blk_hit ?_ | refine JE.blk_miss rfl ?_ | refine JE.then_ret ?_ | refine JE.blk_ret ?_ | refine JC.label ?_ | refine JL.gon rfl rfl ?_ | refine JL.gskip rfl rfl rfl rfl ?_ | refine JL.gskipU rfl rfl rfl rfl ?_)
    refine JC.cond rfl (fun h => by cases h) (fun _ => ?_)
    repeat (first | refine JL.q (by first | (apply OQ.lenS; exact Tryd.underlying9; exact rfl) | (apply OQ.subS_lo (i := 1); exact Tryd.underlying9; exact rfl; exact rfl; exact hle) | (apply OQ.move; exact rfl) | (apply OQ.assign; exact rfl) | (apply OQ.len; exact rfl; exact rfl) | (apply OQ.addN; exact rfl; exact rfl; exact (by (try simp only []); omega)) | (apply OQ.subN; exact rfl; exact rfl; exact (by (try simp only []); omega); exact (by (try simp only []); omega))) rfl ?_ | refine JC.seq ?_ | refine JC.region ?_ | refine JC.block ?_ | refine JC.skip ?_ | refine JC.exit ?_ | refine JL.nil ?_ | refine JE.next ?_ | refine JE.blk_normal ?_ | refine JE.then_exit ?_ | refine JE.blk_hit ?_ | refine JE.blk_miss rfl ?_ | refine JE.then_ret ?_ | refine JE.blk_ret ?_ | refine JC.label ?_ | refine JL.gon rfl rfl ?_ | refine JL.gskip rfl rfl rfl rfl ?_ | refine JL.gskipU rfl rfl rfl rfl ?_)
    refine JC.ret ?_
    repeat (first | refine JL.q (by first | (apply OQ.move; exact rfl) | (apply OQ.assign; exact rfl) | (apply OQ.len; exact rfl; exact rfl) | (apply OQ.addN; exact rfl; exact rfl; exact (by (try simp only []); omega)) | (apply OQ.subN; exact rfl; exact rfl; exact (by (try simp only []); omega); exact (by (try simp only []); omega))) rfl ?_ | refine JC.seq ?_ | refine JC.region ?_ | refine JC.block ?_ | refine JC.skip ?_ | refine JC.exit ?_ | refine JL.nil ?_ | refine JE.next ?_ | refine JE.blk_normal ?_ | refine JE.then_exit ?_ | refine JE.blk_hit ?_ | refine JE.blk_miss rfl ?_ | refine JE.then_ret ?_ | refine JE.blk_ret ?_ | refine JC.label ?_ | refine JL.gon rfl rfl ?_ | refine JL.gskip rfl rfl rfl rfl ?_ | refine JL.gskipU rfl rfl rfl rfl ?_)
    refine JE.ret2 rfl (RV.tmp rfl) (RV.tmp rfl) fun w' hw => ⟨?_, hw.chg⟩
    rw [List.drop_one]
  · simp only [h, decide_false, if_false] at hq ⊢
    repeat (first | refine JL.q (by first | (apply OQ.callx (vs := [Z s, Z [c]]); exact goes_shp; exact rfl; exact (fun w' _ => hq w')) | (apply OQ.not; exact rfl) | (apply OQ.move; exact rfl) | (apply OQ.assign; exact rfl) | (apply OQ.len; exact rfl; exact rfl) | (apply OQ.addN; exact rfl; exact rfl; exact (by (try simp only []); omega)) | (apply OQ.subN; exact rfl; exact rfl; exact (by (try simp only []); omega); exact (by (try simp only []); omega))) rfl ?_ | refine JC.seq ?_ | refine JC.region ?_ | refine JC.block ?_ | refine JC.skip ?_ | refine JC.exit ?_ | refine JL.nil ?_ | refine JE.next ?_ | refine JE.blk_normal ?_ | refine JE.then_exit ?_ | refine JE.blk_hit ?_ | refine JE.blk_miss rfl ?_ | refine JE.then_ret ?_ | refine JE.blk_ret ?_ | refine JC.label ?_ | refine JL.gon rfl rfl ?_ | refine JL.gskip rfl rfl rfl rfl ?_ | refine JL.gskipU rfl rfl rfl rfl ?_)
    refine JC.cond rfl (fun _ => ?_) (fun h => by cases h)
    repeat (first | refine JL.q (by first | (apply OQ.move; exact rfl) | (apply OQ.assign; exact rfl) | (apply OQ.len; exact rfl; exact rfl) | (apply OQ.addN; exact rfl; exact rfl; exact (by (try simp only []); omega)) | (apply OQ.subN; exact rfl; exact rfl; exact (by (try simp only []); omega); exact (by (try simp only []); omega))) rfl ?_ | refine JC.seq ?_ | refine JC.region ?_ | refine JC.block ?_ | refine JC.skip ?_ | refine JC.exit ?_ | refine JL.nil ?_ | refine JE.next ?_ | refine JE.blk_normal ?_ | refine JE.then_exit ?_ | refine JE.blk_hit ?_ | refine JE.blk_miss rfl ?_ | refine JE.then_ret ?_ | refine JE.blk_ret ?_ | refine JC.label ?_ | refine JL.gon rfl rfl ?_ | refine JL.gskip rfl rfl rfl rfl ?_ | refine JL.gskipU rfl rfl rfl rfl ?_)
    refine JC.ret ?_
    repeat (first | refine JL.q (by first | (apply OQ.move; exact rfl) | (apply OQ.assign; exact rfl) | (apply OQ.len; exact rfl; exact rfl) | (apply OQ.addN; exact rfl; exact rfl; exact (by (try simp only []); omega)) | (apply OQ.subN; exact rfl; exact rfl; exact (by (try simp only []); omega); exact (by (try simp only []); omega))) rfl ?_ | refine JC.seq ?_ | refine JC.region ?_ | refine JC.block ?_ | refine JC.skip ?_ | refine JC.exit ?_ | refine JL.nil ?_ | refine JE.next ?_ | refine JE.blk_normal ?_ | refine JE.then_exit ?_ | refine JE.blk_hit ?_ | refine JE.blk_miss rfl ?_ | refine JE.then_ret ?_ | refine JE.blk_ret ?_ | refine JC.label ?_ | refine JL.gon rfl rfl ?_ | refine JL.gskip rfl rfl rfl rfl ?_ | refine JL.gskipU rfl rfl rfl rfl ?_)
    exact JE.ret2 rfl (RV.tmp rfl) (RV.tmp rfl) fun w' hw => ⟨rfl, hw.chg⟩
theorem cpw_any (s : List Bt) (c : Bt) (w : World) : Calls Tryd.prog 66 [Z s, Z [c]].toArray w fun e w' => e = .returned (cpV c s) ∧ Ext w w' := by
  refine enter (n := 11) Tryd.func66 rfl rfl rfl (Holds.start w []) ?_
  have hq := fun w' => scp_any s c w'
  unfold cpV at hq ⊢
  by_cases h : s.head? = some c
  · simp only [h, if_true] at hq ⊢
    repeat (first | refine JL.q (by first | (apply OQ.callx (vs := [Z s, Z [c]]); exact goes_scp; exact rfl; exact (fun w' _ => hq w')) | (apply OQ.extract; exact rfl; exact rfl) | (apply OQ.move; exact rfl) | (apply OQ.assign; exact rfl) | (apply OQ.len; exact rfl; exact rfl) | (apply OQ.addN; exact rfl; exact rfl; exact (by (try simp only []); omega)) | (apply OQ.subN; exact rfl; exact rfl; exact (by (try simp only []); omega); exact (by (try simp only []); omega))) rfl ?_ | refine JC.seq ?_ | refine JC.region ?_ | refine JC.block ?_ | refine JC.skip ?_ | refine JC.exit ?_ | refine JL.nil ?_ | refine JE.next ?_ | refine JE.blk_normal ?_ | refine JE.then_exit ?_ | refine JE.blk_hit ?_ | refine JE.blk_miss rfl ?_ | refine JE.then_ret ?_ | refine JE.blk_ret ?_ | refine JC.label ?_ | refine JL.gon rfl rfl ?_ | refine JL.gskip rfl rfl rfl rfl ?_ | refine JL.gskipU rfl rfl rfl rfl ?_)
    exact JC.ret (JE.ret2 rfl (RV.tmp rfl) (RV.tmp rfl) fun w' hw => ⟨rfl, hw.chg⟩)
  · simp only [h, if_false] at hq ⊢
    repeat (first | refine JL.q (by first | (apply OQ.callx (vs := [Z s, Z [c]]); exact goes_scp; exact rfl; exact (fun w' _ => hq w')) | (apply OQ.extract; exact rfl; exact rfl) | (apply OQ.move; exact rfl) | (apply OQ.assign; exact rfl) | (apply OQ.len; exact rfl; exact rfl) | (apply OQ.addN; exact rfl; exact rfl; exact (by (try simp only []); omega)) | (apply OQ.subN; exact rfl; exact rfl; exact (by (try simp only []); omega); exact (by (try simp only []); omega))) rfl ?_ | refine JC.seq ?_ | refine JC.region ?_ | refine JC.block ?_ | refine JC.skip ?_ | refine JC.exit ?_ | refine JL.nil ?_ | refine JE.next ?_ | refine JE.blk_normal ?_ | refine JE.then_exit ?_ | refine JE.blk_hit ?_ | refine JE.blk_miss rfl ?_ | refine JE.then_ret ?_ | refine JE.blk_ret ?_ | refine JC.label ?_ | refine JL.gon rfl rfl ?_ | refine JL.gskip rfl rfl rfl rfl ?_ | refine JL.gskipU rfl rfl rfl rfl ?_)
    exact JC.ret (JE.ret2 rfl (RV.tmp rfl) (RV.tmp rfl) fun w' hw => ⟨rfl, hw.chg⟩)
set_option maxHeartbeats 2000000 in
theorem shs_any (s : List Bt) (c : Bt) (w : World) (hl : s.length < 9223372036854775808) : Calls Tryd.prog 115 [Z s, Z [c]].toArray w fun e w' => e = .returned (.bool (decide (s.getLast? = some c))) ∧ Ext w w' := by
  refine enter (n := 21) Tryd.func115 rfl rfl rfl (Holds.start w []) ?_
  rw [last_is]
  cases h1 : decide ((1 : Int) ≤ (s.length : Int))
  · repeat (first | refine JL.q (by first | (apply OQ.lenS; exact Tryd.underlying9; exact rfl) | (apply OQ.geqB (b := 1); exact rfl; exact rfl; exact h1) | (apply OQ.pick_f; exact rfl; exact rfl) | (apply OQ.move; exact rfl) | (apply OQ.assign; exact rfl) | (apply OQ.len; exact rfl; exact rfl) | (apply OQ.addN; exact rfl; exact rfl; exact (by (try simp only []); omega)) | (apply OQ.subN; exact rfl; exact rfl; exact (by (try simp only []); omega); exact (by (try simp only []); omega))) rfl ?_ | refine JC.seq ?_ | refine JC.region ?_ | refine JC.block ?_ | refine JC.skip ?_ | refine JC.exit ?_ | refine JL.nil ?_ | refine JE.next ?_ | refine JE.blk_normal ?_ | refine JE.then_exit ?_ | refine JE.blk_hit ?_ | refine JE.blk_miss rfl ?_ | refine JE.then_ret ?_ | refine JE.blk_ret ?_ | refine JC.label ?_ | refine JL.gon rfl rfl ?_ | refine JL.gskip rfl rfl rfl rfl ?_ | refine JL.gskipU rfl rfl rfl rfl ?_)
    exact JC.ret (JE.ret1 rfl (RV.tmp rfl) fun w' hw => ⟨rfl, hw.chg⟩)
  · have hle : 1 ≤ s.length := by have := of_decide_eq_true h1; omega
    have hsub : s.length - 1 ≤ s.length := Nat.sub_le _ _
    cases h2 : decide (s.drop (s.length - 1) = [c])
    all_goals (repeat (first | refine JL.q (by first | (apply OQ.lenS; exact Tryd.underlying9; exact rfl) | (apply OQ.geqB (b := 1); exact rfl; exact rfl; exact h1) | (apply OQ.subN (b := 1); exact rfl; exact rfl; exact hle; exact hl) | (apply OQ.subS_lo (i := s.length - 1); exact Tryd.underlying9; exact rfl; exact rfl; exact hsub) | (apply OQ.eqSB; exact rfl; exact rfl; exact h2) | (apply OQ.pick_t; exact rfl; exact rfl) | (apply OQ.move; exact rfl) | (apply OQ.assign; exact rfl) | (apply OQ.len; exact rfl; exact rfl) | (apply OQ.addN; exact rfl; exact rfl; exact (by (try simp only []); omega)) | (apply OQ.subN; exact rfl; exact rfl; exact (by (try simp only []); omega); exact (by (try simp only []); omega))) rfl ?_ | refine JC.seq ?_ | refine JC.region ?_ | refine JC.block ?_ | refine JC.skip ?_ | refine JC.exit ?_ | refine JL.nil ?_ | refine JE.next ?_ | refine JE.blk_normal ?_ | refine JE.then_exit ?_ | refine JE.blk_hit ?_ | refine JE.blk_miss rfl ?_ | refine JE.then_ret ?_ | refine JE.blk_ret ?_ | refine JC.label ?_ | refine JL.gon rfl rfl ?_ | refine JL.gskip rfl rfl rfl rfl ?_ | refine JL.gskipU rfl rfl rfl rfl ?_))
    all_goals exact JC.ret (JE.ret1 rfl (RV.tmp rfl) fun w' hw => ⟨rfl, hw.chg⟩)
def csV (c : Bt) (s : List Bt) : Value := if s.getLast? = some c then .tuple #[Z s.dropLast, .bool true] else .tuple #[Z s, .bool false]
theorem scs_any (s : List Bt) (c : Bt) (w : World) (hl : s.length < 9223372036854775808) : Calls Tryd.prog 91 [Z s, Z [c]].toArray w fun e w' => e = .returned (csV c s) ∧ Ext w w' := by
  refine enter (n := 18) Tryd.func91 rfl rfl rfl (Holds.start w []) ?_
  have hq := fun w' => shs_any s c w' hl
  unfold csV
  by_cases h : s.getLast? = some c
  · simp only [h, decide_true, if_true] at hq ⊢
    have hle : 1 ≤ s.length := by
      cases s with
      | nil => cases h
      | cons d r => simp
    have hsub : s.length - 1 ≤ s.length := Nat.sub_le _ _
    repeat (first | refine JL.q (by first | (apply OQ.callx (vs := [Z s, Z [c]]); exact goes_shs; exact rfl; exact (fun w' _ => hq w')) | (apply OQ.not; exact rfl) | (apply OQ.move; exact rfl) | (apply OQ.assign; exact rfl) | (apply OQ.len; exact rfl; exact rfl) | (apply OQ.addN; exact rfl; exact rfl; exact (by (try simp only []); omega)) | (apply OQ.subN; exact rfl; exact rfl; exact (by (try simp only []); omega); exact (by (try simp only []); omega))) rfl ?_ | refine JC.seq ?_ | refine JC.region ?_ | refine JC.block ?_ | refine JC.skip ?_ | refine JC.exit ?_ | refine JL.nil ?_ | refine JE.next ?_ | refine JE.blk_normal ?_ | refine JE.then_exit ?_ | refine JE.blk_hit ?_ | refine JE.blk_miss rfl ?_ | refine JE.then_ret ?_ | refine JE.blk_ret ?_ | refine JC.label ?_ | refine JL.gon rfl rfl ?_ | refine JL.gskip rfl rfl rfl rfl ?_ | refine JL.gskipU rfl rfl rfl rfl ?_)
    refine JC.cond rfl (fun h => by cases h) (fun _ => ?_)
    repeat (first | refine JL.q (by first | (apply OQ.lenS; exact Tryd.underlying9; exact rfl) | (apply OQ.subN (b := 1); exact rfl; exact rfl; exact hle; exact hl) | (apply OQ.subS_hi (j := s.length - 1); exact Tryd.underlying9; exact rfl; exact rfl; exact hsub) | (apply OQ.move; exact rfl) | (apply OQ.assign; exact rfl) | (apply OQ.len; exact rfl; exact rfl) | (apply OQ.addN; exact rfl; exact rfl; exact (by (try simp only []); omega)) | (apply OQ.subN; exact rfl; exact rfl; exact (by (try simp only []); omega); exact (by (try simp only []); omega))) rfl ?_ | refine JC.seq ?_ | refine JC.region ?_ | refine JC.block ?_ | refine JC.skip ?_ | refine JC.exit ?_ | refine JL.nil ?_ | refine JE.next ?_ | refine JE.blk_normal ?_ | refine JE.then_exit ?_ | refine JE.blk_hit ?_ | refine JE.blk_miss rfl ?_ | refine JE.then_ret ?_ | refine JE.blk_ret ?_ | refine JC.label ?_ | refine JL.gon rfl rfl ?_ | refine JL.gskip rfl rfl rfl rfl ?_ | refine JL.gskipU rfl rfl rfl rfl ?_)
    refine JC.ret ?_
    repeat (first | refine JL.q (by first | (apply OQ.move; exact rfl) | (apply OQ.assign; exact rfl) | (apply OQ.len; exact rfl; exact rfl) | (apply OQ.addN; exact rfl; exact rfl; exact (by (try simp only []); omega)) | (apply OQ.subN; exact rfl; exact rfl; exact (by (try simp only []); omega); exact (by (try simp only []); omega))) rfl ?_ | refine JC.seq ?_ | refine JC.region ?_ | refine JC.block ?_ | refine JC.skip ?_ | refine JC.exit ?_ | refine JL.nil ?_ | refine JE.next ?_ | refine JE.blk_normal ?_ | refine JE.then_exit ?_ | refine JE.blk_hit ?_ | refine JE.blk_miss rfl ?_ | refine JE.then_ret ?_ | refine JE.blk_ret ?_ | refine JC.label ?_ | refine JL.gon rfl rfl ?_ | refine JL.gskip rfl rfl rfl rfl ?_ | refine JL.gskipU rfl rfl rfl rfl ?_)
    refine JE.ret2 rfl (RV.tmp rfl) (RV.tmp rfl) fun w' hw => ⟨?_, hw.chg⟩
    rw [List.dropLast_eq_take]
  · simp only [h, decide_false, if_false] at hq ⊢
    repeat (first | refine JL.q (by first | (apply OQ.callx (vs := [Z s, Z [c]]); exact goes_shs; exact rfl; exact (fun w' _ => hq w')) | (apply OQ.not; exact rfl) | (apply OQ.move; exact rfl) | (apply OQ.assign; exact rfl) | (apply OQ.len; exact rfl; exact rfl) | (apply OQ.addN; exact rfl; exact rfl; exact (by (try simp only []); omega)) | (apply OQ.subN; exact rfl; exact rfl; exact (by (try simp only []); omega); exact (by (try simp only []); omega))) rfl ?_ | refine JC.seq ?_ | refine JC.region ?_ | refine JC.block ?_ | refine JC.skip ?_ | refine JC.exit ?_ | refine JL.nil ?_ | refine JE.next ?_ | refine JE.blk_normal ?_ | refine JE.then_exit ?_ | refine JE.blk_hit ?_ | refine JE.blk_miss rfl ?_ | refine JE.then_ret ?_ | refine JE.blk_ret ?_ | refine JC.label ?_ | refine JL.gon rfl rfl ?_ | refine JL.gskip rfl rfl rfl rfl ?_ | refine JL.gskipU rfl rfl rfl rfl ?_)
    refine JC.cond rfl (fun _ => ?_) (fun h => by cases h)
    repeat (first | refine JL.q (by first | (apply OQ.move; exact rfl) | (apply OQ.assign; exact rfl) | (apply OQ.len; exact rfl; exact rfl) | (apply OQ.addN; exact rfl; exact rfl; exact (by (try simp only []); omega)) | (apply OQ.subN; exact rfl; exact rfl; exact (by (try simp only []); omega); exact (by (try simp only []); omega))) rfl ?_ | refine JC.seq ?_ | refine JC.region ?_ | refine JC.block ?_ | refine JC.skip ?_ | refine JC.exit ?_ | refine JL.nil ?_ | refine JE.next ?_ | refine JE.blk_normal ?_ | refine JE.then_exit ?_ | refine JE.blk_hit ?_ | refine JE.blk_miss rfl ?_ | refine JE.then_ret ?_ | refine JE.blk_ret ?_ | refine JC.label ?_ | refine JL.gon rfl rfl ?_ | refine JL.gskip rfl rfl rfl rfl ?_ | refine JL.gskipU rfl rfl rfl rfl ?_)
    refine JC.ret ?_
    repeat (first | refine JL.q (by first | (apply OQ.move; exact rfl) | (apply OQ.assign; exact rfl) | (apply OQ.len; exact rfl; exact rfl) | (apply OQ.addN; exact rfl; exact rfl; exact (by (try simp only []); omega)) | (apply OQ.subN; exact rfl; exact rfl; exact (by (try simp only []); omega); exact (by (try simp only []); omega))) rfl ?_ | refine JC.seq ?_ | refine JC.region ?_ | refine JC.block ?_ | refine JC.skip ?_ | refine JC.exit ?_ | refine JL.nil ?_ | refine JE.next ?_ | refine JE.blk_normal ?_ | refine JE.then_exit ?_ | refine JE.blk_hit ?_ | refine JE.blk_miss rfl ?_ | refine JE.then_ret ?_ | refine JE.blk_ret ?_ | refine JC.label ?_ | refine JL.gon rfl rfl ?_ | refine JL.gskip rfl rfl rfl rfl ?_ | refine JL.gskipU rfl rfl rfl rfl ?_)
    exact JE.ret2 rfl (RV.tmp rfl) (RV.tmp rfl) fun w' hw => ⟨rfl, hw.chg⟩
theorem csw_any (s : List Bt) (c : Bt) (w : World) (hl : s.length < 9223372036854775808) : Calls Tryd.prog 57 [Z s, Z [c]].toArray w fun e w' => e = .returned (csV c s) ∧ Ext w w' := by
  refine enter (n := 11) Tryd.func57 rfl rfl rfl (Holds.start w []) ?_
  have hq := fun w' => scs_any s c w' hl
  unfold csV at hq ⊢
  by_cases h : s.getLast? = some c
  · simp only [h, if_true] at hq ⊢
    repeat (first | refine JL.q (by first | (apply OQ.callx (vs := [Z s, Z [c]]); exact goes_scs; exact rfl; exact (fun w' _ => hq w')) | (apply OQ.extract; exact rfl; exact rfl) | (apply OQ.move; exact rfl) | (apply OQ.assign; exact rfl) | (apply OQ.len; exact rfl; exact rfl) | (apply OQ.addN; exact rfl; exact rfl; exact (by (try simp only []); omega)) | (apply OQ.subN; exact rfl; exact rfl; exact (by (try simp only []); omega); exact (by (try simp only []); omega))) rfl ?_ | refine JC.seq ?_ | refine JC.region ?_ | refine JC.block ?_ | refine JC.skip ?_ | refine JC.exit ?_ | refine JL.nil ?_ | refine JE.next ?_ | refine JE.blk_normal ?_ | refine JE.then_exit ?_ | refine JE.blk_hit ?_ | refine JE.blk_miss rfl ?_ | refine JE.then_ret ?_ | refine JE.blk_ret ?_ | refine JC.label ?_ | refine JL.gon rfl rfl ?_ | refine JL.gskip rfl rfl rfl rfl ?_ | refine JL.gskipU rfl rfl rfl rfl ?_)
    exact JC.ret (JE.ret2 rfl (RV.tmp rfl) (RV.tmp rfl) fun w' hw => ⟨rfl, hw.chg⟩)
  · simp only [h, if_false] at hq ⊢
    repeat (first | refine JL.q (by first | (apply OQ.callx (vs := [Z s, Z [c]]); exact goes_scs; exact rfl; exact (fun w' _ => hq w')) | (apply OQ.extract; exact rfl; exact rfl) | (apply OQ.move; exact rfl) | (apply OQ.assign; exact rfl) | (apply OQ.len; exact rfl; exact rfl) | (apply OQ.addN; exact rfl; exact rfl; exact (by (try simp only []); omega)) | (apply OQ.subN; exact rfl; exact rfl; exact (by (try simp only []); omega); exact (by (try simp only []); omega))) rfl ?_ | refine JC.seq ?_ | refine JC.region ?_ | refine JC.block ?_ | refine JC.skip ?_ | refine JC.exit ?_ | refine JL.nil ?_ | refine JE.next ?_ | refine JE.blk_normal ?_ | refine JE.then_exit ?_ | refine JE.blk_hit ?_ | refine JE.blk_miss rfl ?_ | refine JE.then_ret ?_ | refine JE.blk_ret ?_ | refine JC.label ?_ | refine JL.gon rfl rfl ?_ | refine JL.gskip rfl rfl rfl rfl ?_ | refine JL.gskipU rfl rfl rfl rfl ?_)
    exact JC.ret (JE.ret2 rfl (RV.tmp rfl) (RV.tmp rfl) fun w' hw => ⟨rfl, hw.chg⟩)
/-! ### a byte's last place -/
theorem goes_lastb : Goes Tryd.prog 92 := ⟨_, Tryd.func92, rfl, by kernel_rfl⟩
theorem goes_lastw : Goes Tryd.prog 58 := ⟨_, Tryd.func58, rfl, by kernel_rfl⟩
set_option maxHeartbeats 2000000 in
theorem lastb_any (s : List Bt) (c : Bt) (w : World) (hl : s.length < 9223372036854775808) : Calls Tryd.prog 92 [Z s, U8 c].toArray w fun e w' => e = .returned (I (ixL c s)) ∧ Ext w w' := by
  refine enter (n := 19) Tryd.func92 rfl rfl rfl (Holds.start w []) ?_
  repeat (first | refine JL.q (by first | (apply OQ.lenS; exact Tryd.underlying9; exact rfl) | (apply OQ.subI (a := (s.length : Int)) (b := 1); exact rfl; exact rfl; exact (by omega); exact (by omega)) | (apply OQ.move; exact rfl) | (apply OQ.assign; exact rfl) | (apply OQ.len; exact rfl; exact rfl) | (apply OQ.addN; exact rfl; exact rfl; exact (by (try simp only []); omega)) | (apply OQ.subN; exact rfl; exact rfl; exact (by (try simp only []); omega); exact (by (try simp only []); omega))) rfl ?_ | refine JC.seq ?_ | refine JC.region ?_ | refine JC.block ?_ | refine JC.skip ?_ | refine JC.exit ?_ | refine JL.nil ?_ | refine JE.next ?_ | refine JE.blk_normal ?_ | refine JE.then_exit ?_ | refine JE.blk_hit ?_ | refine JE.blk_miss rfl ?_ | refine JE.then_ret ?_ | refine JE.blk_ret ?_ | refine JC.label ?_ | refine JL.gon rfl rfl ?_ | refine JL.gskip rfl rfl rfl rfl ?_ | refine JL.gskipU rfl rfl rfl rfl ?_)
  refine JC.loop (fun i : Int => [(0, Z s), (1, U8 c), (5, I i)]) (fun _ => []) (fun i => (i + 1).toNat) (fun i => -1 ≤ i ∧ i < s.length ∧ (la c s : Int) = (s.length : Int) - 1 - i + la c (s.take (i + 1).toNat)) ((s.length : Int) - 1) ⟨by omega, by omega, by rw [show ((s.length : Int) - 1 + 1).toNat = s.length by omega, List.take_length]; omega⟩ (by repeat (first | exact SubE.nil | refine SubE.cons _ _ _ rfl ?_)) (Less.refl _) ?_
  rintro i ⟨h1, h2, h3⟩
  cases g : decide ((0 : Int) ≤ i)
  · have hi : i = -1 := by have := of_decide_eq_false g; omega
    subst hi
    have e : ixL c s = -1 := by
      unfold ixL
      have : la c (s.take ((-1 : Int) + 1).toNat) = 0 := rfl
      rw [this] at h3
      omega
    rw [e]
    repeat (first | refine JL.q (by first | (apply OQ.geqB (b := 0); exact rfl; exact rfl; exact g) | (apply OQ.move; exact rfl) | (apply OQ.assign; exact rfl) | (apply OQ.len; exact rfl; exact rfl) | (apply OQ.addN; exact rfl; exact rfl; exact (by (try simp only []); omega)) | (apply OQ.subN; exact rfl; exact rfl; exact (by (try simp only []); omega); exact (by (try simp only []); omega))) rfl ?_ | refine JC.seq ?_ | refine JC.region ?_ | refine JC.block ?_ | refine JC.skip ?_ | refine JC.exit ?_ | refine JL.nil ?_ | refine JE.next ?_ | refine JE.blk_normal ?_ | refine JE.then_exit ?_ | refine JE.blk_hit ?_ | refine JE.blk_miss rfl ?_ | refine JE.then_ret ?_ | refine JE.blk_ret ?_ | refine JC.label ?_ | refine JL.gon rfl rfl ?_ | refine JL.gskip rfl rfl rfl rfl ?_ | refine JL.gskipU rfl rfl rfl rfl ?_)
    refine JC.cond rfl (fun h => by cases h) (fun _ => ?_)
    repeat (first | refine JL.q (by first | (apply OQ.move; exact rfl) | (apply OQ.assign; exact rfl) | (apply OQ.len; exact rfl; exact rfl) | (apply OQ.addN; exact rfl; exact rfl; exact (by (try simp only []); omega)) | (apply OQ.subN; exact rfl; exact rfl; exact (by (try simp only []); omega); exact (by (try simp only []); omega))) rfl ?_ | refine JC.seq ?_ | refine JC.region ?_ | refine JC.block ?_ | refine JC.skip ?_ | refine JC.exit ?_ | refine JL.nil ?_ | refine JE.next ?_ | refine JE.blk_normal ?_ | refine JE.then_exit ?_ | refine JE.blk_hit ?_ | refine JE.blk_miss rfl ?_ | refine JE.then_ret ?_ | refine JE.blk_ret ?_ | refine JC.label ?_ | refine JL.gon rfl rfl ?_ | refine JL.gskip rfl rfl rfl rfl ?_ | refine JL.gskipU rfl rfl rfl rfl ?_)
    refine JC.ret ?_
    exact JE.ret1 rfl (RV.tmp rfl) fun w' hw => ⟨rfl, hw.chg⟩
  · obtain ⟨k, rfl⟩ : ∃ k : Nat, i = k := ⟨i.toNat, by have := of_decide_eq_true g; omega⟩
    have hk : k < s.length := by omega
    have ht : s.take ((k : Int) + 1).toNat = s.take k ++ [s.getD k 0] := by
      rw [show ((k : Int) + 1).toNat = k + 1 by omega]
      exact take_succ_getD s hk
    rw [ht, la_snoc] at h3
    have i0 : ∀ {n : Nat} {E : Env} {C : World → Prop} {dst : Option Tmp} {ty : TypeId} {pos : String} {aft : Array Edge} {g : Option (Nat × Bool)} {x y : Operand}, ev E x = some (Z s) → ev E y = some (I k) → OQ Tryd.prog n E C ⟨dst, .index 9 x y, ty, pos, aft, g⟩ (U8 (s.getD k 0)) := fun hx hy => OQ.idxZ Tryd.underlying9 hx hy hk
    generalize s.getD k 0 = d at h3 i0
    cases g2 : decide (d = c)
    · rw [if_neg (of_decide_eq_false g2)] at h3
      repeat (first | refine JL.q (by first | (apply OQ.geqB (b := 0); exact rfl; exact rfl; exact g) | (apply OQ.move; exact rfl) | (apply OQ.assign; exact rfl) | (apply OQ.len; exact rfl; exact rfl) | (apply OQ.addN; exact rfl; exact rfl; exact (by (try simp only []); omega)) | (apply OQ.subN; exact rfl; exact rfl; exact (by (try simp only []); omega); exact (by (try simp only []); omega))) rfl ?_ | refine JC.seq ?_ | refine JC.region ?_ | refine JC.block ?_ | refine JC.skip ?_ | refine JC.exit ?_ | refine JL.nil ?_ | refine JE.next ?_ | refine JE.blk_normal ?_ | refine JE.then_exit ?_ | refine JE.blk_hit ?_ | refine JE.blk_miss rfl ?_ | refine JE.then_ret ?_ | refine JE.blk_ret ?_ | refine JC.label ?_ | refine JL.gon rfl rfl ?_ | refine JL.gskip rfl rfl rfl rfl ?_ | refine JL.gskipU rfl rfl rfl rfl ?_)
      refine JC.cond rfl (fun _ => ?_) (fun h => by cases h)
      repeat (first | refine JL.q (by first | (apply i0; exact rfl; exact rfl) | (apply OQ.to; exact (OQ.eq8 rfl rfl); exact (congrArg Value.bool g2)) | (apply OQ.move; exact rfl) | (apply OQ.assign; exact rfl) | (apply OQ.len; exact rfl; exact rfl) | (apply OQ.addN; exact rfl; exact rfl; exact (by (try simp only []); omega)) | (apply OQ.subN; exact rfl; exact rfl; exact (by (try simp only []); omega); exact (by (try simp only []); omega))) rfl ?_ | refine JC.seq ?_ | refine JC.region ?_ | refine JC.block ?_ | refine JC.skip ?_ | refine JC.exit ?_ | refine JL.nil ?_ | refine JE.next ?_ | refine JE.blk_normal ?_ | refine JE.then_exit ?_ | refine JE.blk_hit ?_ | refine JE.blk_miss rfl ?_ | refine JE.then_ret ?_ | refine JE.blk_ret ?_ | refine JC.label ?_ | refine JL.gon rfl rfl ?_ | refine JL.gskip rfl rfl rfl rfl ?_ | refine JL.gskipU rfl rfl rfl rfl ?_)
      refine JC.cond rfl (fun h => by cases h) (fun _ => ?_)
      repeat (first | refine JL.q (by first | (apply OQ.subI (a := (k : Int)) (b := 1); exact rfl; exact rfl; exact (by omega); exact (by omega)) | (apply OQ.move; exact rfl) | (apply OQ.assign; exact rfl) | (apply OQ.len; exact rfl; exact rfl) | (apply OQ.addN; exact rfl; exact rfl; exact (by (try simp only []); omega)) | (apply OQ.subN; exact rfl; exact rfl; exact (by (try simp only []); omega); exact (by (try simp only []); omega))) rfl ?_ | refine JC.seq ?_ | refine JC.region ?_ | refine JC.block ?_ | refine JC.skip ?_ | refine JC.exit ?_ | refine JL.nil ?_ | refine JE.next ?_ | refine JE.blk_normal ?_ | refine JE.then_exit ?_ | refine JE.blk_hit ?_ | refine JE.blk_miss rfl ?_ | refine JE.then_ret ?_ | refine JE.blk_ret ?_ | refine JC.label ?_ | refine JL.gon rfl rfl ?_ | refine JL.gskip rfl rfl rfl rfl ?_ | refine JL.gskipU rfl rfl rfl rfl ?_)
      refine JE.again (i := (k : Int)) ((k : Int) - 1) ⟨by omega, by omega, ?_⟩ (by omega) (by repeat (first | exact SubE.nil | refine SubE.cons _ _ _ rfl ?_)) (Less.refl _)
      rw [show ((k : Int) - 1 + 1).toNat = k by omega]
      omega
    · rw [if_pos (of_decide_eq_true g2)] at h3
      have e : ixL c s = k := by
        unfold ixL
        omega
      rw [e]
      repeat (first | refine JL.q (by first | (apply OQ.geqB (b := 0); exact rfl; exact rfl; exact g) | (apply OQ.move; exact rfl) | (apply OQ.assign; exact rfl) | (apply OQ.len; exact rfl; exact rfl) | (apply OQ.addN; exact rfl; exact rfl; exact (by (try simp only []); omega)) | (apply OQ.subN; exact rfl; exact rfl; exact (by (try simp only []); omega); exact (by (try simp only []); omega))) rfl ?_ | refine JC.seq ?_ | refine JC.region ?_ | refine JC.block ?_ | refine JC.skip ?_ | refine JC.exit ?_ | refine JL.nil ?_ | refine JE.next ?_ | refine JE.blk_normal ?_ | refine JE.then_exit ?_ | refine JE.blk_hit ?_ | refine JE.blk_miss rfl ?_ | refine JE.then_ret ?_ | refine JE.blk_ret ?_ | refine JC.label ?_ | refine JL.gon rfl rfl ?_ | refine JL.gskip rfl rfl rfl rfl ?_ | refine JL.gskipU rfl rfl rfl rfl ?_)
      refine JC.cond rfl (fun _ => ?_) (fun h => by cases h)
      repeat (first | refine JL.q (by first | (apply i0; exact rfl; exact rfl) | (apply OQ.to; exact (OQ.eq8 rfl rfl); exact (congrArg Value.bool g2)) | (apply OQ.move; exact rfl) | (apply OQ.assign; exact rfl) | (apply OQ.len; exact rfl; exact rfl) | (apply OQ.addN; exact rfl; exact rfl; exact (by (try simp only []); omega)) | (apply OQ.subN; exact rfl; exact rfl; exact (by (try simp only []); omega); exact (by (try simp only []); omega))) rfl ?_ | refine JC.seq ?_ | refine JC.region ?_ | refine JC.block ?_ | refine JC.skip ?_ | refine JC.exit ?_ | refine JL.nil ?_ | refine JE.next ?_ | refine JE.blk_normal ?_ | refine JE.then_exit ?_ | refine JE.blk_hit ?_ | refine JE.blk_miss rfl ?_ | refine JE.then_ret ?_ | refine JE.blk_ret ?_ | refine JC.label ?_ | refine JL.gon rfl rfl ?_ | refine JL.gskip rfl rfl rfl rfl ?_ | refine JL.gskipU rfl rfl rfl rfl ?_)
      refine JC.cond rfl (fun _ => ?_) (fun h => by cases h)
      repeat (first | refine JL.q (by first | (apply OQ.move; exact rfl) | (apply OQ.assign; exact rfl) | (apply OQ.len; exact rfl; exact rfl) | (apply OQ.addN; exact rfl; exact rfl; exact (by (try simp only []); omega)) | (apply OQ.subN; exact rfl; exact rfl; exact (by (try simp only []); omega); exact (by (try simp only []); omega))) rfl ?_ | refine JC.seq ?_ | refine JC.region ?_ | refine JC.block ?_ | refine JC.skip ?_ | refine JC.exit ?_ | refine JL.nil ?_ | refine JE.next ?_ | refine JE.blk_normal ?_ | refine JE.then_exit ?_ | refine JE.blk_hit ?_ | refine JE.blk_miss rfl ?_ | refine JE.then_ret ?_ | refine JE.blk_ret ?_ | refine JC.label ?_ | refine JL.gon rfl rfl ?_ | refine JL.gskip rfl rfl rfl rfl ?_ | refine JL.gskipU rfl rfl rfl rfl ?_)
      refine JC.ret ?_
      repeat (first | refine JL.q (by first | (apply OQ.move; exact rfl) | (apply OQ.assign; exact rfl) | (apply OQ.len; exact rfl; exact rfl) | (apply OQ.addN; exact rfl; exact rfl; exact (by (try simp only []); omega)) | (apply OQ.subN; exact rfl; exact rfl; exact (by (try simp only []); omega); exact (by (try simp only []); omega))) rfl ?_ | refine JC.seq ?_ | refine JC.region ?_ | refine JC.block ?_ | refine JC.skip ?_ | refine JC.exit ?_ | refine JL.nil ?_ | refine JE.next ?_ | refine JE.blk_normal ?_ | refine JE.then_exit ?_ | refine JE.blk_hit ?_ | refine JE.blk_miss rfl ?_ | refine JE.then_ret ?_ | refine JE.blk_ret ?_ | refine JC.label ?_ | refine JL.gon rfl rfl ?_ | refine JL.gskip rfl rfl rfl rfl ?_ | refine JL.gskipU rfl rfl rfl rfl ?_)
      exact JE.ret1 rfl (RV.tmp rfl) fun w' hw => ⟨rfl, hw.chg⟩
theorem lastw_any (s : List Bt) (c : Bt) (w : World) (hl : s.length < 9223372036854775808) : Calls Tryd.prog 58 [Z s, U8 c].toArray w fun e w' => e = .returned (I (ixL c s)) ∧ Ext w w' := by
  refine enter (n := 8) Tryd.func58 rfl rfl rfl (Holds.start w []) ?_
  repeat (first | refine JL.q (by first | (apply OQ.callx (vs := [Z s, U8 c]); exact goes_lastb; exact rfl; exact (fun w' _ => lastb_any s c w' hl)) | (apply OQ.move; exact rfl) | (apply OQ.assign; exact rfl) | (apply OQ.len; exact rfl; exact rfl) | (apply OQ.addN; exact rfl; exact rfl; exact (by (try simp only []); omega)) | (apply OQ.subN; exact rfl; exact rfl; exact (by (try simp only []); omega); exact (by (try simp only []); omega))) rfl ?_ | refine JC.seq ?_ | refine JC.region ?_ | refine JC.block ?_ | refine JC.skip ?_ | refine JC.exit ?_ | refine JL.nil ?_ | refine JE.next ?_ | refine JE.blk_normal ?_ | refine JE.then_exit ?_ | refine JE.blk_hit ?_ | refine JE.blk_miss rfl ?_ | refine JE.then_ret ?_ | refine JE.blk_ret ?_ | refine JC.label ?_ | refine JL.gon rfl rfl ?_ | refine JL.gskip rfl rfl rfl rfl ?_ | refine JL.gskipU rfl rfl rfl rfl ?_)
  exact JC.ret (JE.ret1 rfl (RV.tmp rfl) fun w' hw => ⟨rfl, hw.chg⟩)
end Go.Proofs.YtchoiikhepjdiaaDoor
