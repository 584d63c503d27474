/-
  Of no statement by itself: the reference despatchref14: New, Write, Sync.
  Conditions: each theorem's own.
-/
import Derived.Test.YtopdkpeahhnihaaDskM
import Derived.Test.YtopdkpeahhnihaaSlgr
namespace Go.Proofs.Ytopdkpeahhnihaa
set_option maxRecDepth 10000
open Sl Dsk
structure Rp where
  p : Nat
  q1 : Nat
  c1 : Nat
  q2 : Nat
  c2 : Nat
  a1 : Acc
  a2 : Acc
def atc (ws : List (Nat × Bk)) : List (List Value) := ws.map fun w => [N w.1]
def whc (ws : List (Nat × Bk)) : List (List Value) := ws.map fun w => bc w.2
def rkE (y : Rp) (sn ls : List Bk) (ws : List (Nat × Bk)) : List Ent :=
  ⟨y.p, Row 44 [.slice (some ⟨y.q1, 0, none⟩) sn.length y.c1, .slice (some ⟨y.q2, 0, none⟩) ls.length y.c2, accV y.a1 (atc ws).length, accV y.a2 (whc ws).length], true⟩ :: ⟨y.q1, Sl.Own 32 64 sn.length y.c1 (bcs sn).flatten, true⟩ :: ⟨y.q2, Sl.Own 32 64 ls.length y.c2 (bcs ls).flatten, true⟩ :: (accC 3 1 y.a1 (atc ws) ++ accC 32 64 y.a2 (whc ws))
theorem rkE_wr (y : Rp) (sn ls : List Bk) (ws : List (Nat × Bk)) : ∀ e ∈ rkE y sn ls ws, e.wr = true := by
  intro e he
  rcases List.mem_cons.1 he with rfl | he
  · rfl
  rcases List.mem_cons.1 he with rfl | he
  · rfl
  rcases List.mem_cons.1 he with rfl | he
  · rfl
  rcases List.mem_append.1 he with he | he
  · exact accC_wr _ _ _ _ e he
  · exact accC_wr _ _ _ _ e he
structure RkOk (y : Rp) (sn ls : List Bk) (ws : List (Nat × Bk)) : Prop where
  ok : Ok ls ws
  sb : ∀ x ∈ sn, x.length = 64
  sl : sn.length = ls.length
  n1 : ls.length ≤ 65536
  m : ws.length ≤ 1000000
  a1 : y.a1 = none → ws = []
  a2 : y.a2 = none → ws = []
theorem atc_n (ws : List (Nat × Bk)) : (atc ws).length = ws.length := List.length_map _
theorem whc_n (ws : List (Nat × Bk)) : (whc ws).length = ws.length := List.length_map _
theorem rkZ : zc Try.prog 44 = some [.slice none 0 0, .slice none 0 0, .slice none 0 0, .slice none 0 0] := by kernel_rfl
theorem isC : scal Try.prog 42 = true := by kernel_rfl
theorem is1 : szT Try.prog 42 = some 1 := by kernel_rfl
theorem sb_len {sn : List Bk} (h : ∀ x ∈ sn, x.length = 64) : ∀ c ∈ bcs sn, c.length = 64 := bcs_len (pd := []) ⟨h, nofun⟩
theorem OQ.buildRk {n : Nat} {E : Env} {C : World → Prop} {dst : Option Tmp} {ty : TypeId} {pos : String} {aft : Array Edge} {g : Option (Nat × Bool)} {x y : Operand} {a1 a2 : Option Addr} {l1 c1 l2 c2 : Nat} (hx : ev E x = some (.slice a1 l1 c1)) (hy : ev E y = some (.slice a2 l2 c2)) :
    OQ Try.prog n E C ⟨dst, .build 44 #[(0, x), (1, y)], ty, pos, aft, g⟩ (.agg [.slice a1 l1 c1, .slice a2 l2 c2, .slice none 0 0, .slice none 0 0].toArray) :=
  OQ.run fun a ha w _ => by
    have h1 := ha.eval hx
    have h2 := ha.eval hy
    have r := run_build (P := Try.prog) w 44 #[(0, .slice a1 l1 c1), (1, .slice a2 l2 c2)] [.slice a1 l1 c1, .slice a2 l2 c2, .slice none 0 0, .slice none 0 0].toArray (by kernel_rfl)
    simp [execOp, h1, h2, r]
theorem goes_rnew : Goes Try.prog 12 := ⟨_, Try.func12, rfl, by kernel_rfl⟩
set_option maxHeartbeats 8000000 in
theorem rnew_any (n : Nat) (h2 : n ≤ 65536) (w : World) : Calls Try.prog 12 [N n].toArray w fun e w' => ∃ y : Rp, e = .returned (Pt y.p 0) ∧ (y.a1 = none ∧ y.a2 = none) ∧ Holds w [] (rkE y (newB n) (newB n) []) w' := by
  refine enter (n := 9) Try.func12 rfl rfl rfl (Holds.start w []) ?_
  repeat (first | refine JL.q (by first | (apply OQ.move; exact rfl) | (apply OQ.assign; exact rfl) | (apply OQ.nilc; exact rfl) | (apply OQ.len; exact rfl; exact rfl) | (apply OQ.lssN; exact rfl; exact rfl) | (apply OQ.gtrN; exact rfl; exact rfl) | (apply OQ.idxS; exact rfl; exact rfl; exact rfl; exact rfl; exact (by (try simp only []); omega)) | (apply OQ.fld; exact rfl; exact rfl; exact rfl; exact (by decide); exact rfl)) rfl ?_ | refine JC.seq ?_ | refine JC.region ?_ | refine JC.block ?_ | refine JC.skip ?_ | refine JC.exit ?_ | refine JL.nil ?_ | refine JE.next ?_ | refine JE.blk_normal ?_ | refine JE.then_exit ?_ | refine JE.blk_hit ?_ | refine JE.blk_miss rfl ?_ | refine JE.then_ret ?_ | refine JE.blk_ret ?_ | refine JC.label ?_ | refine JL.gon rfl rfl ?_ | refine JL.gskip rfl rfl rfl rfl ?_ | refine JL.gskipU rfl rfl rfl rfl ?_)
  let vs : Nat → Nat × Nat × Nat → Value := fun j y => match j with
    | 0 => N n
    | 1 => .slice (some ⟨y.1, 0, none⟩) n n
    | 2 => N n
    | 3 => .slice (some ⟨y.1, 0, none⟩) n n
    | 4 => .agg [.slice (some ⟨y.1, 0, none⟩) n n, .slice (some ⟨y.2.1, 0, none⟩) n n, .slice none 0 0, .slice none 0 0].toArray
    | 5 => Pt y.2.2 0
    | 6 => Pt y.2.2 0
    | _ => N 0
  let Ms : Nat → Nat × Nat × Nat → List Ent := fun j y => match j with
    | 1 => [⟨y.1, Row 32 (List.replicate (n * 64) (.int .u8 0)), true⟩]
    | 3 => [⟨y.1, Row 32 (List.replicate (n * 64) (.int .u8 0)), true⟩]
    | 4 => [⟨y.2.1, Row 32 (List.replicate (n * 64) (.int .u8 0)), true⟩]
    | 5 => [⟨y.2.2, Row 44 [.slice (some ⟨y.1, 0, none⟩) n n, .slice (some ⟨y.2.1, 0, none⟩) n n, .slice none 0 0, .slice none 0 0], true⟩]
    | _ => []
  refine JC.growR (g := ⟨[(0, N n)], 7, vs, Ms, (fun j => match j with | 1 => [(0, 3)] | 3 => [(2, 5)] | 4 => [(1, 4), (3, 6)] | 5 => [(4, 7)] | 6 => [(5, 8)] | _ => []), (fun j => match j with | 4 => [3] | _ => []), (fun j => match j with | 4 => [3] | _ => []), (fun j => match j with | 4 => some 1 | 5 => some 4 | 6 => some 5 | _ => none), fun _ => [], fun i a b => match i with | 4 => a.1 = b.1 | 5 => a.1 = b.1 ∧ a.2.1 = b.2.1 | 6 => a.2.2 = b.2.2 | _ => True⟩) [(6, 2)] [1, 4, 5] mixT (by repeat (first | exact SubE.nil | refine SubE.cons _ _ _ rfl ?_)) (fun _ _ => .nil) ?_ (by kernel_rfl) (by kernel_rfl) (by kernel_rfl) ?_ ?_
  · exact .nil _
  · refine ⟨?_, ?_, ?_, ?_, ?_, ?_, ?_, trivial⟩
    · (intro xx EF MF Q kk; (try refine JL.gon rfl rfl ?_); exact JL.q (OQ.move rfl) rfl (JL.nil (kk default nofun)))
    · (intro xx EF MF Q kk; exact JL.make (c := n) (sz := 64) Try.underlying41 dkI rfl (by decide) rfl rfl (by omega) (by omega) rfl fun b _ => JL.nil (kk (b, 0, 0) nofun))
    · (intro xx EF MF Q kk; (try refine JL.gon rfl rfl ?_); exact JL.q (OQ.move rfl) rfl (JL.nil (kk default nofun)))
    · (intro xx EF MF Q kk; exact JL.make (c := n) (sz := 64) Try.underlying41 dkI rfl (by decide) rfl rfl (by omega) (by omega) rfl fun b _ => JL.nil (kk (b, 0, 0) nofun))
    · (intro xx EF MF Q kk; exact JL.q (OQ.buildRk rfl rfl) rfl (JL.nil (kk ((xx 1).1, (xx 3).1, 0) (fun k h => by cases h; rfl))))
    · (intro xx EF MF Q kk; exact JL.box (r := [.slice (some ⟨(xx 4).1, 0, none⟩) n n, .slice (some ⟨(xx 4).2.1, 0, none⟩) n n, .slice none 0 0, .slice none 0 0]) rfl rfl rfl fun b _ => JL.nil (kk ((xx 4).1, (xx 4).2.1, b) (fun k h => by cases h; exact ⟨rfl, rfl⟩)))
    · (intro xx EF MF Q kk; exact JL.q (OQ.assign rfl) rfl (JL.nil (kk (xx 5) (fun k h => by cases h; rfl))))
  · intro xx hx
    have e4 : (xx 4).1 = (xx 1).1 := hx 4 1 (by decide) rfl
    have e5 : (xx 5).1 = (xx 4).1 ∧ (xx 5).2.1 = (xx 4).2.1 := hx 5 4 (by decide) rfl
    have e6 : (xx 6).2.2 = (xx 5).2.2 := hx 6 5 (by decide) rfl
    show JE _ _ _ _ _ [(2, Pt (xx 6).2.2 0), (0, N n)] [⟨(xx 1).1, Row 32 (List.replicate (n * 64) (.int .u8 0)), true⟩, ⟨(xx 4).2.1, Row 32 (List.replicate (n * 64) (.int .u8 0)), true⟩, ⟨(xx 5).2.2, Row 44 [.slice (some ⟨(xx 5).1, 0, none⟩) n n, .slice (some ⟨(xx 5).2.1, 0, none⟩) n n, .slice none 0 0, .slice none 0 0], true⟩]
    rw [e6, e5.1, e5.2, e4]
    generalize (xx 1).1 = q1
    generalize (xx 4).2.1 = q2
    generalize (xx 5).2.2 = p
    clear hx e4 e5 e6 xx vs Ms
    (repeat (first | refine JL.q (by first | (apply OQ.move; exact rfl) | (apply OQ.assign; exact rfl) | (apply OQ.nilc; exact rfl) | (apply OQ.len; exact rfl; exact rfl) | (apply OQ.lssN; exact rfl; exact rfl) | (apply OQ.gtrN; exact rfl; exact rfl) | (apply OQ.idxS; exact rfl; exact rfl; exact rfl; exact rfl; exact (by (try simp only []); omega)) | (apply OQ.fld; exact rfl; exact rfl; exact rfl; exact (by decide); exact rfl)) rfl ?_ | refine JC.seq ?_ | refine JC.region ?_ | refine JC.block ?_ | refine JC.skip ?_ | refine JC.exit ?_ | refine JL.nil ?_ | refine JE.next ?_ | refine JE.blk_normal ?_ | refine JE.then_exit ?_ | refine JE.blk_hit ?_ | refine JE.blk_miss rfl ?_ | refine JE.then_ret ?_ | refine JE.blk_ret ?_ | refine JC.label ?_ | refine JL.gon rfl rfl ?_ | refine JL.gskip rfl rfl rfl rfl ?_ | refine JL.gskipU rfl rfl rfl rfl ?_))
    refine JC.ret (JE.ret1 rfl (RV.tmp rfl) fun w' hw => ⟨⟨p, q1, n, q2, n, none, none⟩, rfl, ⟨rfl, rfl⟩, ?_⟩)
    have e : (newB n).length = n := List.length_replicate
    have hw2 := hw.perm' (List.perm_append_comm (l₁ := [_, _]) (l₂ := [_]))
    refine hw2.weak ?_
    unfold rkE
    refine .keep _ _ _ _ _ _ (fun o ho => ?_) (.keep _ _ _ _ _ _ (fun o ho => ?_) (.keep _ _ _ _ _ _ (fun o ho => ?_) (.nil _)))
    · rw [e]
      exact ho
    · rw [e, zero_cells]
      exact row_ownC List.length_replicate o ho
    · rw [e, zero_cells]
      exact row_ownC List.length_replicate o ho
theorem goes_rwrite : Goes Try.prog 14 := ⟨_, Try.func14, rfl, by kernel_rfl⟩
set_option maxHeartbeats 8000000 in
theorem rwrite_bad (y : Rp) (sn ls : List Bk) (ws : List (Nat × Bk)) (n : Int) (b : Bk) (hn : ¬ (0 ≤ n ∧ n < sn.length)) {u w : World} {S : List Nat} {M : List Ent} (h : Holds u S (rkE y sn ls ws ++ M) w) :
    Calls Try.prog 14 [Pt y.p 0, .int .i64 n, .agg (bc b).toArray].toArray w fun e w' => e = .returned (N 2) ∧ Ext w w' := by
  have hc : w.cell? ⟨y.p, 0, none⟩ = some (.slice (some ⟨y.q1, 0, none⟩) sn.length y.c1) := by
    obtain ⟨o, ho, hA⟩ := h.get (b := y.p) (wr := true) .here
    exact cell_of ho (Row.cell rfl _ hA)
  refine enter (n := 45) Try.func14 rfl rfl rfl (Holds.start w []) ?_
  repeat (first | refine JL.q (by first | (apply OQ.move; exact rfl) | (apply OQ.assign; exact rfl) | (apply OQ.nilc; exact rfl) | (apply OQ.len; exact rfl; exact rfl) | (apply OQ.lssN; exact rfl; exact rfl) | (apply OQ.gtrN; exact rfl; exact rfl) | (apply OQ.idxS; exact rfl; exact rfl; exact rfl; exact rfl; exact (by (try simp only []); omega)) | (apply OQ.fld; exact rfl; exact rfl; exact rfl; exact (by decide); exact rfl)) rfl ?_ | refine JC.seq ?_ | refine JC.region ?_ | refine JC.block ?_ | refine JC.skip ?_ | refine JC.exit ?_ | refine JL.nil ?_ | refine JE.next ?_ | refine JE.blk_normal ?_ | refine JE.then_exit ?_ | refine JE.blk_hit ?_ | refine JE.blk_miss rfl ?_ | refine JE.then_ret ?_ | refine JE.blk_ret ?_ | refine JC.label ?_ | refine JL.gon rfl rfl ?_ | refine JL.gskip rfl rfl rfl rfl ?_ | refine JL.gskipU rfl rfl rfl rfl ?_)
  refine JL.box (r := bc b) rfl rfl rfl fun b5 _ => ?_
  cases h1 : decide (n < (0 : Int))
  · have h2 : decide ((sn.length : Int) ≤ n) = true := decide_eq_true (by have := of_decide_eq_false h1; omega)
    repeat (first | refine JL.q (by first | (apply OQ.lssB (b := 0); exact rfl; exact rfl; exact h1) | (apply OQ.load_old; exact bsC; exact rfl; exact (block_lt_of_cell hc); exact (by simp); exact hc) | (apply OQ.len; exact Try.underlying41; exact rfl) | (apply OQ.geqB; exact rfl; exact rfl; exact h2) | (apply OQ.pick_f; exact rfl; exact rfl) | (apply OQ.move; exact rfl) | (apply OQ.assign; exact rfl) | (apply OQ.nilc; exact rfl) | (apply OQ.len; exact rfl; exact rfl) | (apply OQ.lssN; exact rfl; exact rfl) | (apply OQ.gtrN; exact rfl; exact rfl) | (apply OQ.idxS; exact rfl; exact rfl; exact rfl; exact rfl; exact (by (try simp only []); omega)) | (apply OQ.fld; exact rfl; exact rfl; exact rfl; exact (by decide); exact rfl)) rfl ?_ | refine JC.seq ?_ | refine JC.region ?_ | refine JC.block ?_ | refine JC.skip ?_ | refine JC.exit ?_ | refine JL.nil ?_ | refine JE.next ?_ | refine JE.blk_normal ?_ | refine JE.then_exit ?_ | refine JE.blk_hit ?_ | refine JE.blk_miss rfl ?_ | refine JE.then_ret ?_ | refine JE.blk_ret ?_ | refine JC.label ?_ | refine JL.gon rfl rfl ?_ | refine JL.gskip rfl rfl rfl rfl ?_ | refine JL.gskipU rfl rfl rfl rfl ?_)
    refine JC.cond_true rfl rfl ?_
    repeat (first | refine JL.q (by first | (apply OQ.move; exact rfl) | (apply OQ.assign; exact rfl) | (apply OQ.nilc; exact rfl) | (apply OQ.len; exact rfl; exact rfl) | (apply OQ.lssN; exact rfl; exact rfl) | (apply OQ.gtrN; exact rfl; exact rfl) | (apply OQ.idxS; exact rfl; exact rfl; exact rfl; exact rfl; exact (by (try simp only []); omega)) | (apply OQ.fld; exact rfl; exact rfl; exact rfl; exact (by decide); exact rfl)) rfl ?_ | refine JC.seq ?_ | refine JC.region ?_ | refine JC.block ?_ | refine JC.skip ?_ | refine JC.exit ?_ | refine JL.nil ?_ | refine JE.next ?_ | refine JE.blk_normal ?_ | refine JE.then_exit ?_ | refine JE.blk_hit ?_ | refine JE.blk_miss rfl ?_ | refine JE.then_ret ?_ | refine JE.blk_ret ?_ | refine JC.label ?_ | refine JL.gon rfl rfl ?_ | refine JL.gskip rfl rfl rfl rfl ?_ | refine JL.gskipU rfl rfl rfl rfl ?_)
    refine JC.ret ?_
    repeat (first | refine JL.q (by first | (apply OQ.move; exact rfl) | (apply OQ.assign; exact rfl) | (apply OQ.nilc; exact rfl) | (apply OQ.len; exact rfl; exact rfl) | (apply OQ.lssN; exact rfl; exact rfl) | (apply OQ.gtrN; exact rfl; exact rfl) | (apply OQ.idxS; exact rfl; exact rfl; exact rfl; exact rfl; exact (by (try simp only []); omega)) | (apply OQ.fld; exact rfl; exact rfl; exact rfl; exact (by decide); exact rfl)) rfl ?_ | refine JC.seq ?_ | refine JC.region ?_ | refine JC.block ?_ | refine JC.skip ?_ | refine JC.exit ?_ | refine JL.nil ?_ | refine JE.next ?_ | refine JE.blk_normal ?_ | refine JE.then_exit ?_ | refine JE.blk_hit ?_ | refine JE.blk_miss rfl ?_ | refine JE.then_ret ?_ | refine JE.blk_ret ?_ | refine JC.label ?_ | refine JL.gon rfl rfl ?_ | refine JL.gskip rfl rfl rfl rfl ?_ | refine JL.gskipU rfl rfl rfl rfl ?_)
    exact JE.ret1 rfl (RV.tmp rfl) fun w' hw => ⟨rfl, hw.chg⟩
  · repeat (first | refine JL.q (by first | (apply OQ.lssB (b := 0); exact rfl; exact rfl; exact h1) | (apply OQ.pick_t; exact rfl; exact rfl) | (apply OQ.move; exact rfl) | (apply OQ.assign; exact rfl) | (apply OQ.nilc; exact rfl) | (apply OQ.len; exact rfl; exact rfl) | (apply OQ.lssN; exact rfl; exact rfl) | (apply OQ.gtrN; exact rfl; exact rfl) | (apply OQ.idxS; exact rfl; exact rfl; exact rfl; exact rfl; exact (by (try simp only []); omega)) | (apply OQ.fld; exact rfl; exact rfl; exact rfl; exact (by decide); exact rfl)) rfl ?_ | refine JC.seq ?_ | refine JC.region ?_ | refine JC.block ?_ | refine JC.skip ?_ | refine JC.exit ?_ | refine JL.nil ?_ | refine JE.next ?_ | refine JE.blk_normal ?_ | refine JE.then_exit ?_ | refine JE.blk_hit ?_ | refine JE.blk_miss rfl ?_ | refine JE.then_ret ?_ | refine JE.blk_ret ?_ | refine JC.label ?_ | refine JL.gon rfl rfl ?_ | refine JL.gskip rfl rfl rfl rfl ?_ | refine JL.gskipU rfl rfl rfl rfl ?_)
    refine JC.cond_true rfl rfl ?_
    repeat (first | refine JL.q (by first | (apply OQ.move; exact rfl) | (apply OQ.assign; exact rfl) | (apply OQ.nilc; exact rfl) | (apply OQ.len; exact rfl; exact rfl) | (apply OQ.lssN; exact rfl; exact rfl) | (apply OQ.gtrN; exact rfl; exact rfl) | (apply OQ.idxS; exact rfl; exact rfl; exact rfl; exact rfl; exact (by (try simp only []); omega)) | (apply OQ.fld; exact rfl; exact rfl; exact rfl; exact (by decide); exact rfl)) rfl ?_ | refine JC.seq ?_ | refine JC.region ?_ | refine JC.block ?_ | refine JC.skip ?_ | refine JC.exit ?_ | refine JL.nil ?_ | refine JE.next ?_ | refine JE.blk_normal ?_ | refine JE.then_exit ?_ | refine JE.blk_hit ?_ | refine JE.blk_miss rfl ?_ | refine JE.then_ret ?_ | refine JE.blk_ret ?_ | refine JC.label ?_ | refine JL.gon rfl rfl ?_ | refine JL.gskip rfl rfl rfl rfl ?_ | refine JL.gskipU rfl rfl rfl rfl ?_)
    refine JC.ret ?_
    repeat (first | refine JL.q (by first | (apply OQ.move; exact rfl) | (apply OQ.assign; exact rfl) | (apply OQ.nilc; exact rfl) | (apply OQ.len; exact rfl; exact rfl) | (apply OQ.lssN; exact rfl; exact rfl) | (apply OQ.gtrN; exact rfl; exact rfl) | (apply OQ.idxS; exact rfl; exact rfl; exact rfl; exact rfl; exact (by (try simp only []); omega)) | (apply OQ.fld; exact rfl; exact rfl; exact rfl; exact (by decide); exact rfl)) rfl ?_ | refine JC.seq ?_ | refine JC.region ?_ | refine JC.block ?_ | refine JC.skip ?_ | refine JC.exit ?_ | refine JL.nil ?_ | refine JE.next ?_ | refine JE.blk_normal ?_ | refine JE.then_exit ?_ | refine JE.blk_hit ?_ | refine JE.blk_miss rfl ?_ | refine JE.then_ret ?_ | refine JE.blk_ret ?_ | refine JC.label ?_ | refine JL.gon rfl rfl ?_ | refine JL.gskip rfl rfl rfl rfl ?_ | refine JL.gskipU rfl rfl rfl rfl ?_)
    exact JE.ret1 rfl (RV.tmp rfl) fun w' hw => ⟨rfl, hw.chg⟩
set_option maxHeartbeats 16000000 in
theorem rwrite_ok (y : Rp) (sn ls : List Bk) (ws : List (Nat × Bk)) (n : Nat) (b : Bk) (hn : n < sn.length) (hb : b.length = 64) (h : RkOk y sn ls ws) (w : World) (hw : Holds w (keys (rkE y sn ls ws)) (rkE y sn ls ws) w) :
    Calls Try.prog 14 [Pt y.p 0, N n, .agg (bc b).toArray].toArray w fun e w' => ∃ r : (Nat × Nat) × (Nat × Nat), e = .returned (N 0) ∧ Holds w (keys (rkE y sn ls ws)) (rkE ⟨y.p, y.q1, y.c1, y.q2, y.c2, some r.1, some r.2⟩ (sn.set n b) ls (ws ++ [(n, b)])) w' := by
  have hq1 : y.a1 = none → atc ws = [] := fun e => by rw [h.a1 e]; rfl
  have hq2 : y.a2 = none → whc ws = [] := fun e => by rw [h.a2 e]; rfl
  have g1 : decide ((n : Int) < 0) = false := decide_eq_false (by omega)
  have g2 : decide ((sn.length : Int) ≤ (n : Int)) = false := decide_eq_false (by omega)
  have hsl := sb_len h.sb
  generalize hS : keys (rkE y sn ls ws) = S at hw ⊢
  refine enter (n := 45) Try.func14 rfl rfl rfl hw ?_
  repeat (first | refine JL.q (by first | (apply OQ.move; exact rfl) | (apply OQ.assign; exact rfl) | (apply OQ.nilc; exact rfl) | (apply OQ.len; exact rfl; exact rfl) | (apply OQ.lssN; exact rfl; exact rfl) | (apply OQ.gtrN; exact rfl; exact rfl) | (apply OQ.idxS; exact rfl; exact rfl; exact rfl; exact rfl; exact (by (try simp only []); omega)) | (apply OQ.fld; exact rfl; exact rfl; exact rfl; exact (by decide); exact rfl)) rfl ?_ | refine JC.seq ?_ | refine JC.region ?_ | refine JC.block ?_ | refine JC.skip ?_ | refine JC.exit ?_ | refine JL.nil ?_ | refine JE.next ?_ | refine JE.blk_normal ?_ | refine JE.then_exit ?_ | refine JE.blk_hit ?_ | refine JE.blk_miss rfl ?_ | refine JE.then_ret ?_ | refine JE.blk_ret ?_ | refine JC.label ?_ | refine JL.gon rfl rfl ?_ | refine JL.gskip rfl rfl rfl rfl ?_ | refine JL.gskipU rfl rfl rfl rfl ?_)
  refine JL.box (r := bc b) rfl rfl rfl fun b5 _ => ?_
  repeat (first | refine JL.q (by first | (apply OQ.lssB (b := 0); exact rfl; exact rfl; exact g1) | (apply OQ.load; exact bsC; exact rfl; exact (.there .here); exact (Row.cell (v := .slice (some ⟨y.q1, 0, none⟩) sn.length y.c1) rfl)) | (apply OQ.len; exact Try.underlying41; exact rfl) | (apply OQ.geqB; exact rfl; exact rfl; exact g2) | (apply OQ.pick_f; exact rfl; exact rfl) | (apply OQ.move; exact rfl) | (apply OQ.assign; exact rfl) | (apply OQ.nilc; exact rfl) | (apply OQ.len; exact rfl; exact rfl) | (apply OQ.lssN; exact rfl; exact rfl) | (apply OQ.gtrN; exact rfl; exact rfl) | (apply OQ.idxS; exact rfl; exact rfl; exact rfl; exact rfl; exact (by (try simp only []); omega)) | (apply OQ.fld; exact rfl; exact rfl; exact rfl; exact (by decide); exact rfl)) rfl ?_ | refine JC.seq ?_ | refine JC.region ?_ | refine JC.block ?_ | refine JC.skip ?_ | refine JC.exit ?_ | refine JL.nil ?_ | refine JE.next ?_ | refine JE.blk_normal ?_ | refine JE.then_exit ?_ | refine JE.blk_hit ?_ | refine JE.blk_miss rfl ?_ | refine JE.then_ret ?_ | refine JE.blk_ret ?_ | refine JC.label ?_ | refine JL.gon rfl rfl ?_ | refine JL.gskip rfl rfl rfl rfl ?_ | refine JL.gskipU rfl rfl rfl rfl ?_)
  refine JC.cond_false rfl rfl ?_
  repeat (first | refine JL.q (by first | (apply OQ.move; exact rfl) | (apply OQ.assign; exact rfl) | (apply OQ.nilc; exact rfl) | (apply OQ.len; exact rfl; exact rfl) | (apply OQ.lssN; exact rfl; exact rfl) | (apply OQ.gtrN; exact rfl; exact rfl) | (apply OQ.idxS; exact rfl; exact rfl; exact rfl; exact rfl; exact (by (try simp only []); omega)) | (apply OQ.fld; exact rfl; exact rfl; exact rfl; exact (by decide); exact rfl)) rfl ?_ | refine JC.seq ?_ | refine JC.region ?_ | refine JC.block ?_ | refine JC.skip ?_ | refine JC.exit ?_ | refine JL.nil ?_ | refine JE.next ?_ | refine JE.blk_normal ?_ | refine JE.then_exit ?_ | refine JE.blk_hit ?_ | refine JE.blk_miss rfl ?_ | refine JE.then_ret ?_ | refine JE.blk_ret ?_ | refine JC.label ?_ | refine JL.gon rfl rfl ?_ | refine JL.gskip rfl rfl rfl rfl ?_ | refine JL.gskipU rfl rfl rfl rfl ?_)
  refine JC.tail 6 mixT (by kernel_rfl) ?_
  simp only [List.take_succ_cons, List.take_zero, List.drop_succ_cons, List.drop_zero]
  repeat (first | refine JL.q (by first | (apply OQ.load; exact bsC; exact rfl; exact (.there .here); exact (Row.cell (v := .slice (some ⟨y.q1, 0, none⟩) sn.length y.c1) rfl)) | (apply OQ.load_agg (cs := bc b); exact dkAg; exact dkB; exact rfl; exact .here; exact (bc_len hb); exact Row.all) | (apply OQ.idxS (i := n); exact Try.underlying41; exact dkB; exact rfl; exact rfl; exact hn) | (apply OQ.move; exact rfl) | (apply OQ.assign; exact rfl) | (apply OQ.nilc; exact rfl) | (apply OQ.len; exact rfl; exact rfl) | (apply OQ.lssN; exact rfl; exact rfl) | (apply OQ.gtrN; exact rfl; exact rfl) | (apply OQ.idxS; exact rfl; exact rfl; exact rfl; exact rfl; exact (by (try simp only []); omega)) | (apply OQ.fld; exact rfl; exact rfl; exact rfl; exact (by decide); exact rfl)) rfl ?_ | refine JQ.q (by first | (apply OQ.load; exact bsC; exact rfl; exact (.there .here); exact (Row.cell (v := .slice (some ⟨y.q1, 0, none⟩) sn.length y.c1) rfl)) | (apply OQ.load_agg (cs := bc b); exact dkAg; exact dkB; exact rfl; exact .here; exact (bc_len hb); exact Row.all) | (apply OQ.idxS (i := n); exact Try.underlying41; exact dkB; exact rfl; exact rfl; exact hn) | (apply OQ.move; exact rfl) | (apply OQ.assign; exact rfl) | (apply OQ.nilc; exact rfl) | (apply OQ.len; exact rfl; exact rfl) | (apply OQ.lssN; exact rfl; exact rfl) | (apply OQ.gtrN; exact rfl; exact rfl) | (apply OQ.idxS; exact rfl; exact rfl; exact rfl; exact rfl; exact (by (try simp only []); omega)) | (apply OQ.fld; exact rfl; exact rfl; exact rfl; exact (by decide); exact rfl)) rfl ?_ | refine JC.seq ?_ | refine JC.region ?_ | refine JC.block ?_ | refine JC.skip ?_ | refine JC.exit ?_ | refine JL.nil ?_ | refine JQ.nil ?_ | refine JQ.nil_tail ?_ | refine JE.next ?_ | refine JE.blk_normal ?_ | refine JE.then_exit ?_ | refine JE.blk_hit ?_ | refine JE.blk_miss rfl ?_ | refine JE.then_ret ?_ | refine JE.blk_ret ?_ | refine JC.label ?_ | refine JL.gon rfl rfl ?_ | refine JQ.gon rfl rfl ?_ | refine JL.gskip rfl rfl rfl rfl ?_ | refine JQ.gskip rfl rfl rfl rfl ?_ | refine JL.gskipU rfl rfl rfl rfl ?_ | refine JQ.gskipU rfl rfl rfl rfl ?_)
  refine JL.storeC (L := bcs sn) (i := n) dkB rfl (Nat.zero_add _) rfl (bc_len hb) (bc_cell _) hsl (bcs_n sn) hn (.there (.there .here)) ?_
  repeat (first | refine JL.q (by first | (apply OQ.load; exact isC; exact rfl; exact (.there .here); exact (Row.cell (v := accV y.a1 (atc ws).length) rfl)) | (apply OQ.move; exact rfl) | (apply OQ.assign; exact rfl) | (apply OQ.nilc; exact rfl) | (apply OQ.len; exact rfl; exact rfl) | (apply OQ.lssN; exact rfl; exact rfl) | (apply OQ.gtrN; exact rfl; exact rfl) | (apply OQ.idxS; exact rfl; exact rfl; exact rfl; exact rfl; exact (by (try simp only []); omega)) | (apply OQ.fld; exact rfl; exact rfl; exact rfl; exact (by decide); exact rfl)) rfl ?_ | refine JQ.q (by first | (apply OQ.load; exact isC; exact rfl; exact (.there .here); exact (Row.cell (v := accV y.a1 (atc ws).length) rfl)) | (apply OQ.move; exact rfl) | (apply OQ.assign; exact rfl) | (apply OQ.nilc; exact rfl) | (apply OQ.len; exact rfl; exact rfl) | (apply OQ.lssN; exact rfl; exact rfl) | (apply OQ.gtrN; exact rfl; exact rfl) | (apply OQ.idxS; exact rfl; exact rfl; exact rfl; exact rfl; exact (by (try simp only []); omega)) | (apply OQ.fld; exact rfl; exact rfl; exact rfl; exact (by decide); exact rfl)) rfl ?_ | refine JC.seq ?_ | refine JC.region ?_ | refine JC.block ?_ | refine JC.skip ?_ | refine JC.exit ?_ | refine JL.nil ?_ | refine JQ.nil ?_ | refine JQ.nil_tail ?_ | refine JE.next ?_ | refine JE.blk_normal ?_ | refine JE.then_exit ?_ | refine JE.blk_hit ?_ | refine JE.blk_miss rfl ?_ | refine JE.then_ret ?_ | refine JE.blk_ret ?_ | refine JC.label ?_ | refine JL.gon rfl rfl ?_ | refine JQ.gon rfl rfl ?_ | refine JL.gskip rfl rfl rfl rfl ?_ | refine JQ.gskip rfl rfl rfl rfl ?_ | refine JL.gskipU rfl rfl rfl rfl ?_ | refine JQ.gskipU rfl rfl rfl rfl ?_)
  refine JL.lit1 Try.underlying42 intI rfl rfl rfl rfl fun bl _ => ?_
  refine JL.perm (M' := ⟨bl, Row 3 [N n], true⟩ :: (accC 3 1 y.a1 (atc ws) ++ (⟨b5, Row 32 (bc b), true⟩ :: ⟨y.p, Row 44 [.slice (some ⟨y.q1, 0, none⟩) sn.length y.c1, .slice (some ⟨y.q2, 0, none⟩) ls.length y.c2, accV y.a1 (atc ws).length, accV y.a2 (whc ws).length], true⟩ :: ⟨y.q1, Sl.Own 32 64 sn.length y.c1 ((bcs sn).set n (bc b)).flatten, true⟩ :: ⟨y.q2, Sl.Own 32 64 ls.length y.c2 (bcs ls).flatten, true⟩ :: accC 32 64 y.a2 (whc ws)))) ?_ (.cons _ (List.perm_append_comm_assoc [_, _, _, _] _ _))
  refine JL.appendC (c := [N n]) (L := atc ws) y.a1 Try.underlying42 intI hq1 rfl rfl rfl (by simp [Value.oneCell']) rfl (by decide) (by rw [atc_n]; have := h.m; omega) (by rw [atc_n]; have := h.m; omega) rfl fun b' cap' => ?_
  obtain ⟨r1, hr1⟩ : ∃ r1 : Nat × Nat, (b', cap') = r1 := ⟨_, rfl⟩
  rw [hr1]
  repeat (first | refine JL.q (by first | (apply OQ.move; exact rfl) | (apply OQ.assign; exact rfl) | (apply OQ.nilc; exact rfl) | (apply OQ.len; exact rfl; exact rfl) | (apply OQ.lssN; exact rfl; exact rfl) | (apply OQ.gtrN; exact rfl; exact rfl) | (apply OQ.idxS; exact rfl; exact rfl; exact rfl; exact rfl; exact (by (try simp only []); omega)) | (apply OQ.fld; exact rfl; exact rfl; exact rfl; exact (by decide); exact rfl)) rfl ?_ | refine JQ.q (by first | (apply OQ.move; exact rfl) | (apply OQ.assign; exact rfl) | (apply OQ.nilc; exact rfl) | (apply OQ.len; exact rfl; exact rfl) | (apply OQ.lssN; exact rfl; exact rfl) | (apply OQ.gtrN; exact rfl; exact rfl) | (apply OQ.idxS; exact rfl; exact rfl; exact rfl; exact rfl; exact (by (try simp only []); omega)) | (apply OQ.fld; exact rfl; exact rfl; exact rfl; exact (by decide); exact rfl)) rfl ?_ | refine JC.seq ?_ | refine JC.region ?_ | refine JC.block ?_ | refine JC.skip ?_ | refine JC.exit ?_ | refine JL.nil ?_ | refine JQ.nil ?_ | refine JQ.nil_tail ?_ | refine JE.next ?_ | refine JE.blk_normal ?_ | refine JE.then_exit ?_ | refine JE.blk_hit ?_ | refine JE.blk_miss rfl ?_ | refine JE.then_ret ?_ | refine JE.blk_ret ?_ | refine JC.label ?_ | refine JL.gon rfl rfl ?_ | refine JQ.gon rfl rfl ?_ | refine JL.gskip rfl rfl rfl rfl ?_ | refine JQ.gskip rfl rfl rfl rfl ?_ | refine JL.gskipU rfl rfl rfl rfl ?_ | refine JQ.gskipU rfl rfl rfl rfl ?_)
  refine JL.store_eq (b := y.p) (r := [.slice (some ⟨y.q1, 0, none⟩) sn.length y.c1, .slice (some ⟨y.q2, 0, none⟩) ls.length y.c2, accV y.a1 (atc ws).length, accV y.a2 (whc ws).length]) (r' := [.slice (some ⟨y.q1, 0, none⟩) sn.length y.c1, .slice (some ⟨y.q2, 0, none⟩) ls.length y.c2, accV (some r1) (atc ws ++ [[N n]]).length, accV y.a2 (whc ws).length]) is1 rfl rfl rfl rfl (.there (.there .here)) (show 2 < 4 by decide) rfl ?_
  repeat (first | refine JL.q (by first | (apply OQ.move; exact rfl) | (apply OQ.assign; exact rfl) | (apply OQ.nilc; exact rfl) | (apply OQ.len; exact rfl; exact rfl) | (apply OQ.lssN; exact rfl; exact rfl) | (apply OQ.gtrN; exact rfl; exact rfl) | (apply OQ.idxS; exact rfl; exact rfl; exact rfl; exact rfl; exact (by (try simp only []); omega)) | (apply OQ.fld; exact rfl; exact rfl; exact rfl; exact (by decide); exact rfl)) rfl ?_ | refine JQ.q (by first | (apply OQ.move; exact rfl) | (apply OQ.assign; exact rfl) | (apply OQ.nilc; exact rfl) | (apply OQ.len; exact rfl; exact rfl) | (apply OQ.lssN; exact rfl; exact rfl) | (apply OQ.gtrN; exact rfl; exact rfl) | (apply OQ.idxS; exact rfl; exact rfl; exact rfl; exact rfl; exact (by (try simp only []); omega)) | (apply OQ.fld; exact rfl; exact rfl; exact rfl; exact (by decide); exact rfl)) rfl ?_ | refine JC.seq ?_ | refine JC.region ?_ | refine JC.block ?_ | refine JC.skip ?_ | refine JC.exit ?_ | refine JL.nil ?_ | refine JQ.nil ?_ | refine JQ.nil_tail ?_ | refine JE.next ?_ | refine JE.blk_normal ?_ | refine JE.then_exit ?_ | refine JE.blk_hit ?_ | refine JE.blk_miss rfl ?_ | refine JE.then_ret ?_ | refine JE.blk_ret ?_ | refine JC.label ?_ | refine JL.gon rfl rfl ?_ | refine JQ.gon rfl rfl ?_ | refine JL.gskip rfl rfl rfl rfl ?_ | refine JQ.gskip rfl rfl rfl rfl ?_ | refine JL.gskipU rfl rfl rfl rfl ?_ | refine JQ.gskipU rfl rfl rfl rfl ?_)
  let vs : Nat → Nat × Nat → Value := fun j z => match j with
    | 0 => Pt y.p 0
    | 1 => Pt y.p 0
    | 2 => Pt y.p 0
    | 3 => Pt y.p 3
    | 4 => accV y.a2 (whc ws).length
    | 5 => .agg (bc b).toArray
    | 6 => .slice (some ⟨z.1, 0, none⟩) 1 1
    | 7 => accV (some z) (whc ws ++ [bc b]).length
    | 8 => Pt y.p 0
    | 9 => Pt y.p 3
    | _ => N 0
  let Ms : Nat → Nat × Nat → List Ent := fun j z => match j with
    | 6 => [⟨z.1, Row 32 (bc b), true⟩]
    | 7 => accC 32 64 (some z) (whc ws ++ [bc b])
    | 10 => [⟨y.p, Row 44 [.slice (some ⟨y.q1, 0, none⟩) sn.length y.c1, .slice (some ⟨y.q2, 0, none⟩) ls.length y.c2, accV (some r1) (atc ws ++ [[N n]]).length, accV (some z) (whc ws ++ [bc b]).length], true⟩]
    | 11 => [⟨r1.1, Sl.Own 3 1 (atc ws ++ [[N n]]).length r1.2 (atc ws ++ [[N n]]).flatten, true⟩]
    | 12 => [⟨b5, Row 32 (bc b), true⟩]
    | 13 => [⟨y.p, Row 44 [.slice (some ⟨y.q1, 0, none⟩) sn.length y.c1, .slice (some ⟨y.q2, 0, none⟩) ls.length y.c2, accV (some r1) (atc ws ++ [[N n]]).length, accV y.a2 (whc ws).length], true⟩]
    | 14 => [⟨y.q1, Sl.Own 32 64 sn.length y.c1 ((bcs sn).set n (bc b)).flatten, true⟩]
    | 15 => [⟨y.q2, Sl.Own 32 64 ls.length y.c2 (bcs ls).flatten, true⟩]
    | 16 => accC 32 64 y.a2 (whc ws)
    | _ => []
  refine JC.grow (g := ⟨[(0, Pt y.p 0), (5, Pt b5 0)], 17, vs, Ms, (fun j => match j with | 2 => [(1, 36)] | 3 => [(2, 37)] | 4 => [(3, 38)] | 6 => [(5, 40)] | 7 => [(4, 39), (6, 41)] | 8 => [(0, 35)] | 9 => [(8, 43)] | 10 => [(9, 44), (7, 42)] | _ => []), (fun j => match j with | 4 => [13] | 5 => [12] | 7 => [6, 16] | 10 => [13] | _ => []), (fun j => match j with | 7 => [6, 16] | 10 => [13] | _ => []), (fun j => match j with | 10 => some 7 | _ => none)⟩) [] [10, 14, 15, 11, 7] mixT (by repeat (first | exact SubE.nil | refine SubE.cons _ _ _ rfl ?_)) ?_ (by kernel_rfl) (by kernel_rfl) (by kernel_rfl) ?_ ?_
  · show Less (Ms 11 default ++ (Ms 12 default ++ (Ms 13 default ++ (Ms 14 default ++ (Ms 15 default ++ (Ms 16 default ++ [])))))) _; rw [List.append_nil]; exact Less.refl _
  · refine ⟨?_, ?_, ?_, ?_, ?_, ?_, ?_, ?_, ?_, ?_, ?_, trivial⟩
    · (intro xx EF MF Q kk; (try refine JL.gon rfl rfl ?_); exact JL.q (OQ.move rfl) rfl (JL.nil (kk default nofun)))
    · (intro xx EF MF Q kk; (try refine JL.gon rfl rfl ?_); exact JL.q (OQ.move rfl) rfl (JL.nil (kk default nofun)))
    · (intro xx EF MF Q kk; (try refine JL.gon rfl rfl ?_); exact JL.q (OQ.nilc rfl) rfl (JL.nil (kk default nofun)))
    · (intro xx EF MF Q kk; (try refine JL.gon rfl rfl ?_); exact JL.q (OQ.fld rfl rfl rfl (by decide) rfl) rfl (JL.nil (kk default nofun)))
    · (intro xx EF MF Q kk; (try refine JL.gon rfl rfl ?_); exact JL.q (OQ.load bsC rfl .here (Row.cell (v := accV y.a2 (whc ws).length) rfl)) rfl (JL.nil (kk default nofun)))
    · (intro xx EF MF Q kk; (try refine JL.gon rfl rfl ?_); exact JL.q (OQ.load_agg (cs := bc b) dkAg dkB rfl .here (bc_len hb) Row.all) rfl (JL.nil (kk default nofun)))
    · (intro xx EF MF Q kk; exact JL.litA (cs := bc b) Try.underlying41 dkI rfl (by decide) (by decide) rfl (bc_len hb) rfl fun b _ => JL.nil (kk (b, 0) nofun))
    · (intro xx EF MF Q kk; refine JL.perm (M' := ⟨(xx 6).1, Row 32 (bc b), true⟩ :: (accC 32 64 y.a2 (whc ws) ++ MF)) ?_ (List.Perm.of_eq (by show (Ms 6 (xx 6) ++ (Ms 16 (xx 16) ++ [])) ++ MF = _; simp [Ms])); exact JL.appendC y.a2 Try.underlying41 dkI hq2 rfl rfl (bc_len hb) (fun v hv => List.all_eq_true.1 (bc_cell _) v hv) rfl (by decide) (by rw [whc_n]; have := h.m; omega) (by rw [whc_n]; have := h.m; omega) rfl fun b' cap' => JL.nil (kk (b', cap') nofun))
    · (intro xx EF MF Q kk; (try refine JL.gon rfl rfl ?_); exact JL.q (OQ.nilc rfl) rfl (JL.nil (kk default nofun)))
    · (intro xx EF MF Q kk; (try refine JL.gon rfl rfl ?_); exact JL.q (OQ.fld rfl rfl rfl (by decide) rfl) rfl (JL.nil (kk default nofun)))
    · (intro xx EF MF Q kk; exact JL.store_eq (b := y.p) (r := [.slice (some ⟨y.q1, 0, none⟩) sn.length y.c1, .slice (some ⟨y.q2, 0, none⟩) ls.length y.c2, accV (some r1) (atc ws ++ [[N n]]).length, accV y.a2 (whc ws).length]) (r' := [.slice (some ⟨y.q1, 0, none⟩) sn.length y.c1, .slice (some ⟨y.q2, 0, none⟩) ls.length y.c2, accV (some r1) (atc ws ++ [[N n]]).length, accV (some (xx 7)) (whc ws ++ [bc b]).length]) bs1 rfl rfl rfl rfl .here (show 3 < 4 by decide) rfl (JL.nil (kk (xx 7) (fun k h => by cases h; rfl))))
  · intro xx hx
    have e10 : xx 10 = xx 7 := hx 10 7 (by decide) rfl
    show JE _ _ _ _ _ [(0, Pt y.p 0), (5, Pt b5 0)] [⟨y.p, Row 44 [.slice (some ⟨y.q1, 0, none⟩) sn.length y.c1, .slice (some ⟨y.q2, 0, none⟩) ls.length y.c2, accV (some r1) (atc ws ++ [[N n]]).length, accV (some (xx 10)) (whc ws ++ [bc b]).length], true⟩, ⟨y.q1, Sl.Own 32 64 sn.length y.c1 ((bcs sn).set n (bc b)).flatten, true⟩, ⟨y.q2, Sl.Own 32 64 ls.length y.c2 (bcs ls).flatten, true⟩, ⟨r1.1, Sl.Own 3 1 (atc ws ++ [[N n]]).length r1.2 (atc ws ++ [[N n]]).flatten, true⟩, ⟨(xx 7).1, Sl.Own 32 64 (whc ws ++ [bc b]).length (xx 7).2 (whc ws ++ [bc b]).flatten, true⟩]
    rw [e10]
    generalize xx 7 = r2
    clear hx e10 xx vs Ms
    (repeat (first | refine JL.q (by first | (apply OQ.move; exact rfl) | (apply OQ.assign; exact rfl) | (apply OQ.nilc; exact rfl) | (apply OQ.len; exact rfl; exact rfl) | (apply OQ.lssN; exact rfl; exact rfl) | (apply OQ.gtrN; exact rfl; exact rfl) | (apply OQ.idxS; exact rfl; exact rfl; exact rfl; exact rfl; exact (by (try simp only []); omega)) | (apply OQ.fld; exact rfl; exact rfl; exact rfl; exact (by decide); exact rfl)) rfl ?_ | refine JQ.q (by first | (apply OQ.move; exact rfl) | (apply OQ.assign; exact rfl) | (apply OQ.nilc; exact rfl) | (apply OQ.len; exact rfl; exact rfl) | (apply OQ.lssN; exact rfl; exact rfl) | (apply OQ.gtrN; exact rfl; exact rfl) | (apply OQ.idxS; exact rfl; exact rfl; exact rfl; exact rfl; exact (by (try simp only []); omega)) | (apply OQ.fld; exact rfl; exact rfl; exact rfl; exact (by decide); exact rfl)) rfl ?_ | refine JC.seq ?_ | refine JC.region ?_ | refine JC.block ?_ | refine JC.skip ?_ | refine JC.exit ?_ | refine JL.nil ?_ | refine JQ.nil ?_ | refine JQ.nil_tail ?_ | refine JE.next ?_ | refine JE.blk_normal ?_ | refine JE.then_exit ?_ | refine JE.blk_hit ?_ | refine JE.blk_miss rfl ?_ | refine JE.then_ret ?_ | refine JE.blk_ret ?_ | refine JC.label ?_ | refine JL.gon rfl rfl ?_ | refine JQ.gon rfl rfl ?_ | refine JL.gskip rfl rfl rfl rfl ?_ | refine JQ.gskip rfl rfl rfl rfl ?_ | refine JL.gskipU rfl rfl rfl rfl ?_ | refine JQ.gskipU rfl rfl rfl rfl ?_))
    refine JC.ret (JE.ret1 rfl (RV.tmp rfl) fun w' hw => ⟨(r1, r2), rfl, hw.weak ?_⟩)
    have e1 : atc (ws ++ [(n, b)]) = atc ws ++ [[N n]] := by simp [atc]
    have e2 : whc (ws ++ [(n, b)]) = whc ws ++ [bc b] := by simp [whc]
    unfold rkE
    rw [e1, e2, List.length_set, ← bcs_set]
    exact Less.refl _
theorem goes_rsync : Goes Try.prog 16 := ⟨_, Try.func16, rfl, by kernel_rfl⟩
set_option maxHeartbeats 8000000 in
theorem rsync_any (y : Rp) (sn ls : List Bk) (ws : List (Nat × Bk)) (h : RkOk y sn ls ws) (w : World) (hw : Holds w (keys (rkE y sn ls ws)) (rkE y sn ls ws) w) :
    Calls Try.prog 16 [Pt y.p 0].toArray w fun e w' => ∃ r : (Nat × Nat) × Nat × Nat, e = .returned (.tuple #[]) ∧ Holds w (keys (rkE y sn ls ws)) (rkE ⟨y.p, y.q1, y.c1, r.1.1, r.1.2, some (r.2.1, 0), some (r.2.2, 0)⟩ sn sn []) w' := by
  have hsl := sb_len h.sb
  have hlen : (bcs sn).flatten.length = sn.length * 64 := by rw [chunk_len hsl, bcs_n]
  have hn : sn.length ≤ 65536 := by rw [h.sl]; exact h.n1
  generalize hS : keys (rkE y sn ls ws) = S at hw ⊢
  refine enter (n := 19) Try.func16 rfl rfl rfl hw ?_
  repeat (first | refine JL.q (by first | (apply OQ.move; exact rfl) | (apply OQ.assign; exact rfl) | (apply OQ.nilc; exact rfl) | (apply OQ.len; exact rfl; exact rfl) | (apply OQ.lssN; exact rfl; exact rfl) | (apply OQ.gtrN; exact rfl; exact rfl) | (apply OQ.idxS; exact rfl; exact rfl; exact rfl; exact rfl; exact (by (try simp only []); omega)) | (apply OQ.fld; exact rfl; exact rfl; exact rfl; exact (by decide); exact rfl)) rfl ?_ | refine JC.seq ?_ | refine JC.region ?_ | refine JC.block ?_ | refine JC.skip ?_ | refine JC.exit ?_ | refine JL.nil ?_ | refine JE.next ?_ | refine JE.blk_normal ?_ | refine JE.then_exit ?_ | refine JE.blk_hit ?_ | refine JE.blk_miss rfl ?_ | refine JE.then_ret ?_ | refine JE.blk_ret ?_ | refine JC.label ?_ | refine JL.gon rfl rfl ?_ | refine JL.gskip rfl rfl rfl rfl ?_ | refine JL.gskipU rfl rfl rfl rfl ?_)
  refine JL.litZ Try.underlying41 dkI rfl fun b0 _ => ?_
  repeat (first | refine JL.q (by first | (apply OQ.load; exact bsC; exact rfl; exact (.there .here); exact (Row.cell (v := .slice (some ⟨y.q1, 0, none⟩) sn.length y.c1) rfl)) | (apply OQ.move; exact rfl) | (apply OQ.assign; exact rfl) | (apply OQ.nilc; exact rfl) | (apply OQ.len; exact rfl; exact rfl) | (apply OQ.lssN; exact rfl; exact rfl) | (apply OQ.gtrN; exact rfl; exact rfl) | (apply OQ.idxS; exact rfl; exact rfl; exact rfl; exact rfl; exact (by (try simp only []); omega)) | (apply OQ.fld; exact rfl; exact rfl; exact rfl; exact (by decide); exact rfl)) rfl ?_ | refine JC.seq ?_ | refine JC.region ?_ | refine JC.block ?_ | refine JC.skip ?_ | refine JC.exit ?_ | refine JL.nil ?_ | refine JE.next ?_ | refine JE.blk_normal ?_ | refine JE.then_exit ?_ | refine JE.blk_hit ?_ | refine JE.blk_miss rfl ?_ | refine JE.then_ret ?_ | refine JE.blk_ret ?_ | refine JC.label ?_ | refine JL.gon rfl rfl ?_ | refine JL.gskip rfl rfl rfl rfl ?_ | refine JL.gskipU rfl rfl rfl rfl ?_)
  refine JL.append (cs := (bcs sn).flatten) (m := sn.length) (ad := some ⟨y.q1, 0, none⟩) (sc := y.c1) (xs := []) (fun b' cap' => ⟨b', Sl.Own 32 64 (0 + sn.length) cap' ([] ++ (bcs sn).flatten), true⟩ :: rkE y sn ls ws) Try.underlying41 dkI rfl rfl (fun _ _ => .here) hlen (fun w' hw' => ?_) (bcs_cell sn) rfl (by decide) (by omega) (by omega) rfl fun b2 cap2 => ?_
  · obtain ⟨o, ho, hA⟩ := hw'.get (b := y.q1) (A := Sl.Own 32 64 sn.length y.c1 (bcs sn).flatten) (wr := true) (.there (.there .here))
    exact Reads.block ho (Own.cells o hA)
  rw [Nat.zero_add, List.nil_append]
  repeat (first | refine JL.q (by first | (apply OQ.move; exact rfl) | (apply OQ.assign; exact rfl) | (apply OQ.nilc; exact rfl) | (apply OQ.len; exact rfl; exact rfl) | (apply OQ.lssN; exact rfl; exact rfl) | (apply OQ.gtrN; exact rfl; exact rfl) | (apply OQ.idxS; exact rfl; exact rfl; exact rfl; exact rfl; exact (by (try simp only []); omega)) | (apply OQ.fld; exact rfl; exact rfl; exact rfl; exact (by decide); exact rfl)) rfl ?_ | refine JC.seq ?_ | refine JC.region ?_ | refine JC.block ?_ | refine JC.skip ?_ | refine JC.exit ?_ | refine JL.nil ?_ | refine JE.next ?_ | refine JE.blk_normal ?_ | refine JE.then_exit ?_ | refine JE.blk_hit ?_ | refine JE.blk_miss rfl ?_ | refine JE.then_ret ?_ | refine JE.blk_ret ?_ | refine JC.label ?_ | refine JL.gon rfl rfl ?_ | refine JL.gskip rfl rfl rfl rfl ?_ | refine JL.gskipU rfl rfl rfl rfl ?_)
  refine JL.store_eq (b := y.p) (r := [.slice (some ⟨y.q1, 0, none⟩) sn.length y.c1, .slice (some ⟨y.q2, 0, none⟩) ls.length y.c2, accV y.a1 (atc ws).length, accV y.a2 (whc ws).length]) (r' := [.slice (some ⟨y.q1, 0, none⟩) sn.length y.c1, .slice (some ⟨b2, 0, none⟩) sn.length cap2, accV y.a1 (atc ws).length, accV y.a2 (whc ws).length]) bs1 rfl rfl rfl rfl (.there .here) (show 1 < 4 by decide) rfl ?_
  repeat (first | refine JL.q (by first | (apply OQ.move; exact rfl) | (apply OQ.assign; exact rfl) | (apply OQ.nilc; exact rfl) | (apply OQ.len; exact rfl; exact rfl) | (apply OQ.lssN; exact rfl; exact rfl) | (apply OQ.gtrN; exact rfl; exact rfl) | (apply OQ.idxS; exact rfl; exact rfl; exact rfl; exact rfl; exact (by (try simp only []); omega)) | (apply OQ.fld; exact rfl; exact rfl; exact rfl; exact (by decide); exact rfl)) rfl ?_ | refine JC.seq ?_ | refine JC.region ?_ | refine JC.block ?_ | refine JC.skip ?_ | refine JC.exit ?_ | refine JL.nil ?_ | refine JE.next ?_ | refine JE.blk_normal ?_ | refine JE.then_exit ?_ | refine JE.blk_hit ?_ | refine JE.blk_miss rfl ?_ | refine JE.then_ret ?_ | refine JE.blk_ret ?_ | refine JC.label ?_ | refine JL.gon rfl rfl ?_ | refine JL.gskip rfl rfl rfl rfl ?_ | refine JL.gskipU rfl rfl rfl rfl ?_)
  refine JL.litZ Try.underlying42 intI rfl fun b3 _ => ?_
  repeat (first | refine JL.q (by first | (apply OQ.move; exact rfl) | (apply OQ.assign; exact rfl) | (apply OQ.nilc; exact rfl) | (apply OQ.len; exact rfl; exact rfl) | (apply OQ.lssN; exact rfl; exact rfl) | (apply OQ.gtrN; exact rfl; exact rfl) | (apply OQ.idxS; exact rfl; exact rfl; exact rfl; exact rfl; exact (by (try simp only []); omega)) | (apply OQ.fld; exact rfl; exact rfl; exact rfl; exact (by decide); exact rfl)) rfl ?_ | refine JC.seq ?_ | refine JC.region ?_ | refine JC.block ?_ | refine JC.skip ?_ | refine JC.exit ?_ | refine JL.nil ?_ | refine JE.next ?_ | refine JE.blk_normal ?_ | refine JE.then_exit ?_ | refine JE.blk_hit ?_ | refine JE.blk_miss rfl ?_ | refine JE.then_ret ?_ | refine JE.blk_ret ?_ | refine JC.label ?_ | refine JL.gon rfl rfl ?_ | refine JL.gskip rfl rfl rfl rfl ?_ | refine JL.gskipU rfl rfl rfl rfl ?_)
  refine JL.store_eq (b := y.p) (r := [.slice (some ⟨y.q1, 0, none⟩) sn.length y.c1, .slice (some ⟨b2, 0, none⟩) sn.length cap2, accV y.a1 (atc ws).length, accV y.a2 (whc ws).length]) (r' := [.slice (some ⟨y.q1, 0, none⟩) sn.length y.c1, .slice (some ⟨b2, 0, none⟩) sn.length cap2, accV (some (b3, 0)) 0, accV y.a2 (whc ws).length]) is1 rfl rfl rfl rfl (.there (.there .here)) (show 2 < 4 by decide) rfl ?_
  repeat (first | refine JL.q (by first | (apply OQ.move; exact rfl) | (apply OQ.assign; exact rfl) | (apply OQ.nilc; exact rfl) | (apply OQ.len; exact rfl; exact rfl) | (apply OQ.lssN; exact rfl; exact rfl) | (apply OQ.gtrN; exact rfl; exact rfl) | (apply OQ.idxS; exact rfl; exact rfl; exact rfl; exact rfl; exact (by (try simp only []); omega)) | (apply OQ.fld; exact rfl; exact rfl; exact rfl; exact (by decide); exact rfl)) rfl ?_ | refine JC.seq ?_ | refine JC.region ?_ | refine JC.block ?_ | refine JC.skip ?_ | refine JC.exit ?_ | refine JL.nil ?_ | refine JE.next ?_ | refine JE.blk_normal ?_ | refine JE.then_exit ?_ | refine JE.blk_hit ?_ | refine JE.blk_miss rfl ?_ | refine JE.then_ret ?_ | refine JE.blk_ret ?_ | refine JC.label ?_ | refine JL.gon rfl rfl ?_ | refine JL.gskip rfl rfl rfl rfl ?_ | refine JL.gskipU rfl rfl rfl rfl ?_)
  refine JL.litZ Try.underlying41 dkI rfl fun b4 _ => ?_
  repeat (first | refine JL.q (by first | (apply OQ.move; exact rfl) | (apply OQ.assign; exact rfl) | (apply OQ.nilc; exact rfl) | (apply OQ.len; exact rfl; exact rfl) | (apply OQ.lssN; exact rfl; exact rfl) | (apply OQ.gtrN; exact rfl; exact rfl) | (apply OQ.idxS; exact rfl; exact rfl; exact rfl; exact rfl; exact (by (try simp only []); omega)) | (apply OQ.fld; exact rfl; exact rfl; exact rfl; exact (by decide); exact rfl)) rfl ?_ | refine JC.seq ?_ | refine JC.region ?_ | refine JC.block ?_ | refine JC.skip ?_ | refine JC.exit ?_ | refine JL.nil ?_ | refine JE.next ?_ | refine JE.blk_normal ?_ | refine JE.then_exit ?_ | refine JE.blk_hit ?_ | refine JE.blk_miss rfl ?_ | refine JE.then_ret ?_ | refine JE.blk_ret ?_ | refine JC.label ?_ | refine JL.gon rfl rfl ?_ | refine JL.gskip rfl rfl rfl rfl ?_ | refine JL.gskipU rfl rfl rfl rfl ?_)
  refine JL.store_eq (b := y.p) (r := [.slice (some ⟨y.q1, 0, none⟩) sn.length y.c1, .slice (some ⟨b2, 0, none⟩) sn.length cap2, accV (some (b3, 0)) 0, accV y.a2 (whc ws).length]) (r' := [.slice (some ⟨y.q1, 0, none⟩) sn.length y.c1, .slice (some ⟨b2, 0, none⟩) sn.length cap2, accV (some (b3, 0)) 0, accV (some (b4, 0)) 0]) bs1 rfl rfl rfl rfl (.there (.there (.there .here))) (show 3 < 4 by decide) rfl ?_
  repeat (first | refine JL.q (by first | (apply OQ.move; exact rfl) | (apply OQ.assign; exact rfl) | (apply OQ.nilc; exact rfl) | (apply OQ.len; exact rfl; exact rfl) | (apply OQ.lssN; exact rfl; exact rfl) | (apply OQ.gtrN; exact rfl; exact rfl) | (apply OQ.idxS; exact rfl; exact rfl; exact rfl; exact rfl; exact (by (try simp only []); omega)) | (apply OQ.fld; exact rfl; exact rfl; exact rfl; exact (by decide); exact rfl)) rfl ?_ | refine JC.seq ?_ | refine JC.region ?_ | refine JC.block ?_ | refine JC.skip ?_ | refine JC.exit ?_ | refine JL.nil ?_ | refine JE.next ?_ | refine JE.blk_normal ?_ | refine JE.then_exit ?_ | refine JE.blk_hit ?_ | refine JE.blk_miss rfl ?_ | refine JE.then_ret ?_ | refine JE.blk_ret ?_ | refine JC.label ?_ | refine JL.gon rfl rfl ?_ | refine JL.gskip rfl rfl rfl rfl ?_ | refine JL.gskipU rfl rfl rfl rfl ?_)
  refine JE.end0 rfl fun w' hw' => ⟨((b2, cap2), b3, b4), rfl, ?_⟩
  have hw2 := (hw'.weak (less_pre [_, _, _, _, _] _)).perm' ((List.perm_append_comm (l₁ := [_, _, _]) (l₂ := [_, _])).trans (List.Perm.append_left [_, _] (List.reverse_perm [_, _, _]).symm))
  exact hw2
end Go.Proofs.Ytopdkpeahhnihaa
