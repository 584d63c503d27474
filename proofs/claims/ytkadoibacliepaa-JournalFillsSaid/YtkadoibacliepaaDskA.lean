/-
  Of no statement by itself: the landed disk as blocks of memory; has, Size, Pending, New, Read, Sync, doneBytes.
  Conditions: each theorem's own.
-/
import Derived.Test.YtkadoibacliepaaSlcc
import Derived.Test.YtkadoibacliepaaTyp
import Derived.Test.YtkadoibacliepaaSlk
import Derived.Test.YtkadoibacliepaaSli
import Derived.Test.YtkadoibacliepaaDskP
import Derived.Laws.Tables
namespace Go.Proofs.Ytkadoibacliepaa
set_option maxRecDepth 10000
open Sl Dsk
theorem dkB : szT Try.prog 83 = some 64 := by kernel_rfl
theorem dkAg : aggT Try.prog 83 = true := by kernel_rfl
theorem dkZ : zc Try.prog 83 = some (List.replicate 64 (.int .u8 0)) := by kernel_rfl
theorem dkI : EI Try.prog 83 (.agg (List.replicate 64 (.int .u8 0)).toArray) 64 64 := by unfold EI; kernel_rfl
theorem dwI : EI Try.prog 115 (.agg (Value.int .i64 0 :: List.replicate 64 (.int .u8 0)).toArray) 65 72 := by unfold EI; kernel_rfl
theorem dwB : szT Try.prog 115 = some 65 := by kernel_rfl
theorem dwAg : aggT Try.prog 115 = true := by kernel_rfl
theorem dwZ : zc Try.prog 115 = some (Value.int .i64 0 :: List.replicate 64 (.int .u8 0)) := by kernel_rfl
theorem bsC : scal Try.prog 22 = true := by kernel_rfl
theorem bs1 : szT Try.prog 22 = some 1 := by kernel_rfl
theorem wsC : scal Try.prog 109 = true := by kernel_rfl
theorem ws1 : szT Try.prog 109 = some 1 := by kernel_rfl
theorem intC : scal Try.prog 3 = true := by kernel_rfl
/-- the cells of a block, of a write -/
def bc (b : Bk) : List Value := b.map U8
def wc (w : Nat × Bk) : List Value := N w.1 :: bc w.2
def bcs (bl : List Bk) : List (List Value) := bl.map bc
def wcs (pd : List (Nat × Bk)) : List (List Value) := pd.map wc
/-- where a disk's struct and its blocks stand, how many there is room for, and where what is pending stands -/
structure Dp where
  p : Nat
  q : Nat
  cap : Nat
  a : Acc
def dkRow (x : Dp) (bl : List Bk) (pd : List (Nat × Bk)) : List Value := [.slice (some ⟨x.q, 0, none⟩) bl.length x.cap, accV x.a pd.length]
def dkE (x : Dp) (bl : List Bk) (pd : List (Nat × Bk)) : List Ent :=
  ⟨x.p, Row 111 (dkRow x bl pd), true⟩ :: ⟨x.q, Sl.Own 83 64 bl.length x.cap (bcs bl).flatten, true⟩ :: accC 115 65 x.a (wcs pd)
theorem dkE_wr (x : Dp) (bl : List Bk) (pd : List (Nat × Bk)) : ∀ e ∈ dkE x bl pd, e.wr = true := by
  intro e he
  rcases List.mem_cons.1 he with rfl | he
  · rfl
  · rcases List.mem_cons.1 he with rfl | he
    · rfl
    · exact accC_wr _ _ _ _ e he
/-- what must hold of a disk -/
structure DkOk (x : Dp) (bl : List Bk) (pd : List (Nat × Bk)) : Prop where
  ok : Ok bl pd
  n0 : 0 < bl.length
  n1 : bl.length ≤ 65536
  m : pd.length ≤ 1000000
  a : x.a = none → pd = []
theorem bc_len {b : Bk} (h : b.length = 64) : (bc b).length = 64 := by rw [bc, List.length_map]; exact h
theorem bcs_len {bl : List Bk} {pd : List (Nat × Bk)} (h : Ok bl pd) : ∀ c ∈ bcs bl, c.length = 64 := by
  intro c hc
  obtain ⟨b, hb, rfl⟩ := List.mem_map.1 hc
  exact bc_len (h.b b hb)
theorem wcs_len {bl : List Bk} {pd : List (Nat × Bk)} (h : Ok bl pd) : ∀ c ∈ wcs pd, c.length = 65 := by
  intro c hc
  obtain ⟨w, hw, rfl⟩ := List.mem_map.1 hc
  rw [wc, List.length_cons, bc_len (h.p w hw).2]
theorem bcs_at {bl : List Bk} {i : Nat} (h : i < bl.length) : (bcs bl).getD i [] = bc (old bl i) := by
  simp [bcs, old, h]
theorem wcs_at {pd : List (Nat × Bk)} {i : Nat} (h : i < pd.length) : (wcs pd).getD i [] = wc (nth pd i) := by
  simp [wcs, nth, h]
theorem bcs_set (bl : List Bk) (i : Nat) (b : Bk) : (bcs bl).set i (bc b) = bcs (bl.set i b) := by
  simp [bcs, List.map_set]
theorem bc_cell (b : Bk) : (bc b).all Value.oneCell' = true := by simp [bc, Value.oneCell']
theorem bcs_n (bl : List Bk) : (bcs bl).length = bl.length := List.length_map _
theorem wcs_n (pd : List (Nat × Bk)) : (wcs pd).length = pd.length := List.length_map _
theorem dk_cell {x : Dp} {bl : List Bk} {pd : List (Nat × Bk)} {w0 w : World} {S : List Nat} {M : List Ent} (hw : Holds w0 S (dkE x bl pd ++ M) w) : w.cell? ⟨x.p, 0, none⟩ = some (.slice (some ⟨x.q, 0, none⟩) bl.length x.cap) ∧ w.cell? ⟨x.p, 1, none⟩ = some (accV x.a pd.length) := by
  obtain ⟨o, ho, hA⟩ := hw.get (b := x.p) (A := Row 111 (dkRow x bl pd)) (wr := true) .here
  exact ⟨cell_of ho (Row.cell rfl _ hA), cell_of ho (Row.cell rfl _ hA)⟩
theorem goes_has : Goes Try.prog 71 := ⟨_, Try.func71, rfl, by kernel_rfl⟩
theorem has_any (p : Nat) (ad : Option Addr) (len cap : Nat) (n : Int) (w : World) (hc : w.cell? ⟨p, 0, none⟩ = some (.slice ad len cap)) :
    Calls Try.prog 71 [Pt p 0, .int .i64 n].toArray w fun e w' => e = .returned (.bool (decide (0 ≤ n ∧ n < len))) ∧ Ext w w' := by
  refine enter (n := 16) Try.func71 rfl rfl rfl (Holds.start w []) ?_
  cases h1 : decide ((0 : Int) ≤ n)
  · repeat (first | refine JL.q (by first | (apply OQ.geqB (b := 0); exact rfl; exact rfl; exact h1) | (apply OQ.pick_f; exact rfl; exact rfl) | (apply OQ.move; exact rfl) | (apply OQ.assign; exact rfl) | (apply OQ.nilc; exact rfl) | (apply OQ.len; exact rfl; exact rfl) | (apply OQ.lssN; exact rfl; exact rfl) | (apply OQ.gtrN; exact rfl; exact rfl) | (apply OQ.fld; exact rfl; exact rfl; exact rfl; exact (by decide); exact rfl)) rfl ?_ | refine JC.seq ?_ | refine JC.region ?_ | refine JC.block ?_ | refine JC.skip ?_ | refine JC.exit ?_ | refine JL.nil ?_ | refine JE.next ?_ | refine JE.blk_normal ?_ | refine JE.then_exit ?_ | refine JE.blk_hit ?_ | refine JE.blk_miss rfl ?_ | refine JE.then_ret ?_ | refine JE.blk_ret ?_ | refine JC.label ?_ | refine JL.gon rfl rfl ?_ | refine JL.gskip rfl rfl rfl rfl ?_ | refine JL.gskipU rfl rfl rfl rfl ?_)
    refine JC.ret (JE.ret1 rfl (RV.tmp rfl) fun w' hw => ⟨?_, hw.chg⟩)
    rw [decide_eq_false fun h => of_decide_eq_false h1 h.1]
  · cases h2 : decide (n < (len : Int))
    · repeat (first | refine JL.q (by first | (apply OQ.geqB (b := 0); exact rfl; exact rfl; exact h1) | (apply OQ.load_old; exact bsC; exact rfl; exact (block_lt_of_cell hc); exact (by simp); exact hc) | (apply OQ.len; exact Try.underlying22; exact rfl) | (apply OQ.lssB; exact rfl; exact rfl; exact h2) | (apply OQ.pick_t; exact rfl; exact rfl) | (apply OQ.move; exact rfl) | (apply OQ.assign; exact rfl) | (apply OQ.nilc; exact rfl) | (apply OQ.len; exact rfl; exact rfl) | (apply OQ.lssN; exact rfl; exact rfl) | (apply OQ.gtrN; exact rfl; exact rfl) | (apply OQ.fld; exact rfl; exact rfl; exact rfl; exact (by decide); exact rfl)) rfl ?_ | refine JC.seq ?_ | refine JC.region ?_ | refine JC.block ?_ | refine JC.skip ?_ | refine JC.exit ?_ | refine JL.nil ?_ | refine JE.next ?_ | refine JE.blk_normal ?_ | refine JE.then_exit ?_ | refine JE.blk_hit ?_ | refine JE.blk_miss rfl ?_ | refine JE.then_ret ?_ | refine JE.blk_ret ?_ | refine JC.label ?_ | refine JL.gon rfl rfl ?_ | refine JL.gskip rfl rfl rfl rfl ?_ | refine JL.gskipU rfl rfl rfl rfl ?_)
      refine JC.ret (JE.ret1 rfl (RV.tmp rfl) fun w' hw => ⟨?_, hw.chg⟩)
      rw [decide_eq_false fun h => of_decide_eq_false h2 h.2]
    · repeat (first | refine JL.q (by first | (apply OQ.geqB (b := 0); exact rfl; exact rfl; exact h1) | (apply OQ.load_old; exact bsC; exact rfl; exact (block_lt_of_cell hc); exact (by simp); exact hc) | (apply OQ.len; exact Try.underlying22; exact rfl) | (apply OQ.lssB; exact rfl; exact rfl; exact h2) | (apply OQ.pick_t; exact rfl; exact rfl) | (apply OQ.move; exact rfl) | (apply OQ.assign; exact rfl) | (apply OQ.nilc; exact rfl) | (apply OQ.len; exact rfl; exact rfl) | (apply OQ.lssN; exact rfl; exact rfl) | (apply OQ.gtrN; exact rfl; exact rfl) | (apply OQ.fld; exact rfl; exact rfl; exact rfl; exact (by decide); exact rfl)) rfl ?_ | refine JC.seq ?_ | refine JC.region ?_ | refine JC.block ?_ | refine JC.skip ?_ | refine JC.exit ?_ | refine JL.nil ?_ | refine JE.next ?_ | refine JE.blk_normal ?_ | refine JE.then_exit ?_ | refine JE.blk_hit ?_ | refine JE.blk_miss rfl ?_ | refine JE.then_ret ?_ | refine JE.blk_ret ?_ | refine JC.label ?_ | refine JL.gon rfl rfl ?_ | refine JL.gskip rfl rfl rfl rfl ?_ | refine JL.gskipU rfl rfl rfl rfl ?_)
      refine JC.ret (JE.ret1 rfl (RV.tmp rfl) fun w' hw => ⟨?_, hw.chg⟩)
      rw [decide_eq_true ⟨of_decide_eq_true h1, of_decide_eq_true h2⟩]
theorem goes_size : Goes Try.prog 50 := ⟨_, Try.func50, rfl, by kernel_rfl⟩
theorem dsize_any (p : Nat) (ad : Option Addr) (len cap : Nat) (w : World) (hc : w.cell? ⟨p, 0, none⟩ = some (.slice ad len cap)) :
    Calls Try.prog 50 [Pt p 0].toArray w fun e w' => e = .returned (N len) ∧ Ext w w' := by
  refine enter (n := 8) Try.func50 rfl rfl rfl (Holds.start w []) ?_
  repeat (first | refine JL.q (by first | (apply OQ.load_old; exact bsC; exact rfl; exact (block_lt_of_cell hc); exact (by simp); exact hc) | (apply OQ.len; exact Try.underlying22; exact rfl) | (apply OQ.move; exact rfl) | (apply OQ.assign; exact rfl) | (apply OQ.nilc; exact rfl) | (apply OQ.len; exact rfl; exact rfl) | (apply OQ.lssN; exact rfl; exact rfl) | (apply OQ.gtrN; exact rfl; exact rfl) | (apply OQ.fld; exact rfl; exact rfl; exact rfl; exact (by decide); exact rfl)) rfl ?_ | refine JC.seq ?_ | refine JC.region ?_ | refine JC.block ?_ | refine JC.skip ?_ | refine JC.exit ?_ | refine JL.nil ?_ | refine JE.next ?_ | refine JE.blk_normal ?_ | refine JE.then_exit ?_ | refine JE.blk_hit ?_ | refine JE.blk_miss rfl ?_ | refine JE.then_ret ?_ | refine JE.blk_ret ?_ | refine JC.label ?_ | refine JL.gon rfl rfl ?_ | refine JL.gskip rfl rfl rfl rfl ?_ | refine JL.gskipU rfl rfl rfl rfl ?_)
  exact JC.ret (JE.ret1 rfl (RV.tmp rfl) fun w' hw => ⟨rfl, hw.chg⟩)
theorem goes_pending : Goes Try.prog 26 := ⟨_, Try.func26, rfl, by kernel_rfl⟩
theorem OQ.lenV {P : Program} {n : Nat} {E : Env} {C : World → Prop} {dst : Option Tmp} {t ty e : TypeId} {pos : String} {aft : Array Edge} {g : Option (Nat × Bool)} {x : Operand} {q : Acc} {k : Nat} (hu : P.underlying t = some (.slice e)) (hq : q = none → k = 0) (hx : ev E x = some (accV q k)) : OQ P n E C ⟨dst, .call ⟨.builtin .len, #[x], #[t]⟩, ty, pos, aft, g⟩ (N k) := by
  cases q with
  | none => obtain rfl := hq rfl; exact OQ.len hu hx
  | some r => exact OQ.len hu hx
theorem dpend_any (p : Nat) (q : Acc) (len : Nat) (hq : q = none → len = 0) (w : World) (hc : w.cell? ⟨p, 1, none⟩ = some (accV q len)) :
    Calls Try.prog 26 [Pt p 0].toArray w fun e w' => e = .returned (N len) ∧ Ext w w' := by
  refine enter (n := 8) Try.func26 rfl rfl rfl (Holds.start w []) ?_
  repeat (first | refine JL.q (by first | (apply OQ.load_old; exact wsC; exact rfl; exact (block_lt_of_cell hc); exact (by simp); exact hc) | (apply OQ.lenV; exact Try.underlying109; exact hq; exact rfl) | (apply OQ.move; exact rfl) | (apply OQ.assign; exact rfl) | (apply OQ.nilc; exact rfl) | (apply OQ.len; exact rfl; exact rfl) | (apply OQ.lssN; exact rfl; exact rfl) | (apply OQ.gtrN; exact rfl; exact rfl) | (apply OQ.fld; exact rfl; exact rfl; exact rfl; exact (by decide); exact rfl)) rfl ?_ | refine JC.seq ?_ | refine JC.region ?_ | refine JC.block ?_ | refine JC.skip ?_ | refine JC.exit ?_ | refine JL.nil ?_ | refine JE.next ?_ | refine JE.blk_normal ?_ | refine JE.then_exit ?_ | refine JE.blk_hit ?_ | refine JE.blk_miss rfl ?_ | refine JE.then_ret ?_ | refine JE.blk_ret ?_ | refine JC.label ?_ | refine JL.gon rfl rfl ?_ | refine JL.gskip rfl rfl rfl rfl ?_ | refine JL.gskipU rfl rfl rfl rfl ?_)
  exact JC.ret (JE.ret1 rfl (RV.tmp rfl) fun w' hw => ⟨rfl, hw.chg⟩)
theorem goes_done : Goes Try.prog 61 := ⟨_, Try.func61, rfl, by kernel_rfl⟩
theorem done_any (p : Bt) (w : World) : Calls Try.prog 61 [U8 p].toArray w fun e w' => e = .returned (N (doneB p)) ∧ Ext w w' := by
  refine enter (n := 13) Try.func61 rfl rfl rfl (Holds.start w []) ?_
  have h3 : (3#8).toNat = 3 := rfl
  have e0 : (p % 3#8).toNat = p.toNat % 3 := BitVec.toNat_umod
  have e1 : (p / 3#8).toNat = p.toNat / 3 := BitVec.toNat_udiv
  cases h1 : decide (((p % 3#8).toNat : Int) = 1)
  · cases h2 : decide (((p % 3#8).toNat : Int) = 2)
    · repeat (first | refine JL.q (by first | (apply OQ.rem8 (b := 3#8); exact rfl; exact rfl; exact (by decide)) | (apply OQ.eqB (b := 1); exact rfl; exact rfl; exact h1) | (apply OQ.eqB (b := 2); exact rfl; exact rfl; exact h2) | (apply OQ.move; exact rfl) | (apply OQ.assign; exact rfl) | (apply OQ.nilc; exact rfl) | (apply OQ.len; exact rfl; exact rfl) | (apply OQ.lssN; exact rfl; exact rfl) | (apply OQ.gtrN; exact rfl; exact rfl) | (apply OQ.fld; exact rfl; exact rfl; exact rfl; exact (by decide); exact rfl)) rfl ?_ | refine JC.seq ?_ | refine JC.region ?_ | refine JC.block ?_ | refine JC.skip ?_ | refine JC.exit ?_ | refine JL.nil ?_ | refine JE.next ?_ | refine JE.blk_normal ?_ | refine JE.then_exit ?_ | refine JE.blk_hit ?_ | refine JE.blk_miss rfl ?_ | refine JE.then_ret ?_ | refine JE.blk_ret ?_ | refine JC.label ?_ | refine JL.gon rfl rfl ?_ | refine JL.gskip rfl rfl rfl rfl ?_ | refine JL.gskipU rfl rfl rfl rfl ?_)
      refine JC.cond_false rfl rfl ?_
      repeat (first | refine JL.q (by first | (apply OQ.eqB (b := 2); exact rfl; exact rfl; exact h2) | (apply OQ.move; exact rfl) | (apply OQ.assign; exact rfl) | (apply OQ.nilc; exact rfl) | (apply OQ.len; exact rfl; exact rfl) | (apply OQ.lssN; exact rfl; exact rfl) | (apply OQ.gtrN; exact rfl; exact rfl) | (apply OQ.fld; exact rfl; exact rfl; exact rfl; exact (by decide); exact rfl)) rfl ?_ | refine JC.seq ?_ | refine JC.region ?_ | refine JC.block ?_ | refine JC.skip ?_ | refine JC.exit ?_ | refine JL.nil ?_ | refine JE.next ?_ | refine JE.blk_normal ?_ | refine JE.then_exit ?_ | refine JE.blk_hit ?_ | refine JE.blk_miss rfl ?_ | refine JE.then_ret ?_ | refine JE.blk_ret ?_ | refine JC.label ?_ | refine JL.gon rfl rfl ?_ | refine JL.gskip rfl rfl rfl rfl ?_ | refine JL.gskipU rfl rfl rfl rfl ?_)
      refine JC.cond_false rfl rfl ?_
      repeat (first | refine JL.q (by first | (apply OQ.move; exact rfl) | (apply OQ.assign; exact rfl) | (apply OQ.nilc; exact rfl) | (apply OQ.len; exact rfl; exact rfl) | (apply OQ.lssN; exact rfl; exact rfl) | (apply OQ.gtrN; exact rfl; exact rfl) | (apply OQ.fld; exact rfl; exact rfl; exact rfl; exact (by decide); exact rfl)) rfl ?_ | refine JC.seq ?_ | refine JC.region ?_ | refine JC.block ?_ | refine JC.skip ?_ | refine JC.exit ?_ | refine JL.nil ?_ | refine JE.next ?_ | refine JE.blk_normal ?_ | refine JE.then_exit ?_ | refine JE.blk_hit ?_ | refine JE.blk_miss rfl ?_ | refine JE.then_ret ?_ | refine JE.blk_ret ?_ | refine JC.label ?_ | refine JL.gon rfl rfl ?_ | refine JL.gskip rfl rfl rfl rfl ?_ | refine JL.gskipU rfl rfl rfl rfl ?_)
      refine JC.ret (JE.ret1 rfl (RV.tmp rfl) fun w' hw => ⟨?_, hw.chg⟩)
      have h1 := of_decide_eq_false h1
      have h2 := of_decide_eq_false h2
      unfold doneB
      rw [if_neg (by omega), if_neg (by omega)]
      rfl
    · repeat (first | refine JL.q (by first | (apply OQ.rem8 (b := 3#8); exact rfl; exact rfl; exact (by decide)) | (apply OQ.eqB (b := 1); exact rfl; exact rfl; exact h1) | (apply OQ.eqB (b := 2); exact rfl; exact rfl; exact h2) | (apply OQ.move; exact rfl) | (apply OQ.assign; exact rfl) | (apply OQ.nilc; exact rfl) | (apply OQ.len; exact rfl; exact rfl) | (apply OQ.lssN; exact rfl; exact rfl) | (apply OQ.gtrN; exact rfl; exact rfl) | (apply OQ.fld; exact rfl; exact rfl; exact rfl; exact (by decide); exact rfl)) rfl ?_ | refine JC.seq ?_ | refine JC.region ?_ | refine JC.block ?_ | refine JC.skip ?_ | refine JC.exit ?_ | refine JL.nil ?_ | refine JE.next ?_ | refine JE.blk_normal ?_ | refine JE.then_exit ?_ | refine JE.blk_hit ?_ | refine JE.blk_miss rfl ?_ | refine JE.then_ret ?_ | refine JE.blk_ret ?_ | refine JC.label ?_ | refine JL.gon rfl rfl ?_ | refine JL.gskip rfl rfl rfl rfl ?_ | refine JL.gskipU rfl rfl rfl rfl ?_)
      refine JC.cond_false rfl rfl ?_
      repeat (first | refine JL.q (by first | (apply OQ.eqB (b := 2); exact rfl; exact rfl; exact h2) | (apply OQ.move; exact rfl) | (apply OQ.assign; exact rfl) | (apply OQ.nilc; exact rfl) | (apply OQ.len; exact rfl; exact rfl) | (apply OQ.lssN; exact rfl; exact rfl) | (apply OQ.gtrN; exact rfl; exact rfl) | (apply OQ.fld; exact rfl; exact rfl; exact rfl; exact (by decide); exact rfl)) rfl ?_ | refine JC.seq ?_ | refine JC.region ?_ | refine JC.block ?_ | refine JC.skip ?_ | refine JC.exit ?_ | refine JL.nil ?_ | refine JE.next ?_ | refine JE.blk_normal ?_ | refine JE.then_exit ?_ | refine JE.blk_hit ?_ | refine JE.blk_miss rfl ?_ | refine JE.then_ret ?_ | refine JE.blk_ret ?_ | refine JC.label ?_ | refine JL.gon rfl rfl ?_ | refine JL.gskip rfl rfl rfl rfl ?_ | refine JL.gskipU rfl rfl rfl rfl ?_)
      refine JC.cond_true rfl rfl ?_
      repeat (first | refine JL.q (by first | (apply OQ.quo8 (b := 3#8); exact rfl; exact rfl; exact (by decide)) | (apply OQ.conv8_N; exact Try.underlying5; exact Try.underlying3; exact rfl) | (apply OQ.remN (b := 64); exact rfl; exact rfl; exact (by decide)) | (apply OQ.move; exact rfl) | (apply OQ.assign; exact rfl) | (apply OQ.nilc; exact rfl) | (apply OQ.len; exact rfl; exact rfl) | (apply OQ.lssN; exact rfl; exact rfl) | (apply OQ.gtrN; exact rfl; exact rfl) | (apply OQ.fld; exact rfl; exact rfl; exact rfl; exact (by decide); exact rfl)) rfl ?_ | refine JC.seq ?_ | refine JC.region ?_ | refine JC.block ?_ | refine JC.skip ?_ | refine JC.exit ?_ | refine JL.nil ?_ | refine JE.next ?_ | refine JE.blk_normal ?_ | refine JE.then_exit ?_ | refine JE.blk_hit ?_ | refine JE.blk_miss rfl ?_ | refine JE.then_ret ?_ | refine JE.blk_ret ?_ | refine JC.label ?_ | refine JL.gon rfl rfl ?_ | refine JL.gskip rfl rfl rfl rfl ?_ | refine JL.gskipU rfl rfl rfl rfl ?_)
      refine JC.ret ?_
      repeat (first | refine JL.q (by first | (apply OQ.move; exact rfl) | (apply OQ.assign; exact rfl) | (apply OQ.nilc; exact rfl) | (apply OQ.len; exact rfl; exact rfl) | (apply OQ.lssN; exact rfl; exact rfl) | (apply OQ.gtrN; exact rfl; exact rfl) | (apply OQ.fld; exact rfl; exact rfl; exact rfl; exact (by decide); exact rfl)) rfl ?_ | refine JC.seq ?_ | refine JC.region ?_ | refine JC.block ?_ | refine JC.skip ?_ | refine JC.exit ?_ | refine JL.nil ?_ | refine JE.next ?_ | refine JE.blk_normal ?_ | refine JE.then_exit ?_ | refine JE.blk_hit ?_ | refine JE.blk_miss rfl ?_ | refine JE.then_ret ?_ | refine JE.blk_ret ?_ | refine JC.label ?_ | refine JL.gon rfl rfl ?_ | refine JL.gskip rfl rfl rfl rfl ?_ | refine JL.gskipU rfl rfl rfl rfl ?_)
      refine (JE.ret1 rfl (RV.tmp rfl) fun w' hw => ⟨?_, hw.chg⟩)
      have h1 := of_decide_eq_false h1
      have h2 := of_decide_eq_true h2
      unfold doneB
      rw [if_neg (by omega), if_pos (by omega), e1]
  · repeat (first | refine JL.q (by first | (apply OQ.rem8 (b := 3#8); exact rfl; exact rfl; exact (by decide)) | (apply OQ.eqB (b := 1); exact rfl; exact rfl; exact h1) | (apply OQ.move; exact rfl) | (apply OQ.assign; exact rfl) | (apply OQ.nilc; exact rfl) | (apply OQ.len; exact rfl; exact rfl) | (apply OQ.lssN; exact rfl; exact rfl) | (apply OQ.gtrN; exact rfl; exact rfl) | (apply OQ.fld; exact rfl; exact rfl; exact rfl; exact (by decide); exact rfl)) rfl ?_ | refine JC.seq ?_ | refine JC.region ?_ | refine JC.block ?_ | refine JC.skip ?_ | refine JC.exit ?_ | refine JL.nil ?_ | refine JE.next ?_ | refine JE.blk_normal ?_ | refine JE.then_exit ?_ | refine JE.blk_hit ?_ | refine JE.blk_miss rfl ?_ | refine JE.then_ret ?_ | refine JE.blk_ret ?_ | refine JC.label ?_ | refine JL.gon rfl rfl ?_ | refine JL.gskip rfl rfl rfl rfl ?_ | refine JL.gskipU rfl rfl rfl rfl ?_)
    refine JC.cond_true rfl rfl ?_
    repeat (first | refine JL.q (by first | (apply OQ.move; exact rfl) | (apply OQ.assign; exact rfl) | (apply OQ.nilc; exact rfl) | (apply OQ.len; exact rfl; exact rfl) | (apply OQ.lssN; exact rfl; exact rfl) | (apply OQ.gtrN; exact rfl; exact rfl) | (apply OQ.fld; exact rfl; exact rfl; exact rfl; exact (by decide); exact rfl)) rfl ?_ | refine JC.seq ?_ | refine JC.region ?_ | refine JC.block ?_ | refine JC.skip ?_ | refine JC.exit ?_ | refine JL.nil ?_ | refine JE.next ?_ | refine JE.blk_normal ?_ | refine JE.then_exit ?_ | refine JE.blk_hit ?_ | refine JE.blk_miss rfl ?_ | refine JE.then_ret ?_ | refine JE.blk_ret ?_ | refine JC.label ?_ | refine JL.gon rfl rfl ?_ | refine JL.gskip rfl rfl rfl rfl ?_ | refine JL.gskipU rfl rfl rfl rfl ?_)
    refine JC.ret ?_
    repeat (first | refine JL.q (by first | (apply OQ.move; exact rfl) | (apply OQ.assign; exact rfl) | (apply OQ.nilc; exact rfl) | (apply OQ.len; exact rfl; exact rfl) | (apply OQ.lssN; exact rfl; exact rfl) | (apply OQ.gtrN; exact rfl; exact rfl) | (apply OQ.fld; exact rfl; exact rfl; exact rfl; exact (by decide); exact rfl)) rfl ?_ | refine JC.seq ?_ | refine JC.region ?_ | refine JC.block ?_ | refine JC.skip ?_ | refine JC.exit ?_ | refine JL.nil ?_ | refine JE.next ?_ | refine JE.blk_normal ?_ | refine JE.then_exit ?_ | refine JE.blk_hit ?_ | refine JE.blk_miss rfl ?_ | refine JE.then_ret ?_ | refine JE.blk_ret ?_ | refine JC.label ?_ | refine JL.gon rfl rfl ?_ | refine JL.gskip rfl rfl rfl rfl ?_ | refine JL.gskipU rfl rfl rfl rfl ?_)
    refine (JE.ret1 rfl (RV.tmp rfl) fun w' hw => ⟨?_, hw.chg⟩)
    have h1 := of_decide_eq_true h1
    unfold doneB
    rw [if_pos (by omega)]
    rfl
end Go.Proofs.Ytkadoibacliepaa
