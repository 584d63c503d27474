/-
  Of no statement by itself: the texts DskP, DskA, DskB, Slf, Slfi, Slgr, Slfr, Slrw, DskC, DskD, DskE, Sliv, JrnP, NumP, NumA, JrnA, DskL, JrnM, JrnB, Slal in one.
  Conditions: each theorem's own.
-/
import Derived.Test.YtjkncnbpaejamaaXa
import Init
import Derived.Laws.Tables
import Derived.RangeFuncWrites
import Derived.RangeFuncLeaves
import Derived.TacticsIn
import Derived.Shelf.Abstract
import Derived.OrdersIn
import Derived.Laws.Cover3
import Derived.Laws.StructEq
set_option linter.unusedSimpArgs false
set_option linter.unusedVariables false
/-
  Of no statement by itself: what a disk of blocks does, by definition: writes, a sync, a crash that undoes and redoes; facts of these.
  Conditions: each theorem's own.
-/
namespace Go.Proofs.Ytjkncnbpaejamaa
namespace Dsk
abbrev Bk := List (BitVec 8)
structure Dk where
  bl : List Bk
  pd : List (Nat × Bk)
structure Ok (bl : List Bk) (pd : List (Nat × Bk)) : Prop where
  b : ∀ x ∈ bl, x.length = 64
  p : ∀ x ∈ pd, x.1 < bl.length ∧ x.2.length = 64
def zero : Bk := List.replicate 64 0
def newB (n : Nat) : List Bk := List.replicate n zero
def old (bl : List Bk) (n : Nat) : Bk := bl.getD n []
def nth (pd : List (Nat × Bk)) (i : Nat) : Nat × Bk := pd.getD i (0, [])
def wrote (bl : List Bk) (pd : List (Nat × Bk)) (n : Nat) : List (Nat × Bk) := pd ++ [(n, old bl n)]
/-- one write undone -/
def step (s : List Bk × List (Nat × Bk)) (i : Nat) : List Bk × List (Nat × Bk) :=
  (s.1.set (nth s.2 i).1 (nth s.2 i).2, s.2.set i ((nth s.2 i).1, old s.1 (nth s.2 i).1))
def run (s : List Bk × List (Nat × Bk)) (l : List Nat) : List Bk × List (Nat × Bk) := l.foldl step s
def down (m : Nat) : List Nat := (List.range m).reverse
def undoN (bl : List Bk) (pd : List (Nat × Bk)) (k : Nat) : List Bk × List (Nat × Bk) := run (bl, pd) ((down pd.length).take k)
def undo (bl : List Bk) (pd : List (Nat × Bk)) : List Bk × List (Nat × Bk) := undoN bl pd pd.length
def doneB (p : BitVec 8) : Nat := if p.toNat % 3 = 1 then 64 else if p.toNat % 3 = 2 then p.toNat / 3 % 64 else 0
def pick (picks : List (BitVec 8)) (i : Nat) : BitVec 8 := if picks = [] then 0 else picks.getD (i % picks.length) 0
def part (bl : List Bk) (w : Nat × Bk) (n : Nat) : List Bk := bl.set w.1 (w.2.take n ++ (old bl w.1).drop n)
def redoN (picks : List (BitVec 8)) (bl : List Bk) (ws : List (Nat × Bk)) (k : Nat) : List Bk :=
  (List.range k).foldl (fun l i => part l (nth ws i) (doneB (pick picks i))) bl
def crash (picks : List (BitVec 8)) (bl : List Bk) (pd : List (Nat × Bk)) : List Bk := redoN picks (undo bl pd).1 (undo bl pd).2 (undo bl pd).2.length

theorem doneB_le (p : BitVec 8) : doneB p ≤ 64 := by
  unfold doneB
  split
  · omega
  · split <;> omega
theorem down_len (m : Nat) : (down m).length = m := by simp [down]
theorem down_succ (m : Nat) : down (m + 1) = m :: down m := by simp [down, List.range_succ]
theorem down_get {m k : Nat} (h : k < m) : (down m)[k]? = some (m - 1 - k) := by
  unfold down
  rw [List.getElem?_reverse (by simpa using h)]
  simp only [List.length_range]
  rw [List.getElem?_range (by omega)]
theorem down_lt {m i : Nat} (h : i ∈ down m) : i < m := by simpa [down] using h
theorem undoN_zero (bl : List Bk) (pd : List (Nat × Bk)) : undoN bl pd 0 = (bl, pd) := by simp [undoN, run]
theorem undoN_succ {bl : List Bk} {pd : List (Nat × Bk)} {k : Nat} (h : k < pd.length) : undoN bl pd (k + 1) = step (undoN bl pd k) (pd.length - 1 - k) := by
  unfold undoN run
  rw [List.take_add_one, down_get h, List.foldl_append]
  rfl
theorem redoN_zero (picks : List (BitVec 8)) (bl : List Bk) (ws : List (Nat × Bk)) : redoN picks bl ws 0 = bl := by simp [redoN]
theorem redoN_succ (picks : List (BitVec 8)) (bl : List Bk) (ws : List (Nat × Bk)) (k : Nat) : redoN picks bl ws (k + 1) = part (redoN picks bl ws k) (nth ws k) (doneB (pick picks k)) := by
  unfold redoN
  rw [List.range_succ, List.foldl_append]
  rfl

theorem nth_mem {pd : List (Nat × Bk)} {i : Nat} (h : i < pd.length) : nth pd i ∈ pd := by
  unfold nth
  rw [List.getD_eq_getElem?_getD, List.getElem?_eq_getElem h]
  exact List.getElem_mem _
theorem old_mem {bl : List Bk} {i : Nat} (h : i < bl.length) : old bl i ∈ bl := by
  unfold old
  rw [List.getD_eq_getElem?_getD, List.getElem?_eq_getElem h]
  exact List.getElem_mem _
theorem mem_set {α : Type} {l : List α} {i : Nat} {a x : α} (h : x ∈ l.set i a) : x ∈ l ∨ x = a := List.mem_or_eq_of_mem_set h
theorem Ok.new (n : Nat) : Ok (newB n) [] := ⟨fun x hx => by rw [List.eq_of_mem_replicate hx]; rfl, by simp⟩
theorem Ok.old {bl : List Bk} {pd : List (Nat × Bk)} (h : Ok bl pd) {n : Nat} (hn : n < bl.length) : (old bl n).length = 64 := h.b _ (old_mem hn)
theorem Ok.write {bl : List Bk} {pd : List (Nat × Bk)} (h : Ok bl pd) {n : Nat} {b : Bk} (hn : n < bl.length) (hb : b.length = 64) : Ok (bl.set n b) (wrote bl pd n) := by
  refine ⟨fun x hx => ?_, fun x hx => ?_⟩
  · rcases mem_set hx with hx | rfl
    · exact h.b x hx
    · exact hb
  · rw [List.length_set]
    rcases List.mem_append.1 hx with hx | hx
    · exact h.p x hx
    · obtain rfl := List.mem_singleton.1 hx
      exact ⟨hn, h.old hn⟩
theorem Ok.sync {bl : List Bk} {pd : List (Nat × Bk)} (h : Ok bl pd) : Ok bl [] := ⟨h.b, by simp⟩
theorem Ok.step {s : List Bk × List (Nat × Bk)} (h : Ok s.1 s.2) {i : Nat} (hi : i < s.2.length) : Ok (step s i).1 (step s i).2 := by
  have h1 := h.p _ (nth_mem hi)
  refine ⟨fun x hx => ?_, fun x hx => ?_⟩
  · rcases mem_set hx with hx | rfl
    · exact h.b x hx
    · exact h1.2
  · show _ < (s.1.set _ _).length ∧ _
    rw [List.length_set]
    rcases mem_set hx with hx | rfl
    · exact h.p x hx
    · exact ⟨h1.1, h.old h1.1⟩
theorem step_len (s : List Bk × List (Nat × Bk)) (i : Nat) : (step s i).1.length = s.1.length ∧ (step s i).2.length = s.2.length := by simp [step]
theorem undoN_len (bl : List Bk) (pd : List (Nat × Bk)) : ∀ k, k ≤ pd.length → (undoN bl pd k).1.length = bl.length ∧ (undoN bl pd k).2.length = pd.length
  | 0, _ => by simp [undoN_zero]
  | k + 1, h => by
    have ih := undoN_len bl pd k (by omega)
    rw [undoN_succ h]
    have := step_len (undoN bl pd k) (pd.length - 1 - k)
    omega
theorem Ok.undoN {bl : List Bk} {pd : List (Nat × Bk)} (h : Ok bl pd) : ∀ k, k ≤ pd.length → Ok (undoN bl pd k).1 (undoN bl pd k).2
  | 0, _ => by rw [undoN_zero]; exact h
  | k + 1, hk => by
    rw [undoN_succ hk]
    exact (Ok.undoN h k (by omega)).step (by rw [(undoN_len bl pd k (by omega)).2]; omega)
theorem undo_len (bl : List Bk) (pd : List (Nat × Bk)) : (undo bl pd).1.length = bl.length ∧ (undo bl pd).2.length = pd.length := undoN_len bl pd _ (Nat.le_refl _)
theorem Ok.undo {bl : List Bk} {pd : List (Nat × Bk)} (h : Ok bl pd) : Ok (undo bl pd).1 (undo bl pd).2 := h.undoN _ (Nat.le_refl _)
theorem part_len (bl : List Bk) (w : Nat × Bk) (n : Nat) : (part bl w n).length = bl.length := by simp [part]
theorem Ok.part {bl : List Bk} {ws : List (Nat × Bk)} (h : Ok bl ws) {w : Nat × Bk} (hw : w ∈ ws) {n : Nat} (hn : n ≤ 64) : Ok (part bl w n) ws := by
  obtain ⟨h1, h2⟩ := h.p w hw
  refine ⟨fun x hx => ?_, fun x hx => by rw [part_len]; exact h.p x hx⟩
  rcases mem_set hx with hx | rfl
  · exact h.b x hx
  · have := h.old h1
    simp only [List.length_append, List.length_take, List.length_drop]
    omega
theorem redoN_len (picks : List (BitVec 8)) (bl : List Bk) (ws : List (Nat × Bk)) : ∀ k, (redoN picks bl ws k).length = bl.length
  | 0 => by rw [redoN_zero]
  | k + 1 => by rw [redoN_succ, part_len, redoN_len picks bl ws k]
theorem Ok.redoN {picks : List (BitVec 8)} {bl : List Bk} {ws : List (Nat × Bk)} (h : Ok bl ws) : ∀ k, k ≤ ws.length → Ok (redoN picks bl ws k) ws
  | 0, _ => by rw [redoN_zero]; exact h
  | k + 1, hk => by
    rw [redoN_succ]
    exact (Ok.redoN h k (by omega)).part (nth_mem hk) (doneB_le _)
theorem crash_len (picks : List (BitVec 8)) (bl : List Bk) (pd : List (Nat × Bk)) : (crash picks bl pd).length = bl.length := by
  unfold crash
  rw [redoN_len, (undo_len bl pd).1]
theorem Ok.crash {picks : List (BitVec 8)} {bl : List Bk} {pd : List (Nat × Bk)} (h : Ok bl pd) : Ok (crash picks bl pd) [] := (h.undo.redoN _ (Nat.le_refl _)).sync

/-! ### what is undone of one more write -/
theorem run_snoc : ∀ (is : List Nat) (l : List Bk) (ws : List (Nat × Bk)) (x : Nat × Bk), (∀ i ∈ is, i < ws.length) → run (l, ws ++ [x]) is = ((run (l, ws) is).1, (run (l, ws) is).2 ++ [x])
  | [], l, ws, x, _ => rfl
  | i :: is, l, ws, x, h => by
    have hi := h i (by simp)
    have e1 : nth (ws ++ [x]) i = nth ws i := by simp [nth, List.getD_eq_getElem?_getD, List.getElem?_append_left hi]
    have e2 : step (l, ws ++ [x]) i = ((step (l, ws) i).1, (step (l, ws) i).2 ++ [x]) := by
      unfold step
      simp only [e1, List.set_append_left _ _ hi]
    show run (step (l, ws ++ [x]) i) is = _
    rw [e2]
    exact run_snoc is _ _ x fun j hj => by
      have h1 : (step (l, ws) i).2.length = ws.length := (step_len (l, ws) i).2
      have h2 := h j (by simp [hj])
      rw [h1]
      exact h2
theorem set_back {bl : List Bk} {n : Nat} {b : Bk} : (bl.set n b).set n (old bl n) = bl := by
  rw [List.set_set]
  apply List.ext_getElem?
  intro i
  rw [List.getElem?_set]
  by_cases h : n = i
  · subst h
    by_cases hl : n < bl.length
    · simp [hl, old]
    · simp [hl]
  · simp [h]
theorem undo_write {bl : List Bk} {pd : List (Nat × Bk)} {n : Nat} {b : Bk} (hn : n < bl.length) : undo (bl.set n b) (wrote bl pd n) = ((undo bl pd).1, (undo bl pd).2 ++ [(n, b)]) := by
  have hl : (wrote bl pd n).length = pd.length + 1 := by simp [wrote]
  have e0 : undo (bl.set n b) (wrote bl pd n) = run (bl.set n b, wrote bl pd n) (down (pd.length + 1)) := by
    unfold undo undoN
    rw [hl, List.take_of_length_le (by rw [down_len]; exact Nat.le_refl _)]
  have e1 : undo bl pd = run (bl, pd) (down pd.length) := by
    unfold undo undoN
    rw [List.take_of_length_le (by rw [down_len]; exact Nat.le_refl _)]
  have e2 : nth (wrote bl pd n) pd.length = (n, old bl n) := by simp [nth, wrote]
  have e3 : step (bl.set n b, wrote bl pd n) pd.length = (bl, pd ++ [(n, b)]) := by
    unfold step
    simp only [e2, set_back]
    congr 1
    have : old (bl.set n b) n = b := by simp [old, hn]
    rw [this]
    simp [wrote]
  rw [e0, e1, down_succ]
  show run (step _ _) _ = _
  rw [e3]
  exact run_snoc _ _ _ _ fun i hi => down_lt hi

/-! ### a block that nothing is written to -/
theorem old_set_ne {bl : List Bk} {n j : Nat} {b : Bk} (h : n ≠ j) : old (bl.set n b) j = old bl j := by simp [old, List.getD_eq_getElem?_getD, List.getElem?_set, h]
theorem old_set {bl : List Bk} {n : Nat} {b : Bk} (h : n < bl.length) : old (bl.set n b) n = b := by simp [old, h]
end Dsk
end Go.Proofs.Ytjkncnbpaejamaa

/-
  Of no statement by itself: the landed disk as blocks of memory; has, Size, Pending, New, Read, Sync, doneBytes.
  Conditions: each theorem's own.
-/
namespace Go.Proofs.Ytjkncnbpaejamaa
set_option maxRecDepth 10000
open Sl Dsk
theorem dkB : szT Try.prog 51 = some 64 := by kernel_rfl
theorem dkAg : aggT Try.prog 51 = true := by kernel_rfl
theorem dkZ : zc Try.prog 51 = some (List.replicate 64 (.int .u8 0)) := by kernel_rfl
theorem dkI : EI Try.prog 51 (.agg (List.replicate 64 (.int .u8 0)).toArray) 64 64 := by unfold EI; kernel_rfl
theorem dwI : EI Try.prog 88 (.agg (Value.int .i64 0 :: List.replicate 64 (.int .u8 0)).toArray) 65 72 := by unfold EI; kernel_rfl
theorem dwB : szT Try.prog 88 = some 65 := by kernel_rfl
theorem dwAg : aggT Try.prog 88 = true := by kernel_rfl
theorem dwZ : zc Try.prog 88 = some (Value.int .i64 0 :: List.replicate 64 (.int .u8 0)) := by kernel_rfl
theorem bsC : scal Try.prog 48 = true := by kernel_rfl
theorem wsC : scal Try.prog 61 = true := by kernel_rfl
theorem ws1 : szT Try.prog 61 = some 1 := by kernel_rfl
theorem intC : scal Try.prog 3 = true := by kernel_rfl
/-- the cells of a block, of a write -/
def bc (b : Bk) : List Value := b.map U8
def wc (w : Nat × Bk) : List Value := N w.1 :: bc w.2
def bcs (bl : List Bk) : List (List Value) := bl.map bc
def wcs (pd : List (Nat × Bk)) : List (List Value) := pd.map wc
/-- where a disk's struct and its blocks stand, how many there is room for, and where what is pending stands -/
structure Dp where
  p : Nat
  q : Nat
  cap : Nat
  a : Acc
def dkRow (x : Dp) (bl : List Bk) (pd : List (Nat × Bk)) : List Value := [.slice (some ⟨x.q, 0, none⟩) bl.length x.cap, accV x.a pd.length]
def dkE (x : Dp) (bl : List Bk) (pd : List (Nat × Bk)) : List Ent :=
  ⟨x.p, Row 63 (dkRow x bl pd), true⟩ :: ⟨x.q, Sl.Own 51 64 bl.length x.cap (bcs bl).flatten, true⟩ :: accC 88 65 x.a (wcs pd)
theorem dkE_wr (x : Dp) (bl : List Bk) (pd : List (Nat × Bk)) : ∀ e ∈ dkE x bl pd, e.wr = true := by
  intro e he
  rcases List.mem_cons.1 he with rfl | he
  · rfl
  · rcases List.mem_cons.1 he with rfl | he
    · rfl
    · exact accC_wr _ _ _ _ e he
/-- what must hold of a disk -/
structure DkOk (x : Dp) (bl : List Bk) (pd : List (Nat × Bk)) : Prop where
  ok : Ok bl pd
  n0 : 0 < bl.length
  n1 : bl.length ≤ 65536
  m : pd.length ≤ 1000000
  a : x.a = none → pd = []
theorem bc_len {b : Bk} (h : b.length = 64) : (bc b).length = 64 := by rw [bc, List.length_map]; exact h
theorem bcs_len {bl : List Bk} {pd : List (Nat × Bk)} (h : Ok bl pd) : ∀ c ∈ bcs bl, c.length = 64 := by
  intro c hc
  obtain ⟨b, hb, rfl⟩ := List.mem_map.1 hc
  exact bc_len (h.b b hb)
theorem wcs_len {bl : List Bk} {pd : List (Nat × Bk)} (h : Ok bl pd) : ∀ c ∈ wcs pd, c.length = 65 := by
  intro c hc
  obtain ⟨w, hw, rfl⟩ := List.mem_map.1 hc
  rw [wc, List.length_cons, bc_len (h.p w hw).2]
theorem bcs_at {bl : List Bk} {i : Nat} (h : i < bl.length) : (bcs bl).getD i [] = bc (old bl i) := by
  simp [bcs, old, h]
theorem wcs_at {pd : List (Nat × Bk)} {i : Nat} (h : i < pd.length) : (wcs pd).getD i [] = wc (nth pd i) := by
  simp [wcs, nth, h]
theorem bcs_set (bl : List Bk) (i : Nat) (b : Bk) : (bcs bl).set i (bc b) = bcs (bl.set i b) := by
  simp [bcs, List.map_set]
theorem bc_cell (b : Bk) : (bc b).all Value.oneCell' = true := by simp [bc, Value.oneCell']
theorem bcs_n (bl : List Bk) : (bcs bl).length = bl.length := List.length_map _
theorem wcs_n (pd : List (Nat × Bk)) : (wcs pd).length = pd.length := List.length_map _
theorem dk_cell {x : Dp} {bl : List Bk} {pd : List (Nat × Bk)} {w0 w : World} {S : List Nat} {M : List Ent} (hw : Holds w0 S (dkE x bl pd ++ M) w) : w.cell? ⟨x.p, 0, none⟩ = some (.slice (some ⟨x.q, 0, none⟩) bl.length x.cap) ∧ w.cell? ⟨x.p, 1, none⟩ = some (accV x.a pd.length) := by
  obtain ⟨o, ho, hA⟩ := hw.get (b := x.p) (A := Row 63 (dkRow x bl pd)) (wr := true) .here
  exact ⟨cell_of ho (Row.cell rfl _ hA), cell_of ho (Row.cell rfl _ hA)⟩
theorem goes_has : Goes Try.prog 39 := ⟨_, Try.func39, rfl, by kernel_rfl⟩
theorem has_any (p : Nat) (ad : Option Addr) (len cap : Nat) (n : Int) (w : World) (hc : w.cell? ⟨p, 0, none⟩ = some (.slice ad len cap)) :
    Calls Try.prog 39 [Pt p 0, .int .i64 n].toArray w fun e w' => e = .returned (.bool (decide (0 ≤ n ∧ n < len))) ∧ Ext w w' := by
  refine enter (n := 16) Try.func39 rfl rfl rfl (Holds.start w []) ?_
  cases h1 : decide ((0 : Int) ≤ n)
  · repeat (first | refine JL.q (by first | (apply OQ.geqB (b := 0); exact rfl; exact rfl; exact h1) | (apply OQ.pick_f; exact rfl; exact rfl) | (apply OQ.move; exact rfl) | (apply OQ.assign; exact rfl)) rfl ?_ | refine JC.seq ?_ | refine JC.region ?_ | refine JL.nil ?_ | refine JE.next ?_ | refine JL.gskip rfl rfl rfl rfl ?_)
    refine JC.ret (JE.ret1 rfl (RV.tmp rfl) fun w' hw => ⟨?_, hw.chg⟩)
    rw [decide_eq_false fun h => of_decide_eq_false h1 h.1]
  · cases h2 : decide (n < (len : Int))
    · repeat (first | refine JL.q (by first | (apply OQ.geqB (b := 0); exact rfl; exact rfl; exact h1) | (apply OQ.load_old; exact bsC; exact rfl; exact (block_lt_of_cell hc); exact (by simp); exact hc) | (apply OQ.len; exact Try.underlying48; exact rfl) | (apply OQ.lssB; exact rfl; exact rfl; exact h2) | (apply OQ.pick_t; exact rfl; exact rfl) | (apply OQ.move; exact rfl) | (apply OQ.assign; exact rfl) | (apply OQ.nilc; exact rfl) | (apply OQ.fld; exact rfl; exact rfl; exact rfl; exact (by decide); exact rfl)) rfl ?_ | refine JC.seq ?_ | refine JC.region ?_ | refine JL.nil ?_ | refine JE.next ?_ | refine JL.gon rfl rfl ?_)
      refine JC.ret (JE.ret1 rfl (RV.tmp rfl) fun w' hw => ⟨?_, hw.chg⟩)
      rw [decide_eq_false fun h => of_decide_eq_false h2 h.2]
    · repeat (first | refine JL.q (by first | (apply OQ.geqB (b := 0); exact rfl; exact rfl; exact h1) | (apply OQ.load_old; exact bsC; exact rfl; exact (block_lt_of_cell hc); exact (by simp); exact hc) | (apply OQ.len; exact Try.underlying48; exact rfl) | (apply OQ.lssB; exact rfl; exact rfl; exact h2) | (apply OQ.pick_t; exact rfl; exact rfl) | (apply OQ.move; exact rfl) | (apply OQ.assign; exact rfl) | (apply OQ.nilc; exact rfl) | (apply OQ.fld; exact rfl; exact rfl; exact rfl; exact (by decide); exact rfl)) rfl ?_ | refine JC.seq ?_ | refine JC.region ?_ | refine JL.nil ?_ | refine JE.next ?_ | refine JL.gon rfl rfl ?_)
      refine JC.ret (JE.ret1 rfl (RV.tmp rfl) fun w' hw => ⟨?_, hw.chg⟩)
      rw [decide_eq_true ⟨of_decide_eq_true h1, of_decide_eq_true h2⟩]
theorem dsize_any (p : Nat) (ad : Option Addr) (len cap : Nat) (w : World) (hc : w.cell? ⟨p, 0, none⟩ = some (.slice ad len cap)) :
    Calls Try.prog 37 [Pt p 0].toArray w fun e w' => e = .returned (N len) ∧ Ext w w' := by
  refine enter (n := 8) Try.func37 rfl rfl rfl (Holds.start w []) ?_
  repeat (first | refine JL.q (by first | (apply OQ.load_old; exact bsC; exact rfl; exact (block_lt_of_cell hc); exact (by simp); exact hc) | (apply OQ.len; exact Try.underlying48; exact rfl) | (apply OQ.move; exact rfl) | (apply OQ.assign; exact rfl) | (apply OQ.nilc; exact rfl) | (apply OQ.fld; exact rfl; exact rfl; exact rfl; exact (by decide); exact rfl)) rfl ?_ | refine JC.seq ?_ | refine JC.region ?_ | refine JL.nil ?_ | refine JE.next ?_)
  exact JC.ret (JE.ret1 rfl (RV.tmp rfl) fun w' hw => ⟨rfl, hw.chg⟩)
theorem OQ.lenV {P : Program} {n : Nat} {E : Env} {C : World → Prop} {dst : Option Tmp} {t ty e : TypeId} {pos : String} {aft : Array Edge} {g : Option (Nat × Bool)} {x : Operand} {q : Acc} {k : Nat} (hu : P.underlying t = some (.slice e)) (hq : q = none → k = 0) (hx : ev E x = some (accV q k)) : OQ P n E C ⟨dst, .call ⟨.builtin .len, #[x], #[t]⟩, ty, pos, aft, g⟩ (N k) := by
  cases q with
  | none => obtain rfl := hq rfl; exact OQ.len hu hx
  | some r => exact OQ.len hu hx
theorem goes_done : Goes Try.prog 41 := ⟨_, Try.func41, rfl, by kernel_rfl⟩
theorem done_any (p : Bt) (w : World) : Calls Try.prog 41 [U8 p].toArray w fun e w' => e = .returned (N (doneB p)) ∧ Ext w w' := by
  refine enter (n := 13) Try.func41 rfl rfl rfl (Holds.start w []) ?_
  have h3 : (3#8).toNat = 3 := rfl
  have e0 : (p % 3#8).toNat = p.toNat % 3 := BitVec.toNat_umod
  have e1 : (p / 3#8).toNat = p.toNat / 3 := BitVec.toNat_udiv
  cases h1 : decide (((p % 3#8).toNat : Int) = 1)
  · cases h2 : decide (((p % 3#8).toNat : Int) = 2)
    · repeat (first | refine JL.q (by first | (apply OQ.rem8 (b := 3#8); exact rfl; exact rfl; exact (by decide)) | (apply OQ.eqB (b := 1); exact rfl; exact rfl; exact h1) | (apply OQ.move; exact rfl) | (apply OQ.assign; exact rfl)) rfl ?_ | refine JC.seq ?_ | refine JC.region ?_ | refine JC.block ?_ | refine JL.nil ?_ | refine JE.next ?_)
      refine JC.cond_false rfl rfl ?_
      repeat (first | refine JL.q (by first | (apply OQ.eqB (b := 2); exact rfl; exact rfl; exact h2) | (apply OQ.assign; exact rfl)) rfl ?_ | refine JC.seq ?_ | refine JC.region ?_ | refine JL.nil ?_ | refine JE.next ?_)
      refine JC.cond_false rfl rfl ?_
      repeat (first | refine JL.q (by (apply OQ.assign; exact rfl)) rfl ?_ | refine JC.seq ?_ | refine JC.region ?_ | refine JC.skip ?_ | refine JL.nil ?_ | refine JE.next ?_ | refine JE.blk_normal ?_)
      refine JC.ret (JE.ret1 rfl (RV.tmp rfl) fun w' hw => ⟨?_, hw.chg⟩)
      have h1 := of_decide_eq_false h1
      have h2 := of_decide_eq_false h2
      unfold doneB
      rw [if_neg (by omega), if_neg (by omega)]
      rfl
    · repeat (first | refine JL.q (by first | (apply OQ.rem8 (b := 3#8); exact rfl; exact rfl; exact (by decide)) | (apply OQ.eqB (b := 1); exact rfl; exact rfl; exact h1) | (apply OQ.move; exact rfl) | (apply OQ.assign; exact rfl)) rfl ?_ | refine JC.seq ?_ | refine JC.region ?_ | refine JC.block ?_ | refine JL.nil ?_ | refine JE.next ?_)
      refine JC.cond_false rfl rfl ?_
      repeat (first | refine JL.q (by first | (apply OQ.eqB (b := 2); exact rfl; exact rfl; exact h2) | (apply OQ.assign; exact rfl)) rfl ?_ | refine JC.seq ?_ | refine JC.region ?_ | refine JL.nil ?_ | refine JE.next ?_)
      refine JC.cond_true rfl rfl ?_
      repeat (first | refine JL.q (by first | (apply OQ.quo8 (b := 3#8); exact rfl; exact rfl; exact (by decide)) | (apply OQ.conv8_N; exact Try.underlying5; exact Try.underlying3; exact rfl) | (apply OQ.remN (b := 64); exact rfl; exact rfl; exact (by decide)) | (apply OQ.move; exact rfl) | (apply OQ.assign; exact rfl)) rfl ?_ | refine JC.seq ?_ | refine JC.region ?_ | refine JL.nil ?_ | refine JE.next ?_)
      refine JC.ret ?_
      repeat (first | refine JE.then_ret ?_ | refine JE.blk_ret ?_)
      refine (JE.ret1 rfl (RV.tmp rfl) fun w' hw => ⟨?_, hw.chg⟩)
      have h1 := of_decide_eq_false h1
      have h2 := of_decide_eq_true h2
      unfold doneB
      rw [if_neg (by omega), if_pos (by omega), e1]
  · repeat (first | refine JL.q (by first | (apply OQ.rem8 (b := 3#8); exact rfl; exact rfl; exact (by decide)) | (apply OQ.eqB (b := 1); exact rfl; exact rfl; exact h1) | (apply OQ.move; exact rfl) | (apply OQ.assign; exact rfl)) rfl ?_ | refine JC.seq ?_ | refine JC.region ?_ | refine JC.block ?_ | refine JL.nil ?_ | refine JE.next ?_)
    refine JC.cond_true rfl rfl ?_
    repeat (first | refine JL.q (by (apply OQ.assign; exact rfl)) rfl ?_ | refine JC.seq ?_ | refine JC.region ?_ | refine JL.nil ?_ | refine JE.next ?_)
    refine JC.ret ?_
    repeat (first | refine JE.then_ret ?_ | refine JE.blk_ret ?_)
    refine (JE.ret1 rfl (RV.tmp rfl) fun w' hw => ⟨?_, hw.chg⟩)
    have h1 := of_decide_eq_true h1
    unfold doneB
    rw [if_pos (by omega)]
    rfl
end Go.Proofs.Ytjkncnbpaejamaa

/-
  Of no statement by itself: the landed disk's New, Read, Sync, Write.
  Conditions: each theorem's own.
-/
namespace Go.Proofs.Ytjkncnbpaejamaa
set_option maxRecDepth 10000
open Sl Dsk
theorem OQ.buildW {n : Nat} {E : Env} {C : World → Prop} {dst : Option Tmp} {ty : TypeId} {pos : String} {aft : Array Edge} {g : Option (Nat × Bool)} {x y : Operand} {k : Nat} {b : Bk} (hx : ev E x = some (N k)) (hy : ev E y = some (.agg (bc b).toArray)) (hb : b.length = 64) :
    OQ Try.prog n E C ⟨dst, .build 88 #[(0, x), (1, y)], ty, pos, aft, g⟩ (.agg (wc (k, b)).toArray) :=
  OQ.run fun a ha w _ => by
    have h1 := ha.eval hx
    have h2 := ha.eval hy
    have hbl : (bc b).length = 64 := bc_len hb
    have hb2 : Try.prog.built 88 [(0, N k), (1, .agg (bc b).toArray)] = some (wc (k, b)).toArray := by
      have h : Try.prog.built 88 [(0, N k), (1, .agg (bc b).toArray)] = Instr.fill (fun i => #[(0, 1), (1, 64)][i]?) ((Value.int .i64 0 :: List.replicate 64 (.int .u8 0)).toArray) [(0, N k), (1, .agg (bc b).toArray)] := by kernel_rfl
      rw [h, fill_one (cs := [N k]) (off := 0) (sz := 1) rfl rfl rfl (by simp), fill_one (cs := bc b) (off := 1) (sz := 64) rfl rfl hbl (by simp)]
      have e : ∀ c : List Value, c.length = 64 → List.take 1 (List.take 0 (Value.int .i64 0 :: List.replicate 64 (.int .u8 0)) ++ [N k] ++ List.drop (0 + 1) (Value.int .i64 0 :: List.replicate 64 (.int .u8 0))) ++ c ++ List.drop (1 + 64) (List.take 0 (Value.int .i64 0 :: List.replicate 64 (.int .u8 0)) ++ [N k] ++ List.drop (0 + 1) (Value.int .i64 0 :: List.replicate 64 (.int .u8 0))) = N k :: c := fun c hc => by simp
      rw [e _ hbl]
      rfl
    have r := run_build w 88 #[(0, N k), (1, .agg (bc b).toArray)] (wc (k, b)).toArray (by simpa using hb2)
    simp [execOp, h1, h2, r]
theorem zero_cells (n : Nat) : (bcs (newB n)).flatten = List.replicate (n * 64) (.int .u8 0) := by
  induction n with
  | zero => rfl
  | succ n ih =>
    show bc zero ++ (bcs (newB n)).flatten = _
    rw [ih, Nat.succ_mul, Nat.add_comm, ← List.replicate_append_replicate]
    rfl
theorem goes_dnew : Goes Try.prog 8 := ⟨_, Try.func8, rfl, by kernel_rfl⟩
theorem OQ.buildD {n : Nat} {E : Env} {C : World → Prop} {dst : Option Tmp} {ty : TypeId} {pos : String} {aft : Array Edge} {g : Option (Nat × Bool)} {x : Operand} {ad : Option Addr} {len cap : Nat} (hx : ev E x = some (.slice ad len cap)) :
    OQ Try.prog n E C ⟨dst, .build 63 #[(0, x)], ty, pos, aft, g⟩ (.agg [.slice ad len cap, .slice none 0 0].toArray) :=
  OQ.run fun a ha w _ => by
    have h1 := ha.eval hx
    have r := run_build (P := Try.prog) w 63 #[(0, .slice ad len cap)] [.slice ad len cap, .slice none 0 0].toArray (by kernel_rfl)
    simp [execOp, h1, r]
set_option maxHeartbeats 4000000 in
theorem dnew_ok (n : Nat) (h1 : 1 ≤ n) (h2 : n ≤ 65536) (w : World) : Calls Try.prog 8 [N n].toArray w fun e w' => ∃ x : Dp, e = .returned (.tuple #[Pt x.p 0, N 0]) ∧ x.a = none ∧ Holds w [] (dkE x (newB n) []) w' := by
  refine enter (n := 14) Try.func8 rfl rfl rfl (Holds.start w []) ?_
  have g1 : decide ((n : Int) < 1) = false := decide_eq_false (by omega)
  have g2 : decide ((65536 : Int) < n) = false := decide_eq_false (by omega)
  repeat (first | refine JL.q (by first | (apply OQ.lssB (b := 1); exact rfl; exact rfl; exact g1) | (apply OQ.gtrB (b := 65536); exact rfl; exact rfl; exact g2) | (apply OQ.pick_f; exact rfl; exact rfl) | (apply OQ.move; exact rfl) | (apply OQ.assign; exact rfl)) rfl ?_ | refine JC.seq ?_ | refine JC.region ?_ | refine JL.nil ?_ | refine JE.next ?_ | refine JL.gon rfl rfl ?_)
  refine JC.cond_false rfl rfl ?_
  repeat (first | refine JL.q (by (apply OQ.move; exact rfl)) rfl ?_ | refine JC.seq ?_ | refine JC.region ?_ | refine JC.skip ?_ | refine JE.next ?_)
  refine JL.make (c := n) (sz := 64) Try.underlying48 dkI rfl (by decide) rfl rfl (by omega) (by omega) rfl fun b hb => ?_
  repeat (refine JL.q (by (apply OQ.buildD; exact rfl)) rfl ?_)
  refine JL.box (r := [.slice (some ⟨b, 0, none⟩) n n, .slice none 0 0]) rfl rfl rfl fun p hp => ?_
  repeat (first | refine JL.q (by (apply OQ.assign; exact rfl)) rfl ?_ | refine JL.nil ?_ | refine JE.next ?_)
  refine JC.ret (JE.ret2 rfl (RV.tmp rfl) (RV.tmp rfl) fun w' hw => ⟨⟨p, b, n, none⟩, rfl, rfl, hw.weak ?_⟩)
  refine .keep _ _ _ _ _ _ (fun o ho => ?_) (.keep _ _ _ _ _ _ (fun o ho => ?_) (.nil _))
  · have e : (newB n).length = n := List.length_replicate
    unfold dkRow
    rw [e]
    exact ho
  · have e : (newB n).length = n := List.length_replicate
    rw [e, zero_cells]
    exact row_ownC List.length_replicate o ho
theorem goes_dread : Goes Try.prog 38 := ⟨_, Try.func38, rfl, by kernel_rfl⟩
theorem goes_dsync : Goes Try.prog 23 := ⟨_, Try.func23, rfl, by kernel_rfl⟩
theorem dsync_any (x : Dp) (bl : List Bk) (pd : List (Nat × Bk)) (w : World) (h : Holds w (keys (dkE x bl pd)) (dkE x bl pd) w) :
    Calls Try.prog 23 [Pt x.p 0].toArray w fun e w' => e = .returned (.tuple #[]) ∧ Holds w (keys (dkE x bl pd)) (dkE ⟨x.p, x.q, x.cap, none⟩ bl []) w' := by
  refine enter (n := 5) Try.func23 rfl rfl rfl h ?_
  repeat (first | refine JL.q (by first | (apply OQ.move; exact rfl) | (apply OQ.nilc; exact rfl) | (apply OQ.fld; exact rfl; exact rfl; exact rfl; exact (by decide); exact rfl)) rfl ?_ | refine JC.region ?_)
  refine JL.store_eq (b := x.p) (r := dkRow x bl pd) (r' := [.slice (some ⟨x.q, 0, none⟩) bl.length x.cap, .slice none 0 0]) ws1 rfl rfl rfl rfl .here (show 1 < 2 by decide) rfl ?_
  repeat (refine JL.nil ?_)
  refine JE.end0 rfl fun w' hw => ⟨rfl, hw.weak ?_⟩
  exact .keep _ _ _ _ _ _ (fun _ h => h) (.keep _ _ _ _ _ _ (fun _ h => h) (.nil _))
theorem goes_dwrite : Goes Try.prog 19 := ⟨_, Try.func19, rfl, by kernel_rfl⟩
set_option maxHeartbeats 16000000 in
theorem dwrite_ok (x : Dp) (bl : List Bk) (pd : List (Nat × Bk)) (n : Nat) (b : Bk) (hn : n < bl.length) (hb : b.length = 64) (h : DkOk x bl pd) (w : World) (hw : Holds w (keys (dkE x bl pd)) (dkE x bl pd) w) :
    Calls Try.prog 19 [Pt x.p 0, N n, .agg (bc b).toArray].toArray w fun e w' => ∃ y : Nat × Nat, e = .returned (N 0) ∧ Holds w (keys (dkE x bl pd)) (dkE ⟨x.p, x.q, x.cap, some y⟩ (bl.set n b) (wrote bl pd n)) w' := by
  have hq : x.a = none → wcs pd = [] := fun e => by rw [h.a e]; rfl
  have hr1 : (dkRow x bl pd)[1]? = some (accV x.a (wcs pd).length) := by rw [wcs_n]; rfl
  have hol : (old bl n).length = 64 := h.ok.old hn
  have hwl : (wc (n, old bl n)).length = 65 := by rw [wc, List.length_cons, bc_len hol]
  have hwo : ∀ v ∈ wc (n, old bl n), v.oneCell' = true := by
    intro v hv
    rcases List.mem_cons.1 hv with rfl | hv
    · rfl
    · exact List.all_eq_true.1 (bc_cell _) v hv
  generalize hS : keys (dkE x bl pd) = S at hw ⊢
  refine enter (n := 36) Try.func19 rfl rfl rfl hw ?_
  repeat (first | refine JC.seq ?_ | refine JC.region ?_)
  refine JL.box (r := bc b) rfl rfl rfl fun b5 _ => ?_
  have hc : ∀ w', Holds w S (⟨b5, Row 51 (bc b), true⟩ :: dkE x bl pd) w' → Calls Try.prog 39 [Pt x.p 0, .int .i64 n].toArray w' fun e w2 => e = .returned (.bool true) ∧ Ext w' w2 := fun w' hw' => by
    have := has_any x.p (some ⟨x.q, 0, none⟩) bl.length x.cap n w' (dk_cell (M := []) (hw'.weak (.drop _ _ _ (by rw [List.append_nil]; exact Less.refl _)))).1
    rwa [decide_eq_true (show (0 : Int) ≤ n ∧ (n : Int) < bl.length by omega)] at this
  repeat (first | refine JL.q (by first | (apply OQ.callx (vs := [Pt x.p 0, .int .i64 n]); exact goes_has; exact rfl; exact hc) | (apply OQ.not; exact rfl) | (apply OQ.move; exact rfl) | (apply OQ.assign; exact rfl)) rfl ?_ | refine JC.seq ?_ | refine JC.region ?_ | refine JL.nil ?_ | refine JE.next ?_)
  refine JC.cond_false rfl rfl ?_
  repeat (first | refine JC.seq ?_ | refine JC.skip ?_ | refine JE.next ?_)
  let vs : Nat → Nat × Nat → Value := fun j y => match j with
    | 0 => Pt x.p 0
    | 1 => Pt x.p 0
    | 2 => Pt x.p 0
    | 3 => Pt x.p 1
    | 4 => accV x.a (wcs pd).length
    | 5 => N n
    | 6 => Pt x.p 0
    | 7 => Pt x.p 0
    | 8 => Pt x.p 0
    | 9 => .slice (some ⟨x.q, 0, none⟩) bl.length x.cap
    | 10 => N n
    | 11 => Pt x.q (0 + n * 64)
    | 12 => .agg (bc (old bl n)).toArray
    | 13 => .agg (wc (n, old bl n)).toArray
    | 14 => .slice (some ⟨y.1, 0, none⟩) 1 1
    | 15 => accV (some y) (wcs pd ++ [wc (n, old bl n)]).length
    | 16 => Pt x.p 0
    | 17 => Pt x.p 1
    | _ => N 0
  let Ms : Nat → Nat × Nat → List Ent := fun j y => match j with
    | 14 => [⟨y.1, Row 88 (wc (n, old bl n)), true⟩]
    | 15 => accC 88 65 (some y) (wcs pd ++ [wc (n, old bl n)])
    | 18 => [⟨x.p, Row 63 [.slice (some ⟨x.q, 0, none⟩) bl.length x.cap, accV (some y) (wcs pd ++ [wc (n, old bl n)]).length], true⟩]
    | 19 => [⟨b5, Row 51 (bc b), true⟩]
    | 20 => [⟨x.p, Row 63 (dkRow x bl pd), true⟩]
    | 21 => [⟨x.q, Sl.Own 51 64 bl.length x.cap (bcs bl).flatten, true⟩]
    | 22 => accC 88 65 x.a (wcs pd)
    | _ => []
  refine JC.grow (g := ⟨[(0, Pt x.p 0), (1, N n), (5, Pt b5 0)], 23, vs, Ms, (fun j => match j with | 2 => [(1, 12)] | 3 => [(2, 13)] | 4 => [(3, 14)] | 7 => [(6, 17)] | 8 => [(7, 18)] | 9 => [(8, 19)] | 11 => [(9, 20), (10, 21)] | 12 => [(11, 22)] | 13 => [(5, 16), (12, 23)] | 14 => [(13, 24)] | 15 => [(4, 15), (14, 25)] | 16 => [(0, 11)] | 17 => [(16, 27)] | 18 => [(17, 28), (15, 26)] | _ => []), (fun j => match j with | 4 => [20] | 9 => [20] | 12 => [21] | 15 => [14, 22] | 18 => [20] | _ => []), (fun j => match j with | 15 => [14, 22] | 18 => [20] | _ => []), (fun j => match j with | 18 => some 15 | _ => none)⟩) [] [18, 21, 15, 19] mixT (by repeat (first | exact SubE.nil | refine SubE.cons _ _ _ rfl ?_)) ?_ (by kernel_rfl) (by kernel_rfl) (by kernel_rfl) ?_ ?_
  · show Less (Ms 19 default ++ (Ms 20 default ++ (Ms 21 default ++ (Ms 22 default ++ [])))) _; rw [List.append_nil]; exact Less.refl _
  · refine ⟨?_, ?_, ?_, ?_, ?_, ?_, ?_, ?_, ?_, ?_, ?_, ?_, ?_, ?_, ?_, ?_, ?_, ?_, ?_, trivial⟩
    · (intro xx EF MF Q kk; (try refine JL.gon rfl rfl ?_); exact JL.q (OQ.move rfl) rfl (JL.nil (kk default nofun)))
    · (intro xx EF MF Q kk; (try refine JL.gon rfl rfl ?_); exact JL.q (OQ.move rfl) rfl (JL.nil (kk default nofun)))
    · (intro xx EF MF Q kk; (try refine JL.gon rfl rfl ?_); exact JL.q (OQ.nilc rfl) rfl (JL.nil (kk default nofun)))
    · (intro xx EF MF Q kk; (try refine JL.gon rfl rfl ?_); exact JL.q (OQ.fld rfl rfl rfl (by decide) rfl) rfl (JL.nil (kk default nofun)))
    · (intro xx EF MF Q kk; (try refine JL.gon rfl rfl ?_); exact JL.q (OQ.load wsC rfl .here (Row.cell (v := accV x.a (wcs pd).length) hr1)) rfl (JL.nil (kk default nofun)))
    · (intro xx EF MF Q kk; (try refine JL.gon rfl rfl ?_); exact JL.q (OQ.move rfl) rfl (JL.nil (kk default nofun)))
    · (intro xx EF MF Q kk; (try refine JL.gon rfl rfl ?_); exact JL.q (OQ.move rfl) rfl (JL.nil (kk default nofun)))
    · (intro xx EF MF Q kk; (try refine JL.gon rfl rfl ?_); exact JL.q (OQ.nilc rfl) rfl (JL.nil (kk default nofun)))
    · (intro xx EF MF Q kk; (try refine JL.gon rfl rfl ?_); exact JL.q (OQ.fld rfl rfl rfl (by decide) rfl) rfl (JL.nil (kk default nofun)))
    · (intro xx EF MF Q kk; (try refine JL.gon rfl rfl ?_); exact JL.q (OQ.load bsC rfl .here (Row.cell (v := .slice (some ⟨x.q, 0, none⟩) bl.length x.cap) rfl)) rfl (JL.nil (kk default nofun)))
    · (intro xx EF MF Q kk; (try refine JL.gon rfl rfl ?_); exact JL.q (OQ.move rfl) rfl (JL.nil (kk default nofun)))
    · (intro xx EF MF Q kk; (try refine JL.gon rfl rfl ?_); exact JL.q (OQ.idxS Try.underlying48 dkB rfl rfl hn) rfl (JL.nil (kk default nofun)))
    · (intro xx EF MF Q kk; (try refine JL.gon rfl rfl ?_); exact JL.q (OQ.to (OQ.loadC (L := bcs bl) (i := n) dkAg dkB rfl (Nat.zero_add _) .here (bcs_len h.ok) (by rw [bcs_n]; exact hn)) (by rw [bcs_at hn]; rfl)) rfl (JL.nil (kk default nofun)))
    · (intro xx EF MF Q kk; (try refine JL.gon rfl rfl ?_); exact JL.q (OQ.buildW rfl rfl hol) rfl (JL.nil (kk default nofun)))
    · (intro xx EF MF Q kk; exact JL.litA (cs := wc (n, old bl n)) Try.underlying61 dwI rfl (by decide) (by decide) rfl hwl rfl fun b _ => JL.nil (kk (b, 0) nofun))
    · (intro xx EF MF Q kk; refine JL.perm (M' := ⟨(xx 14).1, Row 88 (wc (n, old bl n)), true⟩ :: (accC 88 65 x.a (wcs pd) ++ MF)) ?_ (List.Perm.of_eq (by show (Ms 14 (xx 14) ++ (Ms 22 (xx 22) ++ [])) ++ MF = _; simp [Ms])); exact JL.appendC x.a Try.underlying61 dwI hq rfl rfl hwl hwo rfl (by decide) (by rw [wcs_n]; have := h.m; omega) (by rw [wcs_n]; have := h.m; omega) rfl fun b' cap' => JL.nil (kk (b', cap') nofun))
    · (intro xx EF MF Q kk; (try refine JL.gon rfl rfl ?_); exact JL.q (OQ.nilc rfl) rfl (JL.nil (kk default nofun)))
    · (intro xx EF MF Q kk; (try refine JL.gon rfl rfl ?_); exact JL.q (OQ.fld rfl rfl rfl (by decide) rfl) rfl (JL.nil (kk default nofun)))
    · (intro xx EF MF Q kk; exact JL.store_eq (b := x.p) (r := dkRow x bl pd) (r' := [.slice (some ⟨x.q, 0, none⟩) bl.length x.cap, accV (some (xx 15)) (wcs pd ++ [wc (n, old bl n)]).length]) ws1 rfl rfl rfl rfl .here (show 1 < 2 by decide) rfl (JL.nil (kk (xx 15) (fun k h => by cases h; rfl))))
  · intro xx hx
    have e18 := hx 18 15 (by decide) rfl
    show JE _ _ _ _ _ [(0, Pt x.p 0), (1, N n), (5, Pt b5 0)] [⟨x.p, Row 63 [.slice (some ⟨x.q, 0, none⟩) bl.length x.cap, accV (some (xx 18)) (wcs pd ++ [wc (n, old bl n)]).length], true⟩, ⟨x.q, Sl.Own 51 64 bl.length x.cap (bcs bl).flatten, true⟩, ⟨(xx 15).1, Sl.Own 88 65 (wcs pd ++ [wc (n, old bl n)]).length (xx 15).2 (wcs pd ++ [wc (n, old bl n)]).flatten, true⟩, ⟨b5, Row 51 (bc b), true⟩]
    rw [e18]
    generalize xx 15 = y
    clear hx e18 xx vs Ms
    (repeat (first | refine JC.seq ?_ | refine JE.next ?_))
    refine JC.tail 6 mixT (by kernel_rfl) ?_
    simp only [List.take_succ_cons, List.take_zero, List.drop_succ_cons, List.drop_zero]
    (repeat (first | refine JL.q (by first | (apply OQ.load; exact bsC; exact rfl; exact .here; exact (Row.cell (v := .slice (some ⟨x.q, 0, none⟩) bl.length x.cap) rfl)) | (apply OQ.load_agg (cs := bc b); exact dkAg; exact dkB; exact rfl; exact (.there (.there (.there .here))); exact (bc_len hb); exact Row.all) | (apply OQ.idxS; exact Try.underlying48; exact dkB; exact rfl; exact rfl; exact hn) | (apply OQ.move; exact rfl) | (apply OQ.nilc; exact rfl) | (apply OQ.fld; exact rfl; exact rfl; exact rfl; exact (by decide); exact rfl)) rfl ?_ | refine JQ.q (by first | (apply OQ.load; exact bsC; exact rfl; exact .here; exact (Row.cell (v := .slice (some ⟨x.q, 0, none⟩) bl.length x.cap) rfl)) | (apply OQ.load_agg (cs := bc b); exact dkAg; exact dkB; exact rfl; exact (.there (.there (.there .here))); exact (bc_len hb); exact Row.all) | (apply OQ.idxS; exact Try.underlying48; exact dkB; exact rfl; exact rfl; exact hn) | (apply OQ.move; exact rfl) | (apply OQ.nilc; exact rfl) | (apply OQ.fld; exact rfl; exact rfl; exact rfl; exact (by decide); exact rfl)) rfl ?_ | refine JQ.nil_tail ?_))
    refine JL.storeC (L := bcs bl) (i := n) dkB rfl (Nat.zero_add _) rfl (bc_len hb) (bc_cell _) (bcs_len h.ok) (bcs_n bl) hn (.there .here) ?_
    (repeat (first | refine JL.q (by (apply OQ.assign; exact rfl)) rfl ?_ | refine JC.seq ?_ | refine JC.region ?_ | refine JL.nil ?_ | refine JE.next ?_))
    refine JC.ret (JE.ret1 rfl (RV.tmp rfl) fun w' hw => ⟨y, rfl, hw.weak ?_⟩)
    have e1 : wcs (wrote bl pd n) = wcs pd ++ [wc (n, old bl n)] := by simp [wcs, wrote]
    have e2 : (wrote bl pd n).length = (wcs pd ++ [wc (n, old bl n)]).length := by rw [← e1, wcs_n]
    unfold dkE dkRow
    rw [e1, e2, List.length_set, ← bcs_set]
    exact .keep _ _ _ _ _ _ (fun _ h => h) (.keep _ _ _ _ _ _ (fun _ h => h) (.keep _ _ _ _ _ _ (fun _ h => h) (.nil _)))
end Go.Proofs.Ytjkncnbpaejamaa

/-
  Of no statement by itself: ranges over functions ('for x := range seq'): a round's body walked with the rules for lists of operations; what the caller of the iterator owes; a function that leaves with such a loop's mark among its deferred calls; for any program P.
  Conditions: each rule's own hypotheses.
-/
namespace Go.Proofs.Ytjkncnbpaejamaa
namespace Sl

/-! ### entries, less than known -/
inductive Less2 : List Ent → List Ent → Prop where
  | nil (N : List Ent) : Less2 [] N
  | keep (b : Nat) (A A' : Obj → Prop) (wr wr' : Bool) (N N' : List Ent) : (∀ o, A o → A' o) → (wr' = true → wr = true) → Less2 N' N → Less2 (⟨b, A', wr'⟩ :: N') (⟨b, A, wr⟩ :: N)
  | drop (e : Ent) (N N' : List Ent) : Less2 N' N → Less2 N' (e :: N)
theorem Less2.keys {M M' : List Ent} (h : Less2 M' M) : (M'.map Ent.b).Sublist (M.map Ent.b) := by
  induction h with
  | nil => exact List.nil_sublist _
  | keep _ _ _ _ _ _ _ _ _ _ ih => exact ih.cons_cons _
  | drop _ _ _ _ ih => exact ih.cons _
theorem Less2.old {M M' : List Ent} (h : Less2 M' M) : ∀ e ∈ M', ∃ e' ∈ M, e'.b = e.b ∧ (e.wr = true → e'.wr = true) ∧ ∀ o, e'.A o → e.A o := by
  induction h with
  | nil => simp
  | keep b A A' wr wr' M M' hA hw _ ih =>
    intro e he
    simp only [List.mem_cons] at he
    rcases he with rfl | he
    · exact ⟨⟨b, A, wr⟩, by simp, rfl, hw, hA⟩
    · obtain ⟨e', h1, h2⟩ := ih e he
      exact ⟨e', by simp [h1], h2⟩
  | drop _ _ _ _ ih =>
    intro e he
    obtain ⟨e', h1, h2⟩ := ih e he
    exact ⟨e', by simp [h1], h2⟩
/-- the blocks that may be written -/
def wrs (M : List Ent) : List Nat := (M.filter (·.wr)).map Ent.b
theorem mem_wrs {M : List Ent} {k : Nat} : k ∈ wrs M ↔ ∃ e ∈ M, e.wr = true ∧ e.b = k := by
  simp [wrs, and_assoc]
/-- the same knowledge, from this world on -/
theorem Holds.rebase {w0 w : World} {S : List Nat} {M : List Ent} (h : Holds w0 S M w) : Holds w (wrs M) M w :=
  ⟨Chg.refl _ _, h.nodup, fun e he => ⟨(h.all e he).1, fun hw => .inl (mem_wrs.2 ⟨e, he, hw, rfl⟩)⟩⟩
theorem Holds.wrs_ge {w0 w : World} {M : List Ent} (h : Holds w0 [] M w) : ∀ k ∈ wrs M, w0.heap.size ≤ k := fun k hk => by
  obtain ⟨e, he, hw, rfl⟩ := mem_wrs.1 hk
  rcases (h.all e he).2 hw with h | h
  · cases h
  · exact h
theorem Holds.unbase {w0 w w' : World} {M M' : List Ent} (h : Holds w0 [] M w) (h' : Holds w (wrs M) M' w') : Holds w0 [] M' w' := by
  refine ⟨⟨h'.chg.os.trans h.chg.os, h'.chg.tape.trans h.chg.tape, h'.chg.output.trans h.chg.output, Nat.le_trans h.chg.size h'.chg.size, fun k hk _ => ?_⟩, h'.nodup, fun e he => ⟨(h'.all e he).1, fun hw => .inr ?_⟩⟩
  · refine (h'.chg.block k (Nat.lt_of_lt_of_le hk h.chg.size) fun hm => ?_).trans (h.chg.block k hk (by simp))
    have := h.wrs_ge k hm
    omega
  · rcases (h'.all e he).2 hw with h1 | h1
    · exact h.wrs_ge _ h1
    · exact Nat.le_trans h.chg.size h1
theorem nodup_inj {M : List Ent} (h : (M.map Ent.b).Nodup) : ∀ {e1 e2 : Ent}, e1 ∈ M → e2 ∈ M → e1.b = e2.b → e1 = e2 := by
  induction M with
  | nil => intro e1 e2 h1; cases h1
  | cons x M ih =>
    simp only [List.map_cons, List.nodup_cons] at h
    intro e1 e2 h1 h2 he
    rcases List.mem_cons.1 h1 with rfl | h1'
    · rcases List.mem_cons.1 h2 with rfl | h2'
      · rfl
      · exact absurd (he ▸ List.mem_map_of_mem (f := Ent.b) h2') h.1
    · rcases List.mem_cons.1 h2 with rfl | h2'
      · exact absurd (he ▸ List.mem_map_of_mem (f := Ent.b) h1') h.1
      · exact ih h.2 h1' h2' he
theorem Repl.other {M M' : List Ent} {b b' : Nat} {A A' : Obj → Prop} (h : Repl M b A b' A' M') (hn : (M.map Ent.b).Nodup) : ∀ e ∈ M', e = ⟨b', A', true⟩ ∨ (e ∈ M ∧ e.b ≠ b) := by
  induction h with
  | @here b A b' A' M =>
    intro e he
    simp only [List.map_cons, List.nodup_cons] at hn
    simp only [List.mem_cons] at he
    rcases he with rfl | he
    · exact .inl rfl
    · exact .inr ⟨by simp [he], fun h => hn.1 (h ▸ List.mem_map_of_mem he)⟩
  | @there x M b A b' A' M' hu ih =>
    intro e he
    simp only [List.map_cons, List.nodup_cons] at hn
    simp only [List.mem_cons] at he
    rcases he with rfl | he
    · refine .inr ⟨by simp, fun h => hn.1 ?_⟩
      rw [h]
      exact List.mem_map_of_mem hu.has.mem (f := Ent.b)
    · rcases ih hn.2 e he with h | ⟨h1, h2⟩
      · exact .inl h
      · exact .inr ⟨by simp [h1], h2⟩
/-! ### operations in a round -/
section
variable {P : Program} {m l : Nat}
def noDef (o : Oper) : Bool := match o.op with
  | .defer _ => false
  | _ => true
abbrev Rd (l : Nat) : Fence := Fence.wide.inRound l
theorem wpIn_of_wp {o : Oper} {a : Act} {w : World} {K K' : Act → World → Prop} {Q : Exit → Act → World → Prop} (hd : noDef o = true) (hQ : ¬ LetsOut Q) (hK : ∀ a w, K a w → K' a w) (h : o.wp P a w K Q) : o.wpIn (Rd l) m P a w K' Q := by
  refine ⟨fun _ _ => trivial, ?_⟩
  have e : Oper.semAt (Rd l).round a.eval o = execOp a.eval o := Oper.semAt_some l _ _ fun c hc => by
    unfold noDef at hd
    rw [hc] at hd
    cases hd
  rw [e]
  unfold Oper.wp at h
  have hdep : (Rd l).depth.isSome = true → 1 ≤ m := fun h => by cases h
  cases hr : (execOp a.eval o).run P w with
  | ok nx w' =>
    rw [hr] at h
    cases nx with
    | value v => exact hK _ _ h
    | skip => exact hK _ _ h
    | defer d => exact hK _ _ h
    | enter f args =>
      have h' : Calls P f args w' fun
        | .returned v, w'' => K (a.put o.dst v) w''
        | .panicked chain, w'' => Q (.panic chain) a w''
        | .outgrown, _ => LetsOut Q := h
      refine ⟨hdep, (callsIn_wide (n := m - 1)).2 (h'.mono fun e w2 h2 => ?_)⟩
      cases e with
      | returned v => exact hK _ _ h2
      | panicked ch => exact h2
      | outgrown => exact h2
    | row r args =>
      have h' : Rows P r args w' fun v w'' => K (a.put o.dst v) w'' := h
      refine ⟨hdep, fun c cs _ => ?_⟩
      obtain ⟨v, w2, h2, hs⟩ := h' c cs
      exact ⟨v, w2, hK _ _ h2, stepsIn_wide.2 hs⟩
    | round => exact h.elim
    | _ => exact h.elim
  | halt x w' =>
    rw [hr] at h
    cases x with
    | panic v => exact h
    | _ => exact h.elim
theorem wpListIn_of_wpList {ops : Array Oper} {Q : Exit → Act → World → Prop} (hQ : ¬ LetsOut Q) : ∀ (os : List Oper), os.all noDef = true → ∀ a w, wpList P ops Q os a w → wpListIn (Rd l) m P ops Q os a w
  | [], _, a, w, h => h
  | o :: os, hd, a, w, h => by
    simp only [List.all_cons, Bool.and_eq_true] at hd
    have ih := wpListIn_of_wpList (ops := ops) hQ os hd.2
    unfold wpList at h
    unfold wpListIn
    by_cases hw : Region.wanted o (yielded ops a.tmps) = true
    · simp only [hw, if_true] at h ⊢
      rcases h with h | h
      · exact wpIn_of_wp hd.1 hQ ih h
      · exact absurd h.2 hQ
    · simp only [hw, if_false] at h ⊢
      exact ⟨fun _ _ => trivial, ih _ _ h⟩
end

section
variable {P : Program} {n : Nat} {w0 : World} {S : List Nat} {Q Q' : Exit → Act → World → Prop} {E : Env} {M : List Ent} {m l : Nat}
structure JR (P : Program) (n : Nat) (w0 : World) (S : List Nat) (l m : Nat) (Q : Exit → Act → World → Prop) (c : Code) (E : Env) (M : List Ent) : Prop where
  go : ∀ a w, Knows n E a → Holds w0 S M w → c.wpIn (Rd l) m P Q a w
theorem JR.region {id : Nat} {os : List Oper} (hd : os.all noDef = true) (hQ : ¬ LetsOut Q) (h : JL P n w0 S os.toArray Q os E M) : JR P n w0 S l m Q (.region id os.toArray false) E M :=
  ⟨fun a w ha hw => wpIn_region_lit (wpListIn_of_wpList hQ os hd a w (h.go a w ha hw))⟩
theorem JR.seq {x y : Code} (h : JR P n w0 S l m (Exit.then (y.wpIn (Rd l) m P Q) Q) x E M) : JR P n w0 S l m Q (.seq x y) E M := ⟨fun a w ha hw => wpIn_seq (h.go a w ha hw)⟩
theorem JR.block {id : Nat} {c : Code} (h : JR P n w0 S l m (Exit.inBlock id Q) c E M) : JR P n w0 S l m Q (.block id c) E M := ⟨fun a w ha hw => wpIn_block (h.go a w ha hw)⟩
theorem JE.nextR {y : Code} (h : JR P n w0 S l m Q' y E M) : JE n w0 S (Exit.then (y.wpIn (Rd l) m P Q') Q) .normal E M := ⟨h.go⟩
theorem lo_then {K : Act → World → Prop} (h : ¬ LetsOut Q) : ¬ LetsOut (Exit.then K Q) := fun ⟨a, w, x⟩ => h ⟨a, w, x⟩
theorem lo_blk {id : Nat} (h : ¬ LetsOut Q) : ¬ LetsOut (Exit.inBlock id Q) := fun ⟨a, w, x⟩ => h ⟨a, w, x⟩
end

/-! ### behind the loop: the mark among the deferred calls -/
def mk (D : Nat) : Deferred := { target := .collected D, args := #[] }
def Dead : Obj → Prop := fun o => o = .deferred (some [])
structure KnowsM (D n : Nat) (E : Env) (a : Act) : Prop where
  defers : a.defers = [mk D]
  base : Knows n E { a with defers := [] }
section
variable {P : Program} {D n : Nat} {w0 : World} {S : List Nat} {ops : Array Oper} {Q Q' : Exit → Act → World → Prop} {os : List Oper} {E : Env} {M : List Ent} {d : Nat} {op : Op} {ty : TypeId} {pos : String} {aft : Array Edge} {v : Value}
theorem bare_eval (a : Act) : ({ a with defers := [] } : Act).eval = a.eval := funext fun x => by cases x <;> rfl
theorem KnowsM.put {a : Act} (h : KnowsM D n E a) (d : Nat) (v : Value) (hd : Nat.blt d n = true) : KnowsM D n ((d, v) :: E) (a.put (some d) v) := ⟨h.defers, h.base.put d v hd⟩
theorem KnowsM.eval {a : Act} (h : KnowsM D n E a) {x : Operand} {v : Value} (hx : ev E x = some v) : a.eval x = v := by
  rw [← bare_eval]; exact h.base.eval hx
structure KL (P : Program) (D n : Nat) (w0 : World) (S : List Nat) (ops : Array Oper) (Q : Exit → Act → World → Prop) (os : List Oper) (E : Env) (M : List Ent) : Prop where
  go : ∀ a w, KnowsM D n E a → Holds w0 S M w → wpList P ops Q os a w
structure KE (D n : Nat) (w0 : World) (S : List Nat) (Q : Exit → Act → World → Prop) (e : Exit) (E : Env) (M : List Ent) : Prop where
  go : ∀ a w, KnowsM D n E a → Holds w0 S M w → Q e a w
structure KC (P : Program) (D n : Nat) (w0 : World) (S : List Nat) (Q : Exit → Act → World → Prop) (c : Code) (E : Env) (M : List Ent) : Prop where
  go : ∀ a w, KnowsM D n E a → Holds w0 S M w → c.wp P Q a w
theorem KC.seq {x y : Code} (h : KC P D n w0 S (Exit.then (y.wp P Q) Q) x E M) : KC P D n w0 S Q (.seq x y) E M := ⟨fun a w ha hw => wp_seq (h.go a w ha hw)⟩
theorem KC.skip (h : KE D n w0 S Q .normal E M) : KC P D n w0 S Q .skip E M := ⟨fun a w ha hw => wp_skip (h.go a w ha hw)⟩
theorem KC.ret (h : KE D n w0 S Q .ret E M) : KC P D n w0 S Q .ret E M := ⟨fun a w ha hw => wp_ret (h.go a w ha hw)⟩
theorem KC.cond {c : Operand} {x y : Code} {t : Bool} (hc : ev E c = some (.bool t)) (ht : t = true → KC P D n w0 S Q x E M) (hf : t = false → KC P D n w0 S Q y E M) : KC P D n w0 S Q (.cond c x y) E M :=
  ⟨fun a w ha hw => wp_cond_split (ha.eval hc) (fun h => (ht h).go a w ha hw) (fun h => (hf h).go a w ha hw)⟩
theorem KC.region {id : Nat} {os : List Oper} (h : KL P D n w0 S os.toArray Q os E M) : KC P D n w0 S Q (.region id os.toArray false) E M := ⟨fun a w ha hw => wp_region_lit (h.go a w ha hw)⟩
theorem KE.next {y : Code} (h : KC P D n w0 S Q' y E M) : KE D n w0 S (Exit.then (y.wp P Q') Q) .normal E M := ⟨h.go⟩
theorem KE.blk_normal {id : Nat} (h : KE D n w0 S Q .normal E M) : KE D n w0 S (Exit.inBlock id Q) .normal E M := ⟨h.go⟩
theorem KL.nil (h : KE D n w0 S Q .normal E M) : KL P D n w0 S ops Q [] E M := ⟨h.go⟩
theorem KL.q (h : OQ P n E (Holds w0 S M) ⟨some d, op, ty, pos, aft, none⟩ v) (hd : Nat.blt d n = true) (k : KL P D n w0 S ops Q os ((d, v) :: E) M) : KL P D n w0 S ops Q (⟨some d, op, ty, pos, aft, none⟩ :: os) E M :=
  ⟨fun a _ ha hw => wpList_plain rfl fun _ hK => Oper.wp_of_quiet (C := Holds w0 S M) (K := fun a' => a' = a.put (some d) v) hw (fun _ _ hw' e => hK _ _ (e ▸ k.go _ _ (ha.put d v hd) hw')) ⟨v, fun w hw => by
    have := h.go _ ha.base w hw
    unfold Oper.quietAt at this ⊢
    rwa [bare_eval] at this, rfl⟩⟩
theorem KC.weak {c : Code} {M' : List Ent} (hM : Less M' M) (h : KC P D n w0 S Q c E M') : KC P D n w0 S Q c E M := ⟨fun a w ha hw => h.go a w ha (hw.weak hM)⟩
/-- the way out: the block of the rounds' deferred calls is shut -/
theorem leaves_mark {m : Nat} {fn : Func} {R : Ending → World → Prop} {a : Act} {w : World} {v : Value} (ha : KnowsM D n E a) (hw : Holds w0 S (⟨D, Dead, true⟩ :: M) w)
    (hv : ∀ w', Holds w0 S M w' → (results fn a.tmps).run P w' = .ok v w') (hR : ∀ w', Holds w0 S M w' → R (.returned v) w') : bodyPostM Fence.wide m P fn R .ret a w := by
  obtain ⟨o, ho, hA⟩ := hw.get (b := D) (A := Dead) (wr := true) .here
  cases hA
  have hlt : D < w.heap.size := (Array.getElem?_eq_some_iff.1 ho).1
  have h2 : Holds w0 S (⟨D, fun o => o = .deferred none, true⟩ :: M) (w.putObj D (.deferred none)) :=
    hw.write (A' := fun o => o = .deferred none) .here rfl (World.putObj_heap_same hlt) World.putObj_size (fun k hk => World.putObj_heap_other hk) rfl rfl rfl
  have h3 : Holds w0 S M (w.putObj D (.deferred none)) := h2.weak (.drop _ _ _ (Less.refl _))
  show LeavesInM Fence.wide m P fn a.tmps R a.defers .returning w
  rw [ha.defers]
  exact ⟨by simp, .inl ⟨D, _, rfl, run_takeDeferred ho, v, hv _ h3, hR _ h3⟩⟩
theorem KE.ret1 {m : Nat} {fn : Func} {R : Ending → World → Prop} {r1 : Tmp} {v1 : Value} (hr : fn.results = #[.tmp r1]) (h1 : lk E r1 = some v1) (hR : ∀ w, Holds w0 S M w → R (.returned v1) w) : KE D n w0 S (bodyPostM Fence.wide m P fn R) .ret E (⟨D, Dead, true⟩ :: M) := by
  refine ⟨fun a w ha hw => leaves_mark (v := v1) ha hw (fun w' _ => ?_) hR⟩
  have e1 : a.tmps.getD r1 undef = v1 := ha.base.all r1 v1 h1
  rw [results_eq, hr]
  simp [rvRun, e1]
/-- a function that holds a range over a function -/
theorem enterM {f : FuncId} {fn : Func} {c : Code} {vs : List Value} {w : World} {R : Ending → World → Prop} (hf : P.funcs[f]? = some fn) (hb : fn.body = some c) (hn : fn.ntmps = n) (hl : Nat.ble vs.length n = true)
    (hM : Holds w S M w) (h : JC P n w S (bodyPostM Fence.wide 3 P fn R) c (enum 0 vs) M) : Calls P f vs.toArray w R := by
  refine callsIn_wide.1 (callsIn_of_wp_marks (n := 3) hf hb trivial (wpIn_wide.2 (h.go _ _ ?_ hM)))
  rw [hn]
  exact Knows.enter vs (by simpa using hl)
end

/-! ### the statement -/
structure KeepL (L : List Nat) (W W' : World) : Prop where
  os : W'.os = W.os
  tape : W'.tape = W.tape
  output : W'.output = W.output
  size : W.heap.size ≤ W'.heap.size
  same : ∀ k ∈ L, W'.heap[k]? = W.heap[k]?
theorem KeepL.trans {L : List Nat} {X Y Z : World} (h : KeepL L X Y) (k : KeepL L Y Z) : KeepL L X Z :=
  ⟨k.os.trans h.os, k.tape.trans h.tape, k.output.trans h.output, Nat.le_trans h.size k.size, fun i hi => (k.same i hi).trans (h.same i hi)⟩
/-- how a round's body is left -/
def roundQ {α ι : Type} (Mi : ι → List Ent) (Inv : List α → ι → Prop) (xs : List α) (w1 : World) (S1 : List Nat) : Exit → Act → World → Prop
  | .normal, _, W' => ∃ j, Inv xs j ∧ Holds w1 S1 (Mi j) W'
  | _, _, _ => False
theorem JE.round {α ι : Type} {n : Nat} {w1 : World} {S1 : List Nat} {E : Env} {M : List Ent} {Mi : ι → List Ent} {Inv : List α → ι → Prop} {xs : List α} (j : ι) (hj : Inv xs j) (hM : Less (Mi j) M) : JE n w1 S1 (roundQ Mi Inv xs w1 S1) .normal E M :=
  ⟨fun _ _ _ hw => ⟨j, hj, hw.weak hM⟩⟩
theorem JC.range {P : Program} {n : Nat} {w0 : World} {Q : Exit → Act → World → Prop} {E : Env} {M : List Ent} {α ι : Type} {g : Operand} {p d rid : Nat} {ty : TypeId} {pos : String} {body : Code} {gf : Nat} {lb : Array Value} (enc : α → Value) (L : List Nat) (Sd Sp : List α → Prop) (N : Nat)
    (Mi : ι → List Ent) (Inv : List α → ι → Prop) (hg : ev E g = some (.func (.func gf) #[] lb)) (eg : ∀ args w, (callFunc gf args).run P w = .ok (.enter gf args) w)
    (hseq : ∀ W, Holds w0 [] M W → SeqStopsK Fence.wide 2 P gf lb (fun x => #[enc x]) (KeepL L) Sd Sp N W)
    (hcell : ∀ i, ∀ e ∈ Mi i, ∀ o, e.A o → o.isCells = true) (hL : ∀ i, ∀ k ∈ L, k < w0.heap.size ∨ ∃ A, Has (Mi i) k A false)
    (i0 : ι) (h0 : Inv [] i0) (hM : ∀ w, Holds w0 [] M w → Holds w0 [] (Mi i0) w) (hp : Nat.blt p n = true) (hd : Nat.blt d n = true)
    (hbody : ∀ l pre x i w1, Inv pre i → pre.length < N → Ext w0 w1 → (∀ k ∈ wrs (Mi i), w0.heap.size ≤ k) → JR P n w1 (wrs (Mi i)) l 1 (roundQ Mi Inv (pre ++ [x]) w1 (wrs (Mi i))) body ((d, enc x) :: (p, enc x) :: E) (Mi i))
    (hdone : ∀ D xs i, Sd xs → Inv xs i → KE D n w0 [] Q .normal E (⟨D, Dead, true⟩ :: Mi i)) :
    JC P n w0 [] Q (.rangeFunc g #[p] (.region rid #[⟨some d, .assign (.tmp p), ty, pos, #[], none⟩] false) body) E M := by
  refine ⟨fun a w ha hw => (wpIn_wide (n := 3)).1 ?_⟩
  have hLw : ∀ k ∈ L, k < w.heap.size := fun k hk => by
    rcases hL i0 k hk with h | ⟨A, h⟩
    · exact Nat.lt_of_lt_of_le h hw.chg.size
    · exact (hM w hw).lt h.mem
  have hI : OwnFrom w.heap.size (fun pre W => ∃ i, Inv pre i ∧ Holds w0 [] (Mi i) W) := by
    rintro pre W W' row ⟨i, hi, h⟩ hgr hrow
    refine ⟨i, hi, ⟨hgr.os.trans h.chg.os, hgr.tape.trans h.chg.tape, hgr.output.trans h.chg.output, Nat.le_trans h.chg.size hgr.size, fun k hk _ => ?_⟩, h.nodup, fun e he => ⟨?_, (h.all e he).2⟩⟩
    · refine (hgr.block k (Nat.lt_of_lt_of_le hk h.chg.size) fun hr => ?_).trans (h.chg.block k hk (by simp))
      have := (hrow k hr.symm).1
      have := hw.chg.size
      omega
    · obtain ⟨o, ho, hA⟩ := (h.all e he).1
      refine ⟨o, (hgr.block e.b (h.lt he) fun hr => ?_).trans ho, hA⟩
      obtain ⟨_, o2, ho2, hc⟩ := hrow _ hr.symm
      rw [ho] at ho2
      cases ho2
      rw [hcell i e he o hA] at hc
      cases hc
  have hpn : p < n := by simpa using hp
  have hdn : d < n := by simpa using hd
  refine wpIn_rangeFunc_ownG (n := 3) rfl (by omega) (gf := gf) (lb := lb) (ha.eval hg) trivial eg (w0 := w) (hseq w hw) (fun h k => h.trans k) (fun W l o o' hl _ _ _ => ?_) (RowKit.Below.refl _ _) (fun _ => rfl)
    (fun pre W => ∃ i, Inv pre i ∧ Holds w0 [] (Mi i) W) (fun _ _ _ => False) hI (fun _ _ _ _ _ h _ _ => h) ⟨i0, h0, hM w hw⟩ (fun x => (a.put (some p) (enc x)).put (some d) (enc x)) ?_ ?_ ?_ (fun _ _ _ _ _ _ h _ => h.elim)
  · exact ⟨rfl, rfl, rfl, by simp, fun k hk => World.putObj_heap_other (by have := hLw k hk; omega)⟩
  · intro l x W K hK
    refine wpIn_region_lit (wpListIn_plain rfl fun K' hK' => ⟨fun _ _ => trivial, ?_⟩)
    have he : ((#[p].zip #[enc x]).foldl (fun t (x : Nat × Value) => t.setIfInBounds x.1 x.2) a.tmps).getD p undef = enc x := by
      have : p < a.tmps.size := by rw [ha.size]; exact hpn
      simp [this]
    have hs : Oper.semAt (Rd l).round ({ tmps := (#[p].zip #[enc x]).foldl (fun t (x : Nat × Value) => t.setIfInBounds x.1 x.2) a.tmps, defers := [] } : Act).eval ⟨some d, .assign (.tmp p), ty, pos, #[], none⟩ = .pure (.value (enc x)) := by
      refine (Oper.semAt_some l _ _ ?_).trans ?_
      · intro c h; cases h
      show Sem.pure (Next.value (_ : Value)) = _
      exact congrArg (fun v => Sem.pure (Next.value v)) he
    show Oper.uponIn _ _ _ _ _ _ _ ((Oper.semAt (Rd l).round _ _).run P W)
    rw [hs]
    refine hK' _ _ (wpListIn_nil ?_)
    show K _ W
    have e : ({ tmps := (#[p].zip #[enc x]).foldl (fun t (x : Nat × Value) => t.setIfInBounds x.1 x.2) a.tmps, defers := [] } : Act).put (some d) (enc x) = (a.put (some p) (enc x)).put (some d) (enc x) := by
      obtain ⟨tm, df⟩ := a
      have := ha.defers
      simp only at this
      subst this
      simp [Act.put]
    rw [e]
    exact hK
  · rintro l pre x W ⟨i, hi, h⟩ hlen
    refine wpIn_mono ((hbody l pre x i W hi hlen h.chg h.wrs_ge).go _ W ((ha.put p _ hp).put d _ hd) h.rebase) ?_
    · rintro e a2 W2 hq
      cases e with
      | normal =>
        obtain ⟨j, hj, h2⟩ := hq
        refine ⟨⟨h2.chg.size, fun k o _ hk ho => ?_⟩, ⟨h2.chg.os, h2.chg.tape, h2.chg.output, h2.chg.size, fun k hk => ?_⟩, j, hj, h.unbase h2⟩
        · refine (h2.chg.block k (Array.getElem?_eq_some_iff.1 hk).1 fun hm => ?_).trans hk
          obtain ⟨e, he, _, rfl⟩ := mem_wrs.1 hm
          obtain ⟨o', ho', hA⟩ := (h.all e he).1
          rw [hk] at ho'
          cases ho'
          rw [hcell i e he _ hA] at ho
          cases ho
        · rcases hL i k hk with hlt | ⟨A, hA⟩
          · exact h2.chg.block k (Nat.lt_of_lt_of_le hlt h.chg.size) fun hm => by have := h.wrs_ge k hm; omega
          · refine h2.chg.block k (h.lt hA.mem) fun hm => ?_
            obtain ⟨e, he, hwr, hb⟩ := mem_wrs.1 hm
            have := nodup_inj h.nodup he hA.mem hb
            subst this
            cases hwr
      | ret => exact hq.elim
      | exit id => exact hq.elim
      | goto t => exact hq.elim
      | panic ch => exact hq.elim
      | outgrown => exact hq.elim
  · rintro D xs W hD hS ⟨i, hi, h⟩ hk
    refine (hdone D xs i hS hi).go _ W ⟨?_, ?_⟩ ?_
    · show _ :: a.defers = _
      rw [ha.defers]; rfl
    · exact ⟨ha.size, rfl, ha.all⟩
    · refine ⟨h.chg, ?_, fun e he => ?_⟩
      · simp only [List.map_cons, List.nodup_cons, h.nodup, and_true]
        intro hm
        obtain ⟨e, he, hb⟩ := List.mem_map.1 hm
        obtain ⟨o, ho, hA⟩ := (h.all e he).1
        rw [hb] at ho
        rw [hk] at ho
        cases ho
        have := hcell i e he _ hA
        cases this
      · simp only [List.mem_cons] at he
        rcases he with rfl | he
        · exact ⟨⟨_, hk, rfl⟩, fun _ => .inr (Nat.le_trans hw.chg.size hD)⟩
        · exact h.all e he
end Sl
end Go.Proofs.Ytjkncnbpaejamaa

/-
  Of no statement by itself: rules by which an iterator's own text is walked (a function that calls yield): the world is fixed between two rounds; for any program P.
  Conditions: each rule's own hypotheses.
-/
namespace Go.Proofs.Ytjkncnbpaejamaa
namespace Sl
section
variable {P : Program} {n : Nat} {W : World} {ops : Array Oper} {Q Q' : Exit → Act → World → Prop} {os : List Oper} {E E' : Env} {d : Nat} {op : Op} {ty : TypeId} {pos : String} {aft : Array Edge} {v : Value} {m : Nat}
structure FL (P : Program) (n m : Nat) (W : World) (ops : Array Oper) (Q : Exit → Act → World → Prop) (os : List Oper) (E : Env) : Prop where
  go : ∀ a, Knows n E a → wpListIn Fence.wide m P ops Q os a W
structure FE (n : Nat) (W : World) (Q : Exit → Act → World → Prop) (e : Exit) (E : Env) : Prop where
  go : ∀ a, Knows n E a → Q e a W
structure FC (P : Program) (n : Nat) (W : World) (Q : Exit → Act → World → Prop) (c : Code) (E : Env) : Prop where
  go : ∀ a, Knows n E a → c.wp P Q a W
theorem FC.seq {x y : Code} (h : FC P n W (Exit.then (y.wp P Q) Q) x E) : FC P n W Q (.seq x y) E := ⟨fun a ha => wp_seq (h.go a ha)⟩
theorem FC.skip (h : FE n W Q .normal E) : FC P n W Q .skip E := ⟨fun a ha => wp_skip (h.go a ha)⟩
theorem FC.ret (h : FE n W Q .ret E) : FC P n W Q .ret E := ⟨fun a ha => wp_ret (h.go a ha)⟩
theorem FC.exit {id : Nat} (h : FE n W Q (.exit id) E) : FC P n W Q (.exit id) E := ⟨fun a ha => wp_exit (h.go a ha)⟩
theorem FC.block {id : Nat} {c : Code} (h : FC P n W (Exit.inBlock id Q) c E) : FC P n W Q (.block id c) E := ⟨fun a ha => wp_block (h.go a ha)⟩
theorem FC.cond {c : Operand} {x y : Code} {t : Bool} (hc : ev E c = some (.bool t)) (ht : t = true → FC P n W Q x E) (hf : t = false → FC P n W Q y E) : FC P n W Q (.cond c x y) E :=
  ⟨fun a ha => wp_cond_split (ha.eval hc) (fun h => (ht h).go a ha) (fun h => (hf h).go a ha)⟩
theorem FC.region {id : Nat} {os : List Oper} (h : FL P n 2 W os.toArray Q os E) : FC P n W Q (.region id os.toArray false) E := ⟨fun a ha => (wpIn_wide (n := 2)).1 (wpIn_region_lit (h.go a ha))⟩
theorem FE.next {y : Code} (h : FC P n W Q' y E) : FE n W (Exit.then (y.wp P Q') Q) .normal E := ⟨h.go⟩
theorem FE.then_exit {K : Act → World → Prop} {id : Nat} (h : FE n W Q (.exit id) E) : FE n W (Exit.then K Q) (.exit id) E := ⟨h.go⟩
theorem FE.then_ret {K : Act → World → Prop} (h : FE n W Q .ret E) : FE n W (Exit.then K Q) .ret E := ⟨h.go⟩
theorem FE.blk_normal {id : Nat} (h : FE n W Q .normal E) : FE n W (Exit.inBlock id Q) .normal E := ⟨h.go⟩
theorem FE.blk_ret {id : Nat} (h : FE n W Q .ret E) : FE n W (Exit.inBlock id Q) .ret E := ⟨h.go⟩
theorem FE.blk_hit {id : Nat} (h : FE n W Q .normal E) : FE n W (Exit.inBlock id Q) (.exit id) E := ⟨fun a ha => by
  show (if id = id then Q .normal a W else _)
  rw [if_pos rfl]; exact h.go a ha⟩
theorem FL.nil (h : FE n W Q .normal E) : FL P n m W ops Q [] E := ⟨h.go⟩
theorem FL.q (h : OQ P n E (fun w => w = W) ⟨some d, op, ty, pos, aft, none⟩ v) (hdf : noDef ⟨some d, op, ty, pos, aft, none⟩ = true) (hd : Nat.blt d n = true) (k : FL P n m W ops Q os ((d, v) :: E)) : FL P n m W ops Q (⟨some d, op, ty, pos, aft, none⟩ :: os) E :=
  ⟨fun a ha => wpListIn_plain rfl fun K hK => by
    have hk := hK _ _ (k.go _ (ha.put d v hd))
    have hq := h.go a ha W rfl
    refine ⟨fun _ _ => trivial, ?_⟩
    have e : Oper.semAt Fence.wide.round a.eval ⟨some d, op, ty, pos, aft, none⟩ = execOp a.eval ⟨some d, op, ty, pos, aft, none⟩ := rfl
    rw [e]
    unfold Oper.quietAt at hq
    cases hr : (execOp a.eval ⟨some d, op, ty, pos, aft, none⟩).run P W with
    | ok nx w' =>
      rw [hr] at hq
      cases nx with
      | value u =>
        obtain ⟨rfl, rfl⟩ := hq
        exact hk
      | skip =>
        obtain ⟨rfl, rfl⟩ := hq
        exact hk
      | enter f args =>
        obtain ⟨rfl, hc⟩ := hq
        refine ⟨fun h => (by cases h), (callsIn_wide (n := m - 1)).2 (hc.mono ?_)⟩
        rintro e w2 ⟨rfl, rfl⟩
        exact hk
      | _ => exact hq.elim
    | halt x w' =>
      rw [hr] at hq
      exact hq.elim⟩
/-- a call of yield -/
theorem FL.yield {l : Nat} {x y : Operand} {t : TypeId} {R : Ending → World → Prop} (hx : ev E x = some (.func (.yield l) #[] #[])) (hy : ev E y = some v) (hd : Nat.blt d n = true) (h : YieldAt Fence.wide 1 P l #[v] W R)
    (hR : ∀ e W', R e W' → ∃ b, e = .returned (.bool b) ∧ FL P n 2 W' ops Q os ((d, .bool b) :: E)) : FL P n 2 W ops Q (⟨some d, .call ⟨.value x, #[y], #[t]⟩, ty, pos, aft, none⟩ :: os) E :=
  ⟨fun a ha => wpListIn_plain rfl fun K hK => by
    obtain ⟨fn, tmps, assign, body, hrun, hro⟩ := h
    refine ⟨fun _ _ => trivial, ?_⟩
    have e : (Oper.semAt Fence.wide.round a.eval ⟨some d, .call ⟨.value x, #[y], #[t]⟩, ty, pos, aft, none⟩).run P W = .ok (.round l fn tmps assign body) W := by
      have e0 : Oper.semAt Fence.wide.round a.eval ⟨some d, .call ⟨.value x, #[y], #[t]⟩, ty, pos, aft, none⟩ = execOp a.eval ⟨some d, .call ⟨.value x, #[y], #[t]⟩, ty, pos, aft, none⟩ := rfl
      rw [e0]
      simp only [execOp, resolve, Sem.run_bind, ha.eval hx, List.map_toArray, List.map_cons, List.map_nil, ha.eval hy, Deferred.ofValue, Sem.run_pure, Result.andThen_ok, invoke]
      simpa using hrun
    rw [e]
    refine ⟨fun h => (by cases h), hro.mono fun e W' hr => ?_⟩
    obtain ⟨b, rfl, hl⟩ := hR e W' hr
    exact hK _ _ (hl.go _ (ha.put d _ hd))⟩
/-- a loop whose rounds leave other worlds -/
theorem FC.loop {ι : Type} (Ei : ι → Env) (Ci : ι → World → Prop) (μ : ι → Nat) {c : Code} (i : ι) (hi : Ci i W) (hE : SubE E (Ei i))
    (h : ∀ i w, Ci i w → FC P n w (Exit.then (fun a' w' => ∃ j, Ci j w' ∧ μ j < μ i ∧ Knows n (Ei j) a') Q) c (Ei i)) : FC P n W Q (.loop c) E := by
  refine ⟨fun a ha => ?_⟩
  have ha' := ha.sub hE
  clear ha hE
  have key : ∀ m i, μ i = m → ∀ a w, Ci i w → Knows n (Ei i) a → ∀ (b : Frame) (k : List Item) (cs : List Frame),
      ∃ e a' w', Q e a' w' ∧ Arrives P (lone (b.at a (.code c :: .inLoop c :: k)) cs w) b k cs e a' w' := by
    intro m
    induction m using Nat.strongRecOn with
    | _ m ih =>
      intro i hm a w hw ha b k cs
      obtain ⟨e, a₁, w₁, hq, harr⟩ := (h i w hw).go a ha b (.inLoop c :: k) cs
      cases e with
      | normal =>
        obtain ⟨j, hw₁, hlt, ha₁⟩ := hq
        obtain ⟨e₂, a₂, w₂, hq₂, harr₂⟩ := ih (μ j) (hm ▸ hlt) j rfl a₁ w₁ hw₁ ha₁ b k cs
        exact ⟨e₂, a₂, w₂, hq₂, .of_steps (Steps.trans harr (.one step_inLoop)) harr₂⟩
      | exit id => exact ⟨_, a₁, w₁, hq, .pass (x := .inLoop c) rfl (fun _ _ => .inl (by simp)) harr⟩
      | goto l => exact ⟨_, a₁, w₁, hq, .pass (x := .inLoop c) rfl (fun _ _ => .inl (by simp)) harr⟩
      | ret => exact ⟨_, a₁, w₁, hq, .pass (x := .inLoop c) rfl (fun _ _ => .inl (by simp)) harr⟩
      | panic ch => exact ⟨_, a₁, w₁, hq, .pass (x := .inLoop c) rfl (fun _ _ => .inl (by simp)) harr⟩
      | outgrown => exact ⟨_, a₁, w₁, hq, .pass (x := .inLoop c) rfl (fun _ _ => .inl (by simp)) harr⟩
  intro b k cs
  obtain ⟨e, a', w', hq, harr⟩ := key _ i rfl a W hi ha' b k cs
  exact ⟨e, a', w', hq, .of_steps (.one step_loop) harr⟩
theorem FE.again {ι : Type} {Ei : ι → Env} {Ci : ι → World → Prop} {μ : ι → Nat} {i : ι} (j : ι) (hj : Ci j W) (hμ : μ j < μ i) (hE : SubE E (Ei j)) :
    FE n W (Exit.then (fun a' w' => ∃ j, Ci j w' ∧ μ j < μ i ∧ Knows n (Ei j) a') Q) .normal E := ⟨fun _ ha => ⟨j, hj, hμ, ha.sub hE⟩⟩
theorem FE.ret0 {fn : Func} {R : Ending → World → Prop} (hr : fn.results = #[]) (hR : R (.returned (.tuple #[])) W) : FE n W (bodyPost P fn R) .ret E := ⟨fun a ha => ⟨ha.defers, .tuple #[], by simp [results, hr], hR⟩⟩
theorem FE.end0 {fn : Func} {R : Ending → World → Prop} (hr : fn.results = #[]) (hR : R (.returned (.tuple #[])) W) : FE n W (bodyPost P fn R) .normal E := ⟨fun a ha => ⟨ha.defers, .tuple #[], by simp [results, hr], hR⟩⟩
theorem enterF {f : FuncId} {fn : Func} {c : Code} {vs : List Value} {R : Ending → World → Prop} (hf : P.funcs[f]? = some fn) (hb : fn.body = some c) (hn : fn.ntmps = n) (hl : Nat.ble vs.length n = true)
    (h : FC P n W (bodyPost P fn R) c (enum 0 vs)) : Calls P f vs.toArray W R := by
  refine calls_of_wp hf hb (h.go _ ?_)
  rw [hn]
  exact Knows.enter vs (by simpa using hl)
end
end Sl
end Go.Proofs.Ytjkncnbpaejamaa

/-
  Of no statement by itself: Slg's rule for regions whose order is open, with any relation between what an operation makes and what the one it stems from made.
  Conditions: the rule's own hypotheses.
-/
namespace Go.Proofs.Ytjkncnbpaejamaa
namespace Sl
variable {Y : Type}
structure GrowR (Y : Type) where
  E0 : Env
  N : Nat
  v : Nat → Y → Value
  M : Nat → Y → List Ent
  need : Nat → List (Nat × Nat)
  inp : Nat → List Nat
  eat : Nat → List Nat
  src : Nat → Option Nat
  E1 : Nat → Env
  R : Nat → Y → Y → Prop
/-- what is known at first of a slot that a later operation writes -/
def GrowR.okE1 (g : GrowR Y) (l : List Oper) (i : Nat) : Bool :=
  (g.E1 i).all fun p => (List.range l.length).all fun k => dstOf l k != some p.1 || (k != i && behindOf l k i)
def GrowR.okOp (g : GrowR Y) (l : List Oper) (i : Nat) (o : Oper) : Bool :=
  (((g.need i).all (fun p => behind o p.1 && dstOf l p.1 == some p.2) && srcOk o (g.src i)) && g.okE1 l i) &&
  ((g.inp i).all (fun j => decide (j < g.N) && (decide (l.length ≤ j) || behind o j)) &&
  ((g.eat i).all (fun j => (g.inp i).contains j) &&
  ((List.range l.length).all (fun k => k == i || (g.eat k).all fun j => !(g.inp i).contains j || behindOf l k i) &&
  (noDup (g.inp i) && (o.after.toList.all (fun e => !Region.binds .any e || decide (e.on < i)) && apartD l g.E0 i o.dst)))))
def GrowR.okFrom (g : GrowR Y) (l : List Oper) : Nat → List Oper → Bool
  | _, [] => true
  | i, o :: r => g.okOp l i o && g.okFrom l (i + 1) r
theorem GrowR.okFrom_at {g : GrowR Y} {l : List Oper} : ∀ {r : List Oper} {i : Nat}, g.okFrom l i r = true → ∀ {j o}, r[j]? = some o → g.okOp l (i + j) o = true
  | [], _, _, j, o, h => by simp at h
  | q :: r, i, hk, j, o, h => by
    simp only [GrowR.okFrom, Bool.and_eq_true] at hk
    cases j with
    | zero =>
      simp only [List.getElem?_cons_zero, Option.some.injEq] at h
      subst h
      exact hk.1
    | succ j =>
      have := GrowR.okFrom_at hk.2 (j := j) (o := o) (by simpa using h)
      rwa [show i + 1 + j = i + (j + 1) by omega] at this
def GrowR.Job (g : GrowR Y) (P : Program) (n : Nat) (w0 : World) (S : List Nat) (l : List Oper) (i : Nat) (o : Oper) : Prop :=
  ∀ (x : Nat → Y) (EF : Env) (MF : List Ent) (Q : Exit → Act → World → Prop),
    (∀ xi : Y, (∀ k, g.src i = some k → g.R i xi (x k)) → JE n w0 S Q .normal (slot o.dst (g.v i xi) ++ ((g.need i).map (fun p => (p.2, g.v p.1 (x p.1))) ++ (g.E0 ++ (g.E1 i ++ EF)))) (g.M i xi ++ (((g.inp i).filter fun j => !(g.eat i).contains j).flatMap (fun j => g.M j (x j)) ++ MF))) →
    JL P n w0 S l.toArray Q [o] ((g.need i).map (fun p => (p.2, g.v p.1 (x p.1))) ++ (g.E0 ++ (g.E1 i ++ EF))) ((g.inp i).flatMap (fun j => g.M j (x j)) ++ MF)
def GrowR.Jobs (g : GrowR Y) (P : Program) (n : Nat) (w0 : World) (S : List Nat) (l : List Oper) : Nat → List Oper → Prop
  | _, [] => True
  | i, o :: r => g.Job P n w0 S l i o ∧ g.Jobs P n w0 S l (i + 1) r
theorem GrowR.Jobs_at {g : GrowR Y} {P : Program} {n : Nat} {w0 : World} {S : List Nat} {l : List Oper} : ∀ {r : List Oper} {i : Nat}, g.Jobs P n w0 S l i r → ∀ {j o}, r[j]? = some o → g.Job P n w0 S l (i + j) o
  | [], _, _, j, o, h => by simp at h
  | q :: r, i, hk, j, o, h => by
    cases j with
    | zero =>
      simp only [List.getElem?_cons_zero, Option.some.injEq] at h
      subst h
      exact hk.1
    | succ j =>
      have := GrowR.Jobs_at hk.2 (j := j) (o := o) (by simpa using h)
      rwa [show i + 1 + j = i + (j + 1) by omega] at this

/-- which makings stand -/
def GrowR.live (g : GrowR Y) (m : Nat) (done : Array Bool) (j : Nat) : Prop := j < g.N ∧ (m ≤ j ∨ done.getD j false = true) ∧ ∀ k, done.getD k false = true → j ∉ g.eat k
structure GrowR.Inv (g : GrowR Y) (n : Nat) (w0 : World) (S : List Nat) (l : List Oper) (done : Array Bool) (x : Nat → Y) (a : Act) (w : World) : Prop where
  size : a.tmps.size = n
  defers : a.defers = []
  dsize : done.size = l.length
  base : ∀ p ∈ g.E0, a.tmps.getD p.1 undef = p.2
  first : ∀ j, j < l.length → done.getD j false = false → ∀ p ∈ g.E1 j, a.tmps.getD p.1 undef = p.2
  vals : ∀ j d, done.getD j false = true → dstOf l j = some d → a.tmps.getD d undef = g.v j (x j)
  rel : ∀ j k, done.getD j false = true → g.src j = some k → g.R j (x j) (x k)
  down : ∀ j i, done.getD j false = true → behindOf l j i = true → done.getD i false = true
  mem : HoldsI w0 S (g.live l.length done) (fun j => g.M j (x j)) w

section
variable {P : Program} {n : Nat} {w0 : World} {S : List Nat} {Q : Exit → Act → World → Prop} {E : Env} {M : List Ent} {g : GrowR Y} {l : List Oper}
theorem GrowR.run (hok : g.okFrom l 0 l = true) (hj : g.Jobs P n w0 S l 0 l)
    (hend : ∀ done x a w, g.Inv n w0 S l done x a w → (∀ j, j < l.length → done.getD j false = true) → Q .normal a w) :
    ∀ (f : Nat) (done : Array Bool) (x : Nat → Y) (a : Act) (w : World), f = (List.range l.length).countP (fun j => !done.getD j false) → g.Inv n w0 S l done x a w → wpAny P .any l.toArray Q f done a w := by
  have hrdy : ∀ done : Array Bool, done.size = l.length → Region.ready .any l.toArray done = [] → ∀ j, j < l.length → done.getD j false = true := by
    intro done hds hr j
    induction j using Nat.strongRecOn with
    | _ j ih =>
      intro hjl
      cases hd : done.getD j false with
      | true => rfl
      | false =>
        obtain ⟨o, ho⟩ : ∃ o, l[j]? = some o := ⟨_, List.getElem?_eq_getElem hjl⟩
        have hk := GrowR.okFrom_at hok ho
        simp only [GrowR.okOp, Bool.and_eq_true, Nat.zero_add] at hk
        have hkk := hk.2.2.2.2.2.1
        have : j ∈ Region.ready .any l.toArray done := by
          rw [mem_ready]
          refine ⟨?_, o, by simpa using ho, fun e he hb => ?_⟩
          · rw [Array.getD_eq_getD_getElem?, Array.getElem?_eq_getElem (by omega)] at hd ⊢
            simpa using hd
          · have := List.all_eq_true.1 hkk e (by simpa using he)
            simp only [hb, Bool.not_true, Bool.false_or, decide_eq_true_eq] at this
            exact ih e.on this (by omega)
        rw [hr] at this
        cases this
  intro f
  induction f with
  | zero =>
    intro done x a w hf hI
    have hall : ∀ j, j < l.length → done.getD j false = true := fun j hjl => by
      have := List.countP_eq_zero.1 hf.symm j (List.mem_range.2 hjl)
      simpa using this
    refine ⟨?_, hend done x a w hI hall⟩
    refine List.eq_nil_iff_forall_not_mem.2 fun i hi => ?_
    obtain ⟨hu, o, ho, _⟩ := mem_ready.1 hi
    have hil : i < l.length := by
      have := (Array.getElem?_eq_some_iff.1 ho).1
      simpa using this
    have := hall i hil
    rw [Array.getD_eq_getD_getElem?, Array.getElem?_eq_getElem (by have := hI.dsize; omega)] at hu this
    simp only [Option.getD_some] at hu this
    rw [hu] at this
    cases this
  | succ f ih =>
    intro done x a w hf hI
    have hds := hI.dsize
    refine ⟨fun h0 => hend done x a w hI (hrdy done hds h0), fun i hi => ?_⟩
    obtain ⟨hu, o, ho, hbe⟩ := mem_ready.1 hi
    have hil : i < l.length := by
      have := (Array.getElem?_eq_some_iff.1 ho).1
      simpa using this
    have ho' : l[i]? = some o := by simpa using ho
    have hu' : done.getD i false = false := by
      rw [Array.getD_eq_getD_getElem?, Array.getElem?_eq_getElem (by omega)] at hu ⊢
      simpa using hu
    have hk := GrowR.okFrom_at hok ho'
    simp only [GrowR.okOp, Bool.and_eq_true, Nat.zero_add] at hk
    obtain ⟨⟨⟨k1, k8⟩, k9⟩, k2, k3, k4, k5, _, k7⟩ := hk
    have hbeh : ∀ j, behind o j = true → done.getD j false = true := fun j hj => by
      simp only [behind, List.any_eq_true, Bool.and_eq_true, beq_iff_eq] at hj
      obtain ⟨e, he, rfl, hb⟩ := hj
      exact hbe e (by simpa using he) hb
    have hbi : ∀ k, behindOf l k i = true → done.getD k false = false := fun k hk => by
      cases h : done.getD k false with
      | false => rfl
      | true => have := hI.down k i h hk; rw [hu'] at this; cases this
    have hinp : ∀ j ∈ g.inp i, g.live l.length done j := by
      intro j hj
      have h2 := List.all_eq_true.1 k2 j hj
      simp only [Bool.and_eq_true, Bool.or_eq_true, decide_eq_true_eq] at h2
      refine ⟨h2.1, h2.2.imp id (hbeh j), fun k hkd hjk => ?_⟩
      have hkl : k < l.length := by
        by_cases h : k < l.length
        · exact h
        · rw [Array.getD_eq_getD_getElem?, Array.getElem?_eq_none (by omega)] at hkd
          cases hkd
      have h4 := List.all_eq_true.1 k4 k (List.mem_range.2 hkl)
      have hki : k ≠ i := fun e => by rw [e, hu'] at hkd; cases hkd
      simp only [Bool.or_eq_true, beq_iff_eq, hki, false_or] at h4
      have h5 := List.all_eq_true.1 h4 j hjk
      simp only [Bool.or_eq_true, Bool.not_eq_true', List.contains_eq_mem, decide_eq_false_iff_not, hj, not_true, false_or] at h5
      rw [hbi k h5] at hkd
      cases hkd
    have hdone_ne : ∀ j, done.getD j false = true → j ≠ i := fun j hj e => by rw [e, hu'] at hj; cases hj
    have hlen : ∀ k, done.getD k false = true → k < l.length := fun k hkd => by
      by_cases h : k < l.length
      · exact h
      · rw [Array.getD_eq_getD_getElem?, Array.getElem?_eq_none (by omega)] at hkd
        cases hkd
    have hdi : dstOf l i = o.dst := by simp [dstOf, ho']
    have hne : ∀ j d, done.getD j false = true → dstOf l j = some d → o.dst ≠ some d := by
      intro j d hjd hd he
      rw [he] at k7
      simp only [apartD, Bool.and_eq_true] at k7
      have := List.all_eq_true.1 k7.1 j (List.mem_range.2 (hlen j hjd))
      simp [hdone_ne j hjd, hd] at this
    have hne0 : ∀ p ∈ g.E0, o.dst ≠ some p.1 := by
      intro p hp he
      rw [he] at k7
      simp only [apartD, Bool.and_eq_true] at k7
      have := List.all_eq_true.1 k7.2 p hp
      simp at this
    let rest : List Nat := (List.range g.N).filter fun j => @decide (g.live l.length done j) (Classical.propDecidable _) && !(g.inp i).contains j
    have hrest : ∀ j, j ∈ rest ↔ g.live l.length done j ∧ j ∉ g.inp i := by
      intro j
      simp only [rest, List.mem_filter, List.mem_range, Bool.and_eq_true, Bool.not_eq_true', List.contains_eq_mem, decide_eq_false_iff_not]
      refine ⟨fun ⟨_, h2, h3⟩ => ⟨@of_decide_eq_true _ (Classical.propDecidable _) h2, h3⟩, fun ⟨h2, h3⟩ => ⟨h2.1, @decide_eq_true _ (Classical.propDecidable _) h2, h3⟩⟩
    have hnd : (g.inp i ++ rest).Nodup := by
      rw [List.nodup_append]
      refine ⟨noDup_spec k5, List.nodup_range.filter _, fun a ha b hb e => ?_⟩
      exact ((hrest b).1 hb).2 (e ▸ ha)
    have H1 := hI.mem.to (g.inp i ++ rest) hnd (fun j hj => by
      rcases List.mem_append.1 hj with h | h
      · exact hinp j h
      · exact ((hrest j).1 h).1)
    rw [List.flatMap_append] at H1
    let EF0 : Env := (List.range l.length).filterMap fun j => if done.getD j false = true then (dstOf l j).map (fun d => (d, g.v j (x j))) else none
    let EF1 : Env := (List.range l.length).flatMap fun j => if done.getD j false = true then [] else g.E1 j
    let EF : Env := EF0 ++ EF1
    have hEF : ∀ p, p ∈ EF0 ↔ ∃ j d, done.getD j false = true ∧ dstOf l j = some d ∧ p = (d, g.v j (x j)) := by
      intro p
      simp only [EF0, List.mem_filterMap, List.mem_range]
      constructor
      · rintro ⟨j, _, hp⟩
        split at hp
        · rename_i hjd
          obtain ⟨d, hd, rfl⟩ := Option.map_eq_some_iff.1 hp
          exact ⟨j, d, hjd, hd, rfl⟩
        · cases hp
      · rintro ⟨j, d, hjd, hd, rfl⟩
        exact ⟨j, hlen j hjd, by rw [if_pos hjd, hd]; rfl⟩
    have hEF1 : ∀ j, j < l.length → done.getD j false = false → ∀ p ∈ g.E1 j, p ∈ EF1 := by
      intro j hjl hjd p hp
      simp only [EF1, List.mem_flatMap, List.mem_range]
      exact ⟨j, hjl, by rw [if_neg (by rw [hjd]; decide)]; exact hp⟩
    have hne1 : ∀ j, j < l.length → done.getD j false = false → ∀ p ∈ g.E1 j, o.dst ≠ some p.1 := by
      intro j hjl hjd p hp he
      have hjo : l[j]? = some (l[j]'hjl) := List.getElem?_eq_getElem hjl
      have hkj := GrowR.okFrom_at hok hjo
      simp only [GrowR.okOp, Bool.and_eq_true, Nat.zero_add] at hkj
      have h9 := List.all_eq_true.1 hkj.1.2 p hp
      have h10 := List.all_eq_true.1 h9 i (List.mem_range.2 hil)
      simp only [hdi, he, bne_self_eq_false, Bool.false_or, Bool.and_eq_true] at h10
      have h11 : behind o j = true := by simpa [behindOf, ho'] using h10.2
      rw [hbeh j h11] at hjd
      cases hjd
    have hneed : ∀ p ∈ g.need i, done.getD p.1 false = true ∧ dstOf l p.1 = some p.2 := by
      intro p hp
      have h1 := List.all_eq_true.1 k1 p hp
      simp only [Bool.and_eq_true, beq_iff_eq] at h1
      exact ⟨hbeh _ h1.1, h1.2⟩
    have hK : ∀ p ∈ ((g.need i).map (fun p => (p.2, g.v p.1 (x p.1))) ++ (g.E0 ++ (g.E1 i ++ EF))), a.tmps.getD p.1 undef = p.2 ∧ o.dst ≠ some p.1 := by
      intro p hp
      rcases List.mem_append.1 hp with h | h
      · obtain ⟨q, hq, rfl⟩ := List.mem_map.1 h
        obtain ⟨h1, h2⟩ := hneed q hq
        exact ⟨hI.vals _ _ h1 h2, hne _ _ h1 h2⟩
      · rcases List.mem_append.1 h with h | h
        · exact ⟨hI.base p h, hne0 p h⟩
        · rcases List.mem_append.1 h with h | h
          · exact ⟨hI.first i hil hu' p h, hne1 i hil hu' p h⟩
          · rcases List.mem_append.1 h with h | h
            · obtain ⟨j, d, h1, h2, rfl⟩ := (hEF p).1 h
              exact ⟨hI.vals _ _ h1 h2, hne _ _ h1 h2⟩
            · simp only [EF1, List.mem_flatMap, List.mem_range] at h
              obtain ⟨j, hjl, h⟩ := h
              cases hjd : done.getD j false with
              | true => rw [hjd] at h; simp at h
              | false =>
                rw [hjd] at h
                simp only [Bool.false_eq_true, if_false] at h
                exact ⟨hI.first j hjl hjd p h, hne1 j hjl hjd p h⟩
    have job := GrowR.Jobs_at hj ho'
    rw [Nat.zero_add] at job
    refine wpOp_of_list ho ((job x EF (rest.flatMap fun j => g.M j (x j)) _ fun xi hxi => ⟨fun a' w' hK' hH' => ?_⟩).go a w (Knows.of hI.size hI.defers fun p hp => (hK p hp).1) H1)
    have hd' : ∀ j, (done.setIfInBounds i true).getD j false = (decide (j = i) || done.getD j false) := fun j => getD_set (by omega)
    refine ih _ (fun j => if j = i then xi else x j) a' w' ?_ ?_
    · have := count_drop (l := List.range l.length) (p := fun j => !done.getD j false) (q := fun j => !(done.setIfInBounds i true).getD j false) (i := i) List.nodup_range (List.mem_range.2 hil) (by simp only [hu']; rfl) (by simp only [hd']; simp) (fun j hj => by simp only [hd']; simp [hj])
      omega
    · have hmem : ∀ p ∈ (slot o.dst (g.v i xi) ++ ((g.need i).map (fun p => (p.2, g.v p.1 (x p.1))) ++ (g.E0 ++ (g.E1 i ++ EF)))), a'.tmps.getD p.1 undef = p.2 := by
        intro p hp
        refine hK'.mem (f := fun t => if o.dst = some t then g.v i xi else a.tmps.getD t undef) (fun q hq => ?_) hp
        rcases List.mem_append.1 hq with h | h
        · cases hod : o.dst with
          | none => rw [hod] at h; cases h
          | some d =>
            rw [hod] at h
            simp only [slot, List.mem_singleton] at h
            subst h
            simp
        · have := hK q h
          simp only [this.2, if_false]
          exact this.1
      refine ⟨hK'.size, hK'.defers, by simp [hds], fun p hp => hmem p (by simp [hp]), fun j hjl hjd p hp => ?_, ?_, ?_, ?_, ?_⟩
      · rw [hd'] at hjd
        simp only [Bool.or_eq_false_iff] at hjd
        exact hmem p (List.mem_append_right _ (List.mem_append_right _ (List.mem_append_right _ (List.mem_append_right _ (List.mem_append_right _ (hEF1 j hjl hjd.2 p hp))))))
      · intro j d hjd hd
        by_cases e : j = i
        · subst e
          rw [hdi] at hd
          have := hmem (d, g.v j xi) (by simp [hd, slot])
          simpa using this
        · rw [hd'] at hjd
          simp only [e, decide_false, Bool.false_or] at hjd
          have := hmem (d, g.v j (x j)) (List.mem_append_right _ (List.mem_append_right _ (List.mem_append_right _ (List.mem_append_right _ (List.mem_append_left _ ((hEF _).2 ⟨j, d, hjd, hd, rfl⟩))))))
          simpa [e] using this
      · intro j k hjd hs
        rw [hd'] at hjd
        by_cases e : j = i
        · subst e
          rw [hs] at k8
          simp only [if_true, hdone_ne k (hbeh k k8), if_false]
          exact hxi k hs
        · simp only [e, decide_false, Bool.false_or] at hjd
          have hjo : l[j]? = some (l[j]'(hlen j hjd)) := List.getElem?_eq_getElem (hlen j hjd)
          have hkj := GrowR.okFrom_at hok hjo
          simp only [GrowR.okOp, Bool.and_eq_true, Nat.zero_add] at hkj
          have h8 := hkj.1.1.2
          rw [hs] at h8
          have hkd := hI.down j k hjd (by simpa [behindOf, hjo, srcOk] using h8)
          simp only [e, hdone_ne k hkd, if_false]
          exact hI.rel j k hjd hs
      · intro j i' hjd hb
        rw [hd'] at hjd ⊢
        by_cases e : j = i
        · subst e
          have : behind o i' = true := by simpa [behindOf, ho'] using hb
          simp [hbeh i' this]
        · simp only [e, decide_false, Bool.false_or] at hjd
          simp [hI.down j i' hjd hb]
      · have hnl : ¬ g.live l.length done i := fun h => by
          rcases h.2.1 with h | h
          · omega
          · rw [hu'] at h; cases h
        have hcg : ∀ L : List Nat, (∀ j ∈ L, g.live l.length done j) → L.flatMap (fun j => g.M j (if j = i then xi else x j)) = L.flatMap fun j => g.M j (x j) := by
          intro L
          induction L with
          | nil => simp
          | cons j L ih =>
            intro h
            have hji : j ≠ i := fun e => hnl (e ▸ h j (by simp))
            simp only [List.flatMap_cons, hji, if_false, ih fun k hk => h k (by simp [hk])]
        refine HoldsI.of (Js := i :: (((g.inp i).filter fun j => !(g.eat i).contains j) ++ rest)) ?_ ?_
        · rw [List.flatMap_cons, List.flatMap_append, hcg _ (fun j hj => hinp j (List.mem_filter.1 hj).1), hcg rest (fun j hj => ((hrest j).1 hj).1)]
          simpa using hH'
        · intro j hj
          by_cases e : j = i
          · simp [e]
          · have hl : g.live l.length done j := by
              refine ⟨hj.1, hj.2.1.imp id (fun h => ?_), fun k hk => hj.2.2 k (by rw [hd']; simp [hk])⟩
              rw [hd'] at h
              simpa [e] using h
            have hne : j ∉ g.eat i := hj.2.2 i (by rw [hd']; simp)
            by_cases hji : j ∈ g.inp i
            · simp [e, hji, hne]
            · have := (hrest j).2 ⟨hl, hji⟩
              simp [e, this]
/-- a region whose order is open, each operation told once; g.E1: what is known of slots until the region writes them -/
theorem growR_any [Inhabited Y] (g : GrowR Y) (outs : List (Nat × Nat)) (ends : List Nat) (hE : SubE E g.E0) (hE1 : ∀ i, i < l.length → SubE E (g.E1 i)) (hM : Less (((List.range g.N).filter fun j => decide (l.length ≤ j)).flatMap fun j => g.M j default) M)
    (hok : g.okFrom l 0 l = true) (ho : (outs.all fun p => decide (p.1 < l.length) && dstOf l p.1 == some p.2) = true)
    (he : (noDup ends && ends.all fun j => decide (j < g.N) && (List.range l.length).all fun k => !(g.eat k).contains j) = true)
    (hj : g.Jobs P n w0 S l 0 l)
    (k : ∀ x : Nat → Y, (∀ j k, j < l.length → g.src j = some k → g.R j (x j) (x k)) → JE n w0 S Q .normal (outs.map (fun p => (p.2, g.v p.1 (x p.1))) ++ g.E0) (ends.flatMap fun j => g.M j (x j))) {a : Act} {w : World} (ha : Knows n E a) (hw : Holds w0 S M w) : wpAny P .any l.toArray Q l.toArray.size (Array.replicate l.toArray.size false) a { w with drawn := w.drawn + 1 } := by
    have hw' := (hw.drawn (w.drawn + 1)).weak hM
    simp only [Bool.and_eq_true] at he
    refine GrowR.run hok hj (fun done x a w hI hall => ?_) _ _ (fun _ => default) a _ ?_ ?_
    · refine (k x fun j k hj hs => hI.rel j k (hall j hj) hs).go a w (Knows.of hI.size hI.defers fun p hp => ?_) (hI.mem.to ends (noDup_spec he.1) fun j hj => ?_)
      · rcases List.mem_append.1 hp with h | h
        · obtain ⟨q, hq, rfl⟩ := List.mem_map.1 h
          have := List.all_eq_true.1 ho q hq
          simp only [Bool.and_eq_true, decide_eq_true_eq, beq_iff_eq] at this
          exact hI.vals _ _ (hall _ this.1) this.2
        · exact hI.base p h
      · have := List.all_eq_true.1 he.2 j hj
        simp only [Bool.and_eq_true, decide_eq_true_eq] at this
        refine ⟨this.1, ?_, fun k hk hjk => ?_⟩
        · by_cases h : l.length ≤ j
          · exact .inl h
          · exact .inr (hall j (by omega))
        · have hkl : k < l.length := by
            by_cases h : k < l.length
            · exact h
            · have := hI.dsize
              rw [Array.getD_eq_getD_getElem?, Array.getElem?_eq_none (by omega)] at hk
              cases hk
          have := List.all_eq_true.1 this.2 k (List.mem_range.2 hkl)
          simp [hjk] at this
    · have : ∀ j, (Array.replicate l.toArray.size false).getD j false = false := fun j => by
        simp only [Array.getD_eq_getD_getElem?, Array.getElem?_replicate]
        split <;> rfl
      rw [List.countP_eq_length.2 (fun j _ => by simp only [this]; rfl)]
      simp
    · have hf : ∀ j, (Array.replicate l.toArray.size false).getD j false = false := fun j => by
        simp only [Array.getD_eq_getD_getElem?, Array.getElem?_replicate]
        split <;> rfl
      refine ⟨ha.size, ha.defers, by simp, fun p hp => ha.all _ _ (hE.all p hp), fun j hj _ p hp => ha.all _ _ ((hE1 j hj).all p hp), fun j d h => ?_, fun j k h => ?_, fun j i h => ?_, ?_⟩
      · rw [hf] at h; cases h
      · rw [hf] at h; cases h
      · rw [hf] at h; cases h
      · refine HoldsI.of hw' fun j hj => ?_
        rw [List.mem_filter]
        refine ⟨List.mem_range.2 hj.1, ?_⟩
        rcases hj.2.1 with h | h
        · simpa using h
        · rw [hf] at h; cases h
end
end Sl
end Go.Proofs.Ytjkncnbpaejamaa

/-
  Of no statement by itself: ranges over functions whose rounds come in an order that is told ahead (round k gets the k-th two values), and may leave the function; a round's body with regions whose order is open; for any program P.
  Conditions: each rule's own hypotheses.
-/
namespace Go.Proofs.Ytjkncnbpaejamaa
namespace Sl
/-! ### more steps of a round -/
section
variable {P : Program} {m l : Nat}
theorem wpOpIn_of_wpOp {ops : Array Oper} {Q : Exit → Act → World → Prop} {i : Nat} {K K' : Act → World → Prop} {a : Act} {w : World} (hd : ops.toList.all noDef = true) (hQ : ¬ LetsOut Q) (hK : ∀ a w, K a w → K' a w) (h : wpOp P ops Q i K a w) : wpOpIn (Rd l) m P ops Q i K' a w := by
  unfold wpOp at h
  unfold wpOpIn
  cases ho : ops[i]? with
  | none => rw [ho] at h; exact hK _ _ h
  | some o =>
    rw [ho] at h
    have hno : noDef o = true := List.all_eq_true.1 hd o (by
      have := Array.mem_of_getElem? ho
      exact Array.mem_toList_iff.2 this)
    dsimp only at h ⊢
    by_cases hw : Region.wanted o (yielded ops a.tmps) = true
    · rw [if_pos hw] at h ⊢
      rcases h with h | h
      · exact wpIn_of_wp hno hQ hK h
      · exact absurd h.2 hQ
    · rw [if_neg hw] at h ⊢
      exact ⟨fun _ _ => trivial, hK _ _ h⟩
theorem wpAnyIn_of_wpAny {md : Region.Mode} {ops : Array Oper} {Q : Exit → Act → World → Prop} (hd : ops.toList.all noDef = true) (hQ : ¬ LetsOut Q) : ∀ (fuel : Nat) (listed : Array Bool) (a : Act) (w : World), wpAny P md ops Q fuel listed a w → wpAnyIn (Rd l) m P md ops Q fuel listed a w
  | 0, _, _, _, h => h
  | fuel + 1, listed, a, w, h => ⟨h.1, fun i hi => wpOpIn_of_wpOp hd hQ (fun a w => wpAnyIn_of_wpAny hd hQ fuel _ a w) (h.2 i hi)⟩
end
section
variable {P : Program} {n : Nat} {w0 : World} {S : List Nat} {Q Q' : Exit → Act → World → Prop} {E : Env} {M : List Ent} {m r : Nat}
theorem JR.growR {Y : Type} {l : List Oper} [Inhabited Y] (g : GrowR Y) (outs : List (Nat × Nat)) (ends : List Nat) {id : Nat} (hd : l.all noDef = true) (hQ : ¬ LetsOut Q) (hm : P.follows .mixedOrders = true) (hE : SubE E g.E0) (hE1 : ∀ i, i < l.length → SubE E (g.E1 i)) (hM : Less (((List.range g.N).filter fun j => decide (l.length ≤ j)).flatMap fun j => g.M j default) M)
    (hok : g.okFrom l 0 l = true) (ho : (outs.all fun p => decide (p.1 < l.length) && dstOf l p.1 == some p.2) = true)
    (he : (noDup ends && ends.all fun j => decide (j < g.N) && (List.range l.length).all fun k => !(g.eat k).contains j) = true)
    (hj : g.Jobs P n w0 S l 0 l)
    (k : ∀ x : Nat → Y, (∀ j k, j < l.length → g.src j = some k → g.R j (x j) (x k)) → JE n w0 S Q .normal (outs.map (fun p => (p.2, g.v p.1 (x p.1))) ++ g.E0) (ends.flatMap fun j => g.M j (x j))) : JR P n w0 S r m Q (.region id l.toArray true) E M :=
  ⟨fun a w ha hw => wpIn_region_any hm (wpAnyIn_of_wpAny (by simpa using hd) hQ _ _ _ _ (growR_any g outs ends hE hE1 hM hok ho he hj k ha hw))⟩
theorem JR.cond {c : Operand} {x y : Code} {t : Bool} (hc : ev E c = some (.bool t)) (ht : t = true → JR P n w0 S r m Q x E M) (hf : t = false → JR P n w0 S r m Q y E M) : JR P n w0 S r m Q (.cond c x y) E M :=
  ⟨fun a w ha hw => wpIn_cond_split (ha.eval hc) (fun h => (ht h).go a w ha hw) (fun h => (hf h).go a w ha hw)⟩
theorem JR.skip (h : JE n w0 S Q .normal E M) : JR P n w0 S r m Q .skip E M := ⟨fun a w ha hw => wpIn_skip (h.go a w ha hw)⟩
theorem JR.ret (h : JE n w0 S Q .ret E M) : JR P n w0 S r m Q .ret E M := ⟨fun a w ha hw => wpIn_ret (h.go a w ha hw)⟩
end
/-- a call of yield with two values -/
theorem FL.yield2 {P : Program} {n : Nat} {W : World} {ops : Array Oper} {Q : Exit → Act → World → Prop} {os : List Oper} {E : Env} {d : Nat} {ty : TypeId} {pos : String} {aft : Array Edge} {v v' : Value} {l : Nat} {x y y' : Operand} {t t' : TypeId} {R : Ending → World → Prop} (hx : ev E x = some (.func (.yield l) #[] #[])) (hy : ev E y = some v) (hy' : ev E y' = some v') (hd : Nat.blt d n = true) (h : YieldAt Fence.wide 1 P l #[v, v'] W R)
    (hR : ∀ e W', R e W' → ∃ b, e = .returned (.bool b) ∧ FL P n 2 W' ops Q os ((d, .bool b) :: E)) : FL P n 2 W ops Q (⟨some d, .call ⟨.value x, #[y, y'], #[t, t']⟩, ty, pos, aft, none⟩ :: os) E :=
  ⟨fun a ha => wpListIn_plain rfl fun K hK => by
    obtain ⟨fn, tmps, assign, body, hrun, hro⟩ := h
    refine ⟨fun _ _ => trivial, ?_⟩
    have e : (Oper.semAt Fence.wide.round a.eval ⟨some d, .call ⟨.value x, #[y, y'], #[t, t']⟩, ty, pos, aft, none⟩).run P W = .ok (.round l fn tmps assign body) W := by
      have e0 : Oper.semAt Fence.wide.round a.eval ⟨some d, .call ⟨.value x, #[y, y'], #[t, t']⟩, ty, pos, aft, none⟩ = execOp a.eval ⟨some d, .call ⟨.value x, #[y, y'], #[t, t']⟩, ty, pos, aft, none⟩ := rfl
      rw [e0]
      simp only [execOp, resolve, Sem.run_bind, ha.eval hx, List.map_toArray, List.map_cons, List.map_nil, ha.eval hy, ha.eval hy', Deferred.ofValue, Sem.run_pure, Result.andThen_ok, invoke]
      simpa using hrun
    rw [e]
    refine ⟨fun h => (by cases h), hro.mono fun e W' hr => ?_⟩
    obtain ⟨b, rfl, hl⟩ := hR e W' hr
    exact hK _ _ (hl.go _ (ha.put d _ hd))⟩
/-! ### behind the loop -/
section
variable {P : Program} {D n : Nat} {w0 : World} {S : List Nat} {ops : Array Oper} {Q Q' : Exit → Act → World → Prop} {os : List Oper} {E : Env} {M : List Ent} {d : Nat} {op : Op} {ty : TypeId} {pos : String} {aft : Array Edge} {v : Value}
end
/-! ### the statement -/
/-- how a round's body is left: at its end, or out of the function -/
def roundX {ι κ : Type} (Mi : ι → List Ent) (Inv : Nat → ι → Prop) (Mx : κ → List Ent) (Fin : κ → Prop) (k : Nat) (w1 : World) (S1 : List Nat) : Exit → Act → World → Prop
  | .normal, _, W' => ∃ j, Inv (k + 1) j ∧ Holds w1 S1 (Mi j) W'
  | .ret, _, W' => ∃ x, Fin x ∧ Holds w1 S1 (Mx x) W'
  | _, _, _ => False
theorem lo_roundX {ι κ : Type} {Mi : ι → List Ent} {Inv : Nat → ι → Prop} {Mx : κ → List Ent} {Fin : κ → Prop} {k : Nat} {w1 : World} {S1 : List Nat} : ¬ LetsOut (roundX Mi Inv Mx Fin k w1 S1) := fun ⟨_, _, h⟩ => h
section
variable {ι κ : Type} {Mi : ι → List Ent} {Inv : Nat → ι → Prop} {Mx : κ → List Ent} {Fin : κ → Prop} {k n : Nat} {w1 : World} {S1 : List Nat} {E : Env} {M : List Ent}
theorem JE.roundN (j : ι) (hj : Inv (k + 1) j) (hM : Less (Mi j) M) : JE n w1 S1 (roundX Mi Inv Mx Fin k w1 S1) .normal E M := ⟨fun _ _ _ hw => ⟨j, hj, hw.weak hM⟩⟩
theorem JE.roundX (x : κ) (hx : Fin x) (hM : Less (Mx x) M) : JE n w1 S1 (roundX Mi Inv Mx Fin k w1 S1) .ret E M := ⟨fun _ _ _ hw => ⟨x, hx, hw.weak hM⟩⟩
end
theorem put_zip (a : Act) (p1 p2 : Nat) (v1 v2 : Value) (hd : a.defers = []) : ({ tmps := (#[p1, p2].zip #[v1, v2]).foldl (fun t (x : Nat × Value) => t.setIfInBounds x.1 x.2) a.tmps, defers := [] } : Act) = (a.put (some p1) v1).put (some p2) v2 := by
  obtain ⟨tm, df⟩ := a
  simp only at hd
  subst hd
  simp [Act.put]
theorem Holds.mark {w0 W : World} {M : List Ent} {D : Nat} (h : Holds w0 [] M W) (hc : ∀ e ∈ M, ∀ o, e.A o → o.isCells = true) (hD : w0.heap.size ≤ D) (hk : W.heap[D]? = some (.deferred (some []))) : Holds w0 [] (⟨D, Dead, true⟩ :: M) W := by
  refine ⟨h.chg, ?_, fun e he => ?_⟩
  · simp only [List.map_cons, List.nodup_cons, h.nodup, and_true]
    intro hm
    obtain ⟨e, he, hb⟩ := List.mem_map.1 hm
    obtain ⟨o, ho, hA⟩ := (h.all e he).1
    rw [hb, hk] at ho
    cases ho
    have := hc e he _ hA
    cases this
  · rcases List.mem_cons.1 he with rfl | he
    · exact ⟨⟨_, hk, rfl⟩, fun _ => .inr hD⟩
    · exact h.all e he
end Sl
end Go.Proofs.Ytjkncnbpaejamaa

/-
  Of no statement by itself: a range over a function of two values whose rounds write what the iterator reads: the invariant tells what it reads; and whose assignments may make memory; for any program P.
  Conditions: each rule's own hypotheses.
-/
namespace Go.Proofs.Ytjkncnbpaejamaa
set_option maxRecDepth 10000
open Go.RowKit
namespace Sl
theorem Holds.unbaseS {w0 w w' : World} {S : List Nat} {M M' : List Ent} (h : Holds w0 S M w) (h' : Holds w (wrs M) M' w') : Holds w0 S M' w' := by
  have hs : ∀ k ∈ wrs M, k ∈ S ∨ w0.heap.size ≤ k := fun k hk => by
    obtain ⟨e, he, hw, rfl⟩ := mem_wrs.1 hk
    exact (h.all e he).2 hw
  refine ⟨⟨h'.chg.os.trans h.chg.os, h'.chg.tape.trans h.chg.tape, h'.chg.output.trans h.chg.output, Nat.le_trans h.chg.size h'.chg.size, fun k hk hS => ?_⟩, h'.nodup, fun e he => ⟨(h'.all e he).1, fun hw => ?_⟩⟩
  · refine (h'.chg.block k (Nat.lt_of_lt_of_le hk h.chg.size) fun hm => ?_).trans (h.chg.block k hk hS)
    rcases hs k hm with h | h
    · exact hS h
    · omega
  · rcases (h'.all e he).2 hw with hk | hk
    · exact hs _ hk
    · exact .inr (Nat.le_trans h.chg.size hk)
theorem Holds.stillS {w0 W W' : World} {S : List Nat} {M : List Ent} {row : Option Nat} (h : Holds w0 S M W) (hc : ∀ e ∈ M, ∀ o, e.A o → o.isCells = true) (hg : W.grownBy W' row) (hr : ∀ k, row = some k → w0.heap.size ≤ k ∧ ∃ o : Obj, W.heap[k]? = some o ∧ o.isCells = false) : Holds w0 S M W' := by
  refine ⟨⟨hg.os.trans h.chg.os, hg.tape.trans h.chg.tape, hg.output.trans h.chg.output, Nat.le_trans h.chg.size hg.size, fun k hk hS => ?_⟩, h.nodup, fun e he => ⟨?_, (h.all e he).2⟩⟩
  · exact (hg.block k (Nat.lt_of_lt_of_le hk h.chg.size) (fun e => by have := (hr k e.symm).1; omega)).trans (h.chg.block k hk hS)
  · obtain ⟨o, ho, hA⟩ := (h.all e he).1
    refine ⟨o, (hg.block e.b (h.lt he) fun e' => ?_).trans ho, hA⟩
    obtain ⟨_, o2, ho2, hn⟩ := hr _ e'.symm
    rw [ho] at ho2
    cases ho2
    rw [hc e he o hA] at hn
    cases hn
theorem Holds.markS {w0 W : World} {S : List Nat} {M : List Ent} {D : Nat} (h : Holds w0 S M W) (hc : ∀ e ∈ M, ∀ o, e.A o → o.isCells = true) (hD : w0.heap.size ≤ D) (hk : W.heap[D]? = some (.deferred (some []))) : Holds w0 S (⟨D, Dead, true⟩ :: M) W := by
  refine ⟨h.chg, ?_, fun e he => ?_⟩
  · simp only [List.map_cons, List.nodup_cons, h.nodup, and_true]
    intro hm
    obtain ⟨e, he, hb⟩ := List.mem_map.1 hm
    obtain ⟨o, ho, hA⟩ := (h.all e he).1
    rw [hb, hk] at ho
    cases ho
    have := hc e he _ hA
    cases this
  · rcases List.mem_cons.1 he with rfl | he
    · exact ⟨⟨_, hk, rfl⟩, fun _ => .inr hD⟩
    · exact h.all e he
/-- the iterator, over what Rc tells that it reads in round k -/
def SeqB (P : Program) (gf : Nat) (lb : Array Value) (enc : Nat → Value × Value) (Rc : Nat → World → Prop) (N : Nat) : Prop :=
  ∀ (l : Nat) (J : Nat → World → Prop) (X : World → Prop) (W : World), (∀ k W1, J k W1 → Rc k W1) → (∀ k W1 W2, J k W1 → Ext W1 W2 → J k W2) →
    (∀ k W1, k < N → J k W1 → YieldAt Fence.wide 1 P l #[(enc k).1, (enc k).2] W1 fun e W' => (e = .returned (.bool true) ∧ J (k + 1) W') ∨ (e = .returned (.bool false) ∧ X W')) →
    J 0 W → CallsIn Fence.wide 2 P gf (#[.func (.yield l) #[] #[]] ++ lb) W fun e W' => (∃ v, e = .returned v) ∧ (J N W' ∨ X W')
def asgQ {ι : Type} (n : Nat) (I : ι → Prop) (Ei : ι → Env) (Mi : ι → List Ent) (w1 : World) (S1 : List Nat) : Exit → Act → World → Prop
  | .normal, a, W' => ∃ i, I i ∧ Knows n (Ei i) a ∧ Holds w1 S1 (Mi i) W'
  | _, _, _ => False
theorem lo_asgQ {ι : Type} {n : Nat} {I : ι → Prop} {Ei : ι → Env} {Mi : ι → List Ent} {w1 : World} {S1 : List Nat} : ¬ LetsOut (asgQ n I Ei Mi w1 S1) := fun ⟨_, _, h⟩ => h
theorem JE.asg {ι : Type} {n : Nat} {I : ι → Prop} {Ei : ι → Env} {Mi : ι → List Ent} {w1 : World} {S1 : List Nat} {E : Env} {M : List Ent} (i : ι) (hi : I i) (hE : SubE E (Ei i)) (hM : Less (Mi i) M) : JE n w1 S1 (asgQ n I Ei Mi w1 S1) .normal E M := ⟨fun _ _ ha hw => ⟨i, hi, ha.sub hE, hw.weak hM⟩⟩
theorem JC.rangeW {P : Program} {n : Nat} {w0 : World} {S : List Nat} {Q : Exit → Act → World → Prop} {E : Env} {M : List Ent} {ι κ τ : Type} {g : Operand} {p1 p2 : Nat} {asg body : Code} {gf : Nat} {lb : Array Value} (enc : Nat → Value × Value) (Rc : Nat → World → Prop) (N : Nat)
    (Mi : ι → List Ent) (Inv : Nat → ι → Prop) (Mt : τ → List Ent) (Et : Nat → τ → Env) (Mid : Nat → τ → Prop) (Mx : κ → List Ent) (Fin : κ → Prop) (hg : ev E g = some (.func (.func gf) #[] lb)) (eg : ∀ args w, (callFunc gf args).run P w = .ok (.enter gf args) w)
    (hseq : SeqB P gf lb enc Rc N) (hRc : ∀ k i W, Inv k i → Holds w0 S (Mi i) W → Rc k W)
    (hcell : ∀ i, ∀ e ∈ Mi i, ∀ o, e.A o → o.isCells = true) (hcelt : ∀ i, ∀ e ∈ Mt i, ∀ o, e.A o → o.isCells = true) (hcelx : ∀ i, ∀ e ∈ Mx i, ∀ o, e.A o → o.isCells = true)
    (i0 : ι) (h0 : Inv 0 i0) (hM : ∀ w, Holds w0 S M w → Holds w0 S (Mi i0) w) (hp1 : Nat.blt p1 n = true) (hp2 : Nat.blt p2 n = true)
    (hasg : ∀ l k i w1, Inv k i → k < N → Holds w0 S (Mi i) w1 → JR P n w1 (wrs (Mi i)) l 1 (asgQ n (Mid k) (Et k) Mt w1 (wrs (Mi i))) asg ((p2, (enc k).2) :: (p1, (enc k).1) :: E) (Mi i))
    (hbody : ∀ l k t w1, Mid k t → k < N → Holds w0 S (Mt t) w1 → JR P n w1 (wrs (Mt t)) l 1 (roundX Mi Inv Mx Fin k w1 (wrs (Mt t))) body (Et k t) (Mt t))
    (hdone : ∀ D i, Inv N i → KE D n w0 S Q .normal E (⟨D, Dead, true⟩ :: Mi i))
    (hstop : ∀ D x, Fin x → KE D n w0 S Q .ret E (⟨D, Dead, true⟩ :: Mx x)) :
    JC P n w0 S Q (.rangeFunc g #[p1, p2] asg body) E M := by
  refine ⟨fun a w ha hw => (wpIn_wide (n := 3)).1 (wpIn_rangeFunc fun fn hfn => ?_)⟩
  let R : LoopState → Option Code → Loop := fun st pe => { state := st, pending := pe, fn := fn, tmps := a.tmps, params := #[p1, p2], assign := asg, body := body, defers := w.heap.size }
  have hsw0 : w0.heap.size ≤ w.heap.size := hw.chg.size
  have gw : Holds w0 S (Mi i0) w := hM w hw
  have a1 : Holds w0 S (Mi i0) (w.alloc (.deferred (some []))) := gw.stillS (hcell i0) (World.grownBy_alloc w _ none) nofun
  have a2 : Holds w0 S (Mi i0) ((w.alloc (.deferred (some []))).alloc (.loop (R .ready none))) := a1.stillS (hcell i0) (World.grownBy_alloc _ _ none) nofun
  have hLp : ((w.alloc (.deferred (some []))).alloc (.loop (R .ready none))).heap[w.heap.size + 1]? = some (.loop (R .ready none)) := by
    have := World.alloc_heap_new (w.alloc (.deferred (some []))) (.loop (R .ready none))
    rwa [World.size_alloc] at this
  have hDp : ((w.alloc (.deferred (some []))).alloc (.loop (R .ready none))).heap[w.heap.size]? = some (.deferred (some [])) :=
    (RowKit.Below.heap_alloc _ _ _ (by simp)).trans (World.alloc_heap_new w _)
  obtain ⟨W1, hW1⟩ : ∃ W1, (w.alloc (.deferred (some []))).alloc (.loop (R .ready none)) = W1 := ⟨_, rfl⟩
  rw [hW1] at a2 hLp hDp
  have notin : ∀ {X : List Ent} {W : World} {b : Nat} {o : Obj}, (∀ e ∈ X, ∀ o, e.A o → o.isCells = true) → Holds w0 S X W → W.heap[b]? = some o → o.isCells = false → b ∉ wrs X := fun {X W b o} hX hH hb ho hm => by
    obtain ⟨e, he, _, rfl⟩ := mem_wrs.1 hm
    obtain ⟨o', ho', hA⟩ := (hH.all e he).1
    rw [hb] at ho'
    cases ho'
    rw [hX e he _ hA] at ho
    cases ho
  refine ⟨w.heap.size + 1, [Sl.mk w.heap.size], W1, { target := .fn (.func gf) lb, args := #[.func (.yield (w.heap.size + 1)) #[] #[]] }, W1, gf, #[.func (.yield (w.heap.size + 1)) #[] #[]] ++ lb, W1, ?_, ?_, fun _ _ => trivial, ?_, (fun h => by cases h), ?_⟩
  · rw [← hW1]
    exact run_enterLoop_outer _ _ _ _ _
  · simp only [resolve, ha.eval hg]
    simp [go_sem]
  · simp [invoke, go_sem, eg]
  refine (hseq (w.heap.size + 1) (fun k W => (∃ i, Inv k i ∧ Holds w0 S (Mi i) W) ∧ W.heap[w.heap.size + 1]? = some (.loop (R .ready none)) ∧ W.heap[w.heap.size]? = some (.deferred (some [])))
    (fun W => (∃ x, Fin x ∧ Holds w0 S (Mx x) W) ∧ W.heap[w.heap.size + 1]? = some (.loop (R .done (some .ret))) ∧ W.heap[w.heap.size]? = some (.deferred (some []))) W1 ?_ ?_ ?_ ⟨⟨i0, h0, a2⟩, hLp, hDp⟩).mono ?_
  · rintro k W ⟨⟨i, hi, hH⟩, _⟩
    exact hRc k i W hi hH
  · rintro k Wa Wb ⟨⟨i, hi, hH⟩, hl, hd⟩ hx
    exact ⟨⟨i, hi, hH.ext hx⟩, (hx.block _ (Array.getElem?_eq_some_iff.1 hl).1 (by simp)).trans hl, (hx.block _ (Array.getElem?_eq_some_iff.1 hd).1 (by simp)).trans hd⟩
  · -- one round
    rintro k W hk ⟨⟨i, hi, hH⟩, hl, hd⟩
    refine ⟨fn, _, asg, body, run_yield (P := P) (args := #[(enc k).1, (enc k).2]) hl rfl, roundIn_of_wpIn hfn ?_⟩
    show Code.wpIn (Rd (w.heap.size + 1)) 1 P _ _ ({ tmps := (#[p1, p2].zip #[(enc k).1, (enc k).2]).foldl (fun t (x : Nat × Value) => t.setIfInBounds x.1 x.2) a.tmps, defers := [] } : Act) W
    rw [put_zip a p1 p2 _ _ ha.defers]
    have k2 := (ha.put p1 (enc k).1 hp1).put p2 (enc k).2 hp2
    have nl0 := notin (hcell i) hH hl rfl
    have nd0 := notin (hcell i) hH hd rfl
    refine wpIn_mono ((hasg (w.heap.size + 1) k i W hi hk hH).go _ W k2 hH.rebase) ?_
    rintro e a1 Wa hq
    cases e with
    | exit id => exact hq.elim
    | goto t => exact hq.elim
    | panic ch => exact hq.elim
    | outgrown => exact hq.elim
    | ret => exact hq.elim
    | normal =>
    obtain ⟨t, ht, k3, hHa⟩ := hq
    have hH' : Holds w0 S (Mt t) Wa := hH.unbaseS hHa
    have hl' : Wa.heap[w.heap.size + 1]? = some (.loop (R .ready none)) := (hHa.chg.block _ (Array.getElem?_eq_some_iff.1 hl).1 nl0).trans hl
    have hd' : Wa.heap[w.heap.size]? = some (.deferred (some [])) := (hHa.chg.block _ (Array.getElem?_eq_some_iff.1 hd).1 nd0).trans hd
    refine ⟨_, run_beginRound hl' rfl, ?_⟩
    have hlt : w.heap.size + 1 < Wa.heap.size := (Array.getElem?_eq_some_iff.1 hl').1
    obtain ⟨W2, hW2⟩ : ∃ W2, Wa.putObj (w.heap.size + 1) (.loop { R .ready none with state := .busy }) = W2 := ⟨_, rfl⟩
    have hH2 : Holds w0 S (Mt t) W2 := hW2 ▸ hH'.stillS (hcelt t) (grownBy_putObj' Wa _ _) (fun r e => by cases e; exact ⟨by omega, _, hl', rfl⟩)
    have hl2 : W2.heap[w.heap.size + 1]? = some (.loop (R .busy none)) := hW2 ▸ World.putObj_heap_same hlt
    have hd2' : W2.heap[w.heap.size]? = some (.deferred (some [])) := by rw [← hW2]; exact (World.putObj_heap_other (by omega)).trans hd'
    rw [hW2]
    refine wpIn_mono ((hbody (w.heap.size + 1) k t W2 ht hk hH2).go _ W2 k3 hH2.rebase) ?_
    have nl := notin (hcelt t) hH2 hl2 rfl
    have nd := notin (hcelt t) hH2 hd2' rfl
    have hs2 : w.heap.size + 1 < W2.heap.size := (Array.getElem?_eq_some_iff.1 hl2).1
    -- what is kept from the round's beginning on
    have kept : ∀ {Mj : List Ent} {W3 : World}, Holds W2 (wrs (Mt t)) Mj W3 → W3.heap[w.heap.size + 1]? = some (.loop (R .busy none)) ∧ W3.heap[w.heap.size]? = some (.deferred (some [])) := fun {Mj W3} h3 =>
      ⟨(h3.chg.block _ hs2 nl).trans hl2, (h3.chg.block _ (by omega) nd).trans hd2'⟩
    rintro e a3 W3 hq
    cases e with
    | normal =>
      obtain ⟨j, hj, h3⟩ := hq
      obtain ⟨hl3, hd3⟩ := kept h3
      have hu := hH2.unbaseS h3
      exact ⟨_, _, run_endRound (P := P) none hl3, .inl ⟨rfl, ⟨⟨j, hj, hu.stillS (hcell j) (grownBy_putObj' W3 _ _) (fun r e => by cases e; exact ⟨by omega, _, hl3, rfl⟩)⟩, World.putObj_heap_same (Array.getElem?_eq_some_iff.1 hl3).1, (World.putObj_heap_other (by omega)).trans hd3⟩⟩⟩
    | ret =>
      obtain ⟨x, hx, h3⟩ := hq
      obtain ⟨hl3, hd3⟩ := kept h3
      have hu := hH2.unbaseS h3
      exact ⟨_, _, run_endRound (P := P) (some .ret) hl3, .inr ⟨rfl, ⟨x, hx, hu.stillS (hcelx x) (grownBy_putObj' W3 _ _) (fun r e => by cases e; exact ⟨by omega, _, hl3, rfl⟩)⟩, World.putObj_heap_same (Array.getElem?_eq_some_iff.1 hl3).1, (World.putObj_heap_other (by omega)).trans hd3⟩⟩
    | exit id => exact hq.elim
    | goto t => exact hq.elim
    | panic ch => exact hq.elim
    | outgrown => exact hq.elim
  · -- behind the iterator
    have know : KnowsM w.heap.size n E { a with defers := [Sl.mk w.heap.size] ++ a.defers } := ⟨by show _ ++ a.defers = _; rw [ha.defers]; rfl, ⟨ha.size, rfl, ha.all⟩⟩
    rintro e W2 ⟨⟨v, rfl⟩, (⟨⟨i, hi, hH⟩, hl, hd⟩ | ⟨⟨x, hx, hH⟩, hl, hd⟩)⟩
    · have h4 := hH.stillS (hcell i) (grownBy_putObj' W2 (w.heap.size + 1) (.loop { R .ready none with state := .exhausted })) (fun r e => by cases e; exact ⟨by omega, _, hl, rfl⟩)
      exact ⟨none, _, run_endLoop hl (by simp [R]), (hdone w.heap.size i hi).go _ _ know (h4.markS (hcell i) hsw0 ((World.putObj_heap_other (by omega)).trans hd))⟩
    · have h4 := hH.stillS (hcelx x) (grownBy_putObj' W2 (w.heap.size + 1) (.loop { R .done (some .ret) with state := .exhausted })) (fun r e => by cases e; exact ⟨by omega, _, hl, rfl⟩)
      exact ⟨some .ret, _, run_endLoop hl (by simp [R]), wpIn_ret ((hstop w.heap.size x hx).go _ _ know (h4.markS (hcelx x) hsw0 ((World.putObj_heap_other (by omega)).trans hd)))⟩
end Sl
end Go.Proofs.Ytjkncnbpaejamaa

/-
  Of no statement by itself: slices.Backward over what is pending, the landed disk's undo.
  Conditions: each theorem's own.
-/
namespace Go.Proofs.Ytjkncnbpaejamaa
set_option maxRecDepth 10000
open Sl Dsk
theorem pdC : scal Try.prog 25 = true := by kernel_rfl
theorem wc_tail (w : Nat × Bk) : ((wc w).drop 1).take (bc w.2).length = bc w.2 := by simp [wc]
section
variable {P : Program} {n : Nat} {E : Env} {dst : Option Tmp} {t ty : TypeId} {pos : String} {aft : Array Edge} {g : Option (Nat × Bool)} {x : Operand} {b j : Nat} {v : Value} {W : World} {cs : List Value}
theorem load_w (hs : scal P t = true) (hx : ev E x = some (.pointer (some ⟨b, j, none⟩))) (hc : W.cell? ⟨b, j, none⟩ = some v) : OQ P n E (fun w => w = W) ⟨dst, .load t x, ty, pos, aft, g⟩ v := OQ.load_at (fun _ hw => hw ▸ loadVar_scal hs hc) hx
theorem load_wA {sz : Nat} (ha : aggT P t = true) (hz : szT P t = some sz) (hl : cs.length = sz) (hx : ev E x = some (.pointer (some ⟨b, j, none⟩))) (hc : ∀ i u, cs[i]? = some u → W.cell? ⟨b, j + i, none⟩ = some u) : OQ P n E (fun w => w = W) ⟨dst, .load t x, ty, pos, aft, g⟩ (.agg cs.toArray) := OQ.load_at (fun _ hw => hw ▸ loadVar_agg ha (hl ▸ hz) hc) hx
end
def backF (b : Nat) : Value := .func (.func 68) #[] #[Pt b 0]
theorem goes_back : Goes Try.prog 55 := ⟨_, Try.func55, rfl, by kernel_rfl⟩
theorem back_any (v : Value) (hv : v.cells = #[v]) (w : World) : Calls Try.prog 55 [v].toArray w fun e w' => ∃ b : Nat, e = .returned (backF b) ∧ Holds w [] [⟨b, Row 61 [v], true⟩] w' := by
  refine enter (n := 4) Try.func55 rfl rfl rfl (Holds.start w []) ?_
  refine JC.seq (JC.region (JL.box (r := [v]) rfl (by rw [hv]) rfl fun b _ => ?_))
  repeat (first | refine JL.q (by first | (apply OQ.mkF (caps := [Pt b 0]); exact rfl) | (apply OQ.assign; exact rfl)) rfl ?_ | refine JC.seq ?_ | refine JC.region ?_ | refine JL.nil ?_ | refine JE.next ?_)
  exact JC.ret (JE.ret1 rfl (RV.tmp rfl) fun w' hw => ⟨b, rfl, hw⟩)
def iv (m : Nat) : Nat → Int
  | 0 => (m : Int) - 1
  | k + 1 => iv m k - 1
theorem iv_eq (m : Nat) : ∀ k, iv m k = (m : Int) - 1 - k
  | 0 => by simp [iv]
  | k + 1 => by rw [iv, iv_eq m k]; omega
set_option maxHeartbeats 4000000 in
theorem back_seq (b1 : Nat) (a : Acc) (m : Nat) (hm : m ≤ 1000000) (ha : a = none → m = 0) (f : Nat → Nat × Bk) (hf : ∀ k, k < m → (f k).2.length = 64) :
    SeqB Try.prog 68 #[Pt b1 0] (fun k => (N (m - 1 - k), .agg (wc (f k)).toArray))
      (fun k W => W.cell? ⟨b1, 0, none⟩ = some (accV a m) ∧ (k < m → ∀ r, a = some r → ∀ i u, (wc (f k))[i]? = some u → W.cell? ⟨r.1, 0 + (m - 1 - k) * 65 + i, none⟩ = some u)) m := by
  intro l J X W hR hJ hY h0
  refine callsIn_wide.2 ?_
  refine enterF (n := 19) (vs := [.func (.yield l) #[] #[], Pt b1 0]) Try.func68 rfl rfl rfl ?_
  repeat (first | refine FL.q (by first | (apply load_w; exact wsC; exact rfl; exact (hR 0 W h0).1) | (apply OQ.lenV; exact Try.underlying61; exact ha; exact rfl) | (apply OQ.subI (a := m) (b := 1); exact rfl; exact rfl; exact (by omega); exact (by omega)) | (apply OQ.assign; exact rfl)) rfl rfl ?_ | refine FC.seq ?_ | refine FC.region ?_ | refine FC.block ?_ | refine FL.nil ?_ | refine FE.next ?_)
  refine FC.loop (fun k : Nat => [(0, .func (.yield l) #[] #[]), (1, Pt b1 0), (3, .int .i64 (iv m k))]) (fun k w => k ≤ m ∧ J k w) (fun k => m - k) 0 ⟨Nat.zero_le _, h0⟩ (by repeat (first | exact SubE.nil | refine SubE.cons _ _ _ rfl ?_)) ?_
  rintro k w ⟨hk, hJk⟩
  obtain ⟨g1, g2⟩ := hR k w hJk
  have e := iv_eq m k
  by_cases hkm : k < m
  · have e2 : iv m k = ((m - 1 - k : Nat) : Int) := by omega
    have h1 : decide ((0 : Int) ≤ ((m - 1 - k : Nat) : Int)) = true := decide_eq_true (by omega)
    have e3 : iv m (k + 1) = ((m - 1 - k : Nat) : Int) - 1 := by rw [← e2]; rfl
    cases a with
    | none => exact absurd (ha rfl) (by omega)
    | some r =>
    have g2 := g2 hkm r rfl
    have hl : (wc (f k)).length = 65 := by rw [wc, List.length_cons, bc_len (hf k hkm)]
    have hYk := hY k w hkm hJk
    rw [e2]
    repeat (first | refine FL.q (by first | (apply OQ.geqB (b := 0); exact rfl; exact rfl; exact h1) | (apply OQ.move; exact rfl)) rfl rfl ?_ | refine FC.seq ?_ | refine FC.region ?_ | refine FL.nil ?_ | refine FE.next ?_)
    refine FC.cond rfl (fun _ => ?_) (fun h => by cases h)
    repeat (first | refine FL.q (by first | (apply load_w; exact wsC; exact rfl; exact g1) | (apply OQ.idxS (i := m - 1 - k); exact Try.underlying61; exact dwB; exact rfl; exact rfl; exact (by omega)) | (apply load_wA; exact dwAg; exact dwB; exact hl; exact rfl; exact g2) | (apply OQ.move; exact rfl)) rfl rfl ?_ | refine FC.seq ?_ | refine FC.region ?_ | refine FC.block ?_ | refine FC.skip ?_ | refine FE.next ?_)
    refine FL.yield2 (v := N (m - 1 - k)) (v' := .agg (wc (f k)).toArray) rfl rfl rfl rfl hYk ?_
    rintro ee W' (⟨rfl, hJ'⟩ | ⟨rfl, hX'⟩)
    · refine ⟨true, rfl, ?_⟩
      repeat (first | refine FL.q (by (apply OQ.not; exact rfl)) rfl rfl ?_ | refine FL.nil ?_ | refine FE.next ?_)
      refine FC.cond rfl (fun h => by cases h) (fun _ => ?_)
      repeat (first | refine FL.q (by first | (apply OQ.subI (a := ((m - 1 - k : Nat) : Int)) (b := 1); exact rfl; exact rfl; exact (by omega); exact (by omega)) | (apply OQ.move; exact rfl) | (apply OQ.assign; exact rfl)) rfl rfl ?_ | refine FC.region ?_ | refine FC.skip ?_ | refine FL.nil ?_ | refine FE.next ?_ | refine FE.blk_normal ?_)
      rw [← e3]
      exact FE.again (i := k) (k + 1) ⟨hkm, hJ'⟩ (by omega) (by repeat (first | exact SubE.nil | refine SubE.cons _ _ _ rfl ?_))
    · refine ⟨false, rfl, ?_⟩
      repeat (first | refine FL.q (by (apply OQ.not; exact rfl)) rfl rfl ?_ | refine FL.nil ?_ | refine FE.next ?_)
      refine FC.cond rfl (fun _ => ?_) (fun h => by cases h)
      refine FC.ret ?_
      repeat (first | refine FE.then_ret ?_ | refine FE.blk_ret ?_)
      exact FE.ret0 rfl ⟨⟨_, rfl⟩, .inr hX'⟩
  · have h1 : decide ((0 : Int) ≤ iv m k) = false := decide_eq_false (by omega)
    obtain rfl : k = m := by omega
    repeat (first | refine FL.q (by first | (apply OQ.geqB (b := 0); exact rfl; exact rfl; exact h1) | (apply OQ.move; exact rfl)) rfl rfl ?_ | refine FC.seq ?_ | refine FC.region ?_ | refine FL.nil ?_ | refine FE.next ?_)
    refine FC.cond rfl (fun h => by cases h) (fun _ => ?_)
    repeat (first | refine FC.exit ?_ | refine FE.then_exit ?_ | refine FE.blk_hit ?_)
    exact FE.end0 rfl ⟨⟨_, rfl⟩, .inl hJk⟩
def undoM (x : Dp) (b14 b3 b1 : Nat) (s : List Bk × List (Nat × Bk)) : List Ent :=
  ⟨x.p, Row 63 [.slice (some ⟨x.q, 0, none⟩) s.1.length x.cap, .slice none 0 0], true⟩ :: ⟨x.q, Sl.Own 51 64 s.1.length x.cap (bcs s.1).flatten, true⟩ :: (accC 88 65 x.a (wcs s.2) ++ [⟨b14, Row 61 [accV x.a s.2.length], true⟩, ⟨b3, Row 61 [accV x.a s.2.length], true⟩, ⟨b1, Row 25 [Pt x.p 0], true⟩])
theorem cells_rowD {e : TypeId} {l : List Value} : ∀ o, Row e l o → o.isCells = true := by rintro o rfl; rfl
theorem cells_ownD {e : TypeId} {k sz cap : Nat} {l : List Value} : ∀ o, Sl.Own e sz k cap l o → o.isCells = true := by rintro o ⟨_, rfl, _⟩; rfl
theorem cells_accC {e : TypeId} {sz : Nat} {q : Acc} {L : List (List Value)} : ∀ x ∈ accC e sz q L, ∀ o, x.A o → o.isCells = true := by
  cases q with
  | none => nofun
  | some p => intro x hx; rw [List.mem_singleton.1 hx]; exact cells_ownD
theorem cells_undo (x : Dp) (b14 b3 b1 : Nat) (s : List Bk × List (Nat × Bk)) : ∀ e ∈ undoM x b14 b3 b1 s, ∀ o, e.A o → o.isCells = true := by
  intro e he
  rcases List.mem_cons.1 he with rfl | he
  · exact cells_rowD
  rcases List.mem_cons.1 he with rfl | he
  · exact cells_ownD
  rcases List.mem_append.1 he with he | he
  · exact cells_accC e he
  · simp only [List.mem_cons, List.not_mem_nil, or_false] at he
    rcases he with rfl | rfl | rfl <;> exact cells_rowD
theorem goes_undo : Goes Try.prog 40 := ⟨_, Try.func40, rfl, by kernel_rfl⟩
theorem accV_dsk (q : Acc) (k : Nat) : (accV q k).cells = #[accV q k] ∧ (accV q k).oneCell' = true := by cases q <;> exact ⟨rfl, rfl⟩
theorem callFn (f : FuncId) (args : Array Value) (w : World) (h : Goes Try.prog f) : (callFunc f args).run Try.prog w = .ok (.enter f args) w := by
  obtain ⟨fn, h1, h2, h3⟩ := h
  have h2' : ¬ fn.body = none := fun h => by rw [h] at h2; cases h2
  have h3' : ¬ fn.name = "runtime.NumGoroutine" := by simpa using h3
  simp [callFunc, program, Sem.run_bind, Sem.run, h1, h2', h3']
theorem goes_back1 : Goes Try.prog 68 := ⟨_, Try.func68, rfl, by kernel_rfl⟩
/-- the disk's blocks and struct, nothing pending; and the writes that were -/
def undoE (x : Dp) (s : List Bk × List (Nat × Bk)) : List Ent :=
  ⟨x.p, Row 63 [.slice (some ⟨x.q, 0, none⟩) s.1.length x.cap, .slice none 0 0], true⟩ :: ⟨x.q, Sl.Own 51 64 s.1.length x.cap (bcs s.1).flatten, true⟩ :: accC 88 65 x.a (wcs s.2)
set_option maxHeartbeats 16000000 in
theorem undo_any (x : Dp) (bl : List Bk) (pd : List (Nat × Bk)) (h : DkOk x bl pd) (w : World) (hw : Holds w (keys (dkE x bl pd)) (dkE x bl pd) w) :
    Calls Try.prog 40 [Pt x.p 0].toArray w fun e w' => e = .returned (accV x.a pd.length) ∧ Holds w (keys (dkE x bl pd)) (undoE x (undo bl pd)) w' := by
  generalize hS : keys (dkE x bl pd) = S at hw ⊢
  have hm := h.m
  refine enterM (n := 39) Try.func40 rfl rfl rfl hw ?_
  repeat (first | refine JC.seq ?_ | refine JC.region ?_)
  refine JL.box (r := [Pt x.p 0]) rfl rfl rfl fun b1 _ => ?_
  repeat (first | refine JL.q (by first | (apply OQ.load; exact pdC; exact rfl; exact .here; exact (Row.cell (v := Pt x.p 0) rfl)) | (apply OQ.load; exact wsC; exact rfl; exact (.there .here); exact (Row.cell (v := accV x.a pd.length) rfl)) | (apply OQ.assign; exact rfl) | (apply OQ.nilc; exact rfl) | (apply OQ.fld; exact rfl; exact rfl; exact rfl; exact (by decide); exact rfl)) rfl ?_ | refine JC.seq ?_ | refine JC.region ?_ | refine JL.nil ?_ | refine JE.next ?_)
  refine JL.alloc (r := [.slice none 0 0]) (by kernel_rfl) rfl fun b3 _ => ?_
  refine JL.store_eq (b := b3) (r := [.slice none 0 0]) (r' := [accV x.a pd.length]) ws1 rfl rfl (accV_dsk _ _).2 (accV_dsk _ _).1 .here (show 0 < 1 by decide) rfl ?_
  repeat (first | refine JL.q (by first | (apply OQ.load; exact pdC; exact rfl; exact (.there .here); exact (Row.cell (v := Pt x.p 0) rfl)) | (apply OQ.nilc; exact rfl) | (apply OQ.fld; exact rfl; exact rfl; exact rfl; exact (by decide); exact rfl)) rfl ?_ | refine JC.seq ?_ | refine JC.region ?_ | refine JL.nil ?_ | refine JE.next ?_)
  refine JL.store_eq (b := x.p) (r := dkRow x bl pd) (r' := [.slice (some ⟨x.q, 0, none⟩) bl.length x.cap, .slice none 0 0]) ws1 rfl rfl rfl rfl (.there (.there .here)) (show 1 < 2 by decide) rfl ?_
  repeat (first | refine JL.q (by (apply OQ.load; exact wsC; exact rfl; exact .here; exact (Row.cell (v := accV x.a pd.length) rfl))) rfl ?_ | refine JC.seq ?_ | refine JC.region ?_ | refine JL.nil ?_ | refine JE.next ?_)
  refine JL.callg (ι := Nat) (vs := [accV x.a pd.length]) (fun b => backF b) (fun b => [⟨b, Row 61 [accV x.a pd.length], true⟩]) goes_back rfl rfl (fun b e he => by rw [List.mem_singleton.1 he]) (fun w' _ => back_any _ (accV_dsk _ _).1 w') fun b14 => ?_
  repeat (first | refine JC.block ?_ | refine JL.nil ?_ | refine JE.next ?_)
  have eM0 : undoM x b14 b3 b1 (undoN bl pd 0) = undoM x b14 b3 b1 (bl, pd) := by rw [undoN_zero]
  refine JC.rangeW (ι := Nat) (τ := Nat × Nat) (κ := Empty) (S := S) (gf := 68) (lb := #[Pt b14 0]) (fun k => (N (pd.length - 1 - k), .agg (wc (nth (undoN bl pd k).2 (pd.length - 1 - k))).toArray))
    (fun k W => W.cell? ⟨b14, 0, none⟩ = some (accV x.a pd.length) ∧ (k < pd.length → ∀ r, x.a = some r → ∀ i u, (wc (nth (undoN bl pd k).2 (pd.length - 1 - k)))[i]? = some u → W.cell? ⟨r.1, 0 + (pd.length - 1 - k) * 65 + i, none⟩ = some u)) pd.length
    (fun k => undoM x b14 b3 b1 (undoN bl pd k)) (fun k i => i = k ∧ k ≤ pd.length) (fun t => ⟨t.2, Row 88 (wc (nth (undoN bl pd t.1).2 (pd.length - 1 - t.1))), true⟩ :: undoM x b14 b3 b1 (undoN bl pd t.1)) (fun k t => [(1, Pt b1 0), (3, Pt b3 0), (4, N (pd.length - 1 - k)), (5, Pt t.2 0)]) (fun k t => t.1 = k) (fun e => e.elim) (fun _ => False)
    rfl (fun args w => callFn _ _ _ goes_back1) (back_seq b14 x.a pd.length h.m (fun e => by rw [h.a e]; rfl) _ fun k hk => ?_) ?_ (fun i => cells_undo x b14 b3 b1 _) ?_ nofun 0 ⟨rfl, Nat.zero_le _⟩ ?_ rfl rfl ?_ ?_ ?_ nofun
  · exact ((h.ok.undoN k (by omega)).p _ (nth_mem (by rw [(undoN_len bl pd k (by omega)).2]; omega))).2
  · rintro k i W ⟨rfl, hk⟩ hH
    have hl2 := (undoN_len bl pd i hk).2
    have okk := h.ok.undoN i hk
    refine ⟨?_, fun hkm r hr j u hu => ?_⟩
    · obtain ⟨o, ho, hA⟩ := hH.get (b := b14) (A := Row 61 [accV x.a (undoN bl pd i).2.length]) (wr := true) (.there (.there (hasR .here)))
      rw [← hl2]
      exact cell_of ho (Row.cell rfl _ hA)
    · obtain ⟨o, ho, hA⟩ := hH.get (b := r.1) (A := Sl.Own 88 65 (wcs (undoN bl pd i).2).length r.2 (wcs (undoN bl pd i).2).flatten) (wr := true) (by unfold undoM; rw [hr]; exact .there (.there .here))
      have hlt : pd.length - 1 - i < (undoN bl pd i).2.length := by omega
      have hc := Sl.Own.chunk (i := pd.length - 1 - i) (wcs_len okk) (by rw [wcs_n]; exact hlt) o hA
      rw [wcs_at hlt] at hc
      rw [Nat.zero_add]
      exact cells_of ho hc j u hu
  · intro t e he
    rcases List.mem_cons.1 he with rfl | he
    · exact cells_rowD
    · exact cells_undo x b14 b3 b1 _ e he
  · intro w' hw'
    rw [eM0]
    exact hw'.perm' (List.perm_append_comm (l₁ := [_, _, _]))
  · rintro l k i w1 ⟨rfl, hk⟩ hkm hH
    generalize wrs (undoM x b14 b3 b1 (undoN bl pd i)) = S1
    refine JR.seq (JR.region rfl (lo_then lo_asgQ) (JL.q (OQ.assign rfl) rfl (JL.nil (JE.nextR (JR.region rfl lo_asgQ ?_)))))
    refine JL.alloc dwZ rfl fun b5 _ => ?_
    have ok2 := ((h.ok.undoN i hk).p _ (nth_mem (by rw [(undoN_len bl pd i hk).2]; omega : pd.length - 1 - i < _))).2
    refine JL.store_all (cs := wc (nth (undoN bl pd i).2 (pd.length - 1 - i))) dwB rfl rfl (by rw [wc, List.length_cons, bc_len ok2]) (by rw [wc, List.all_cons, bc_cell]; rfl) .here rfl (JL.nil ?_)
    exact JE.asg (i, b5) rfl (by repeat (first | exact SubE.nil | refine SubE.cons _ _ _ rfl ?_)) (Less.refl _)
  · rintro l k ⟨k', b5⟩ w1 rfl hkm hH
    generalize wrs _ = S1
    have hk : k' ≤ pd.length := by have : k' < pd.length := hkm; omega
    obtain ⟨r, hr⟩ : ∃ r, x.a = some r := by
      cases e : x.a with
      | none => have := h.a e; subst this; exact absurd hkm (by simp)
      | some r => exact ⟨r, rfl⟩
    have hl := undoN_len bl pd k' hk
    have ok := h.ok.undoN k' hk
    have hs := undoN_succ (bl := bl) hkm
    obtain ⟨lb, hlb⟩ : ∃ lb, (undoN bl pd k').1 = lb := ⟨_, rfl⟩
    obtain ⟨ws, hws⟩ : ∃ ws, (undoN bl pd k').2 = ws := ⟨_, rfl⟩
    have hU : undoN bl pd k' = (lb, ws) := by rw [← hlb, ← hws]
    rw [hlb, hws] at hl ok
    rw [hU] at hs
    dsimp only at hl hs ⊢
    rw [hU]
    dsimp only
    obtain ⟨i, hi'⟩ : ∃ i, pd.length - 1 - k' = i := ⟨_, rfl⟩
    have hi : i < ws.length := by omega
    rw [hi'] at hs ⊢
    obtain ⟨w, hww⟩ : ∃ w, nth ws i = w := ⟨_, rfl⟩
    obtain ⟨hw1, hw2⟩ := ok.p _ (nth_mem hi)
    have ew : (wcs ws).getD i [] = wc w := by rw [wcs_at hi, hww]
    rw [hww] at hw1 hw2 ⊢
    have eM : undoM x b14 b3 b1 (lb, ws) = [⟨x.p, Row 63 [.slice (some ⟨x.q, 0, none⟩) lb.length x.cap, .slice none 0 0], true⟩, ⟨x.q, Sl.Own 51 64 lb.length x.cap (bcs lb).flatten, true⟩, ⟨r.1, Sl.Own 88 65 (wcs ws).length r.2 (wcs ws).flatten, true⟩, ⟨b14, Row 61 [accV (some r) ws.length], true⟩, ⟨b3, Row 61 [accV (some r) ws.length], true⟩, ⟨b1, Row 25 [Pt x.p 0], true⟩] := by
      unfold undoM
      rw [hr]
      rfl
    have eL : (wcs ws).set i (((wcs ws).getD i []).take 1 ++ bc (old lb w.1) ++ ((wcs ws).getD i []).drop (1 + 64)) = wcs (ws.set i (w.1, old lb w.1)) := by
      have e1 : (wc w).drop (1 + 64) = [] := List.drop_of_length_le (by rw [wc, List.length_cons, bc_len hw2]; exact Nat.le_refl _)
      rw [ew, e1, List.append_nil]
      show (wcs ws).set i (wc (w.1, old lb w.1)) = _
      simp [wcs, List.map_set]
    have eM2 : undoM x b14 b3 b1 (undoN bl pd (k' + 1)) = [⟨x.p, Row 63 [.slice (some ⟨x.q, 0, none⟩) lb.length x.cap, .slice none 0 0], true⟩, ⟨x.q, Sl.Own 51 64 lb.length x.cap ((bcs lb).set w.1 (bc w.2)).flatten, true⟩, ⟨r.1, Sl.Own 88 65 (wcs ws).length r.2 ((wcs ws).set i (((wcs ws).getD i []).take 1 ++ bc (old lb w.1) ++ ((wcs ws).getD i []).drop (1 + 64))).flatten, true⟩, ⟨b14, Row 61 [accV (some r) ws.length], true⟩, ⟨b3, Row 61 [accV (some r) ws.length], true⟩, ⟨b1, Row 25 [Pt x.p 0], true⟩] := by
      have e3 : (ws.set i (w.1, old lb w.1)).length = ws.length := List.length_set
      rw [hs, eL, bcs_set]
      unfold undoM Dsk.step
      rw [hr]
      dsimp only
      rw [hww, List.length_set, e3, wcs_n ws]
      show _ :: _ :: ([(⟨r.1, Sl.Own 88 65 (wcs (ws.set i (w.1, old lb w.1))).length r.2 _, true⟩ : Ent)] ++ _) = _
      rw [wcs_n, e3]
      rfl
    rw [eM]
    refine JR.block ?_
    show JR _ _ _ _ _ _ _ _ [(1, Pt b1 0), (3, Pt b3 0), (4, N i), (5, Pt b5 0)] _
    let vs : Nat → Nat → Value := fun j y => match j with
      | 0 => accV (some r) ws.length
      | 1 => N i
      | 2 => Pt x.p 0
      | 3 => Pt x.p 0
      | 4 => Pt x.p 0
      | 5 => .slice (some ⟨x.q, 0, none⟩) lb.length x.cap
      | 6 => Pt b5 0
      | 7 => N w.1
      | 8 => Pt x.p 0
      | 9 => Pt x.p 0
      | 10 => Pt x.p 0
      | 11 => .slice (some ⟨x.q, 0, none⟩) lb.length x.cap
      | 12 => Pt b5 0
      | 13 => N w.1
      | 14 => Pt x.q (0 + w.1 * 64)
      | 15 => .agg (bc (old lb w.1)).toArray
      | 16 => Pt b5 1
      | 17 => .agg (bc w.2).toArray
      | 18 => Pt r.1 (0 + i * 65)
      | 19 => Pt r.1 (0 + i * 65 + 1)
      | 21 => Pt x.q (0 + w.1 * 64)
      | _ => N 0
    let Ms : Nat → Nat → List Ent := fun j y => match j with
      | 20 => [⟨r.1, Sl.Own 88 65 (wcs ws).length r.2 ((wcs ws).set i (((wcs ws).getD i []).take 1 ++ bc (old lb w.1) ++ ((wcs ws).getD i []).drop (1 + 64))).flatten, true⟩]
      | 22 => [⟨x.q, Sl.Own 51 64 lb.length x.cap ((bcs lb).set w.1 (bc w.2)).flatten, true⟩]
      | 23 => [⟨b5, Row 88 (wc w), true⟩]
      | 24 => [⟨x.p, Row 63 [.slice (some ⟨x.q, 0, none⟩) lb.length x.cap, .slice none 0 0], true⟩]
      | 25 => [⟨x.q, Sl.Own 51 64 lb.length x.cap (bcs lb).flatten, true⟩]
      | 26 => [⟨r.1, Sl.Own 88 65 (wcs ws).length r.2 (wcs ws).flatten, true⟩]
      | 27 => [⟨b14, Row 61 [accV (some r) ws.length], true⟩]
      | 28 => [⟨b3, Row 61 [accV (some r) ws.length], true⟩]
      | 29 => [⟨b1, Row 25 [Pt x.p 0], true⟩]
      | _ => []
    refine JR.growR (g := ⟨[(1, Pt b1 0), (3, Pt b3 0), (4, N i), (5, Pt b5 0)], 30, vs, Ms, (fun j => match j with | 3 => [(2, 19)] | 4 => [(3, 20)] | 5 => [(4, 21)] | 7 => [(6, 23)] | 9 => [(8, 25)] | 10 => [(9, 26)] | 11 => [(10, 27)] | 13 => [(12, 29)] | 14 => [(11, 28), (13, 30)] | 15 => [(14, 31)] | 17 => [(16, 33)] | 18 => [(0, 17), (1, 18)] | 19 => [(18, 35)] | 20 => [(19, 36), (15, 32)] | 21 => [(5, 22), (7, 24)] | 22 => [(21, 37), (17, 34)] | _ => []), (fun j => match j with | 0 => [28] | 2 => [29] | 5 => [24] | 7 => [23] | 8 => [29] | 11 => [24] | 13 => [23] | 15 => [25] | 17 => [23] | 20 => [26] | 22 => [25] | _ => []), (fun j => match j with | 20 => [26] | 22 => [25] | _ => []), (fun j => match j with | _ => none), fun _ => [], fun _ _ _ => True⟩) [] [24, 22, 20, 27, 28, 29] rfl (lo_blk lo_roundX) mixT (by repeat (first | exact SubE.nil | refine SubE.cons _ _ _ rfl ?_)) (fun _ _ => .nil) ?_ (by kernel_rfl) (by kernel_rfl) (by kernel_rfl) ?_ ?_
    · exact Less.refl _
    · refine ⟨?_, ?_, ?_, ?_, ?_, ?_, ?_, ?_, ?_, ?_, ?_, ?_, ?_, ?_, ?_, ?_, ?_, ?_, ?_, ?_, ?_, ?_, ?_, trivial⟩
      · (intro xx EF MF Q kk; (try refine JL.gon rfl rfl ?_); exact JL.q (OQ.load wsC rfl .here (Row.cell (v := accV (some r) ws.length) rfl)) rfl (JL.nil (kk default nofun)))
      · (intro xx EF MF Q kk; (try refine JL.gon rfl rfl ?_); exact JL.q (OQ.move rfl) rfl (JL.nil (kk default nofun)))
      · (intro xx EF MF Q kk; (try refine JL.gon rfl rfl ?_); exact JL.q (OQ.load pdC rfl .here (Row.cell (v := Pt x.p 0) rfl)) rfl (JL.nil (kk default nofun)))
      · (intro xx EF MF Q kk; (try refine JL.gon rfl rfl ?_); exact JL.q (OQ.nilc rfl) rfl (JL.nil (kk default nofun)))
      · (intro xx EF MF Q kk; (try refine JL.gon rfl rfl ?_); exact JL.q (OQ.fld rfl rfl rfl (by decide) rfl) rfl (JL.nil (kk default nofun)))
      · (intro xx EF MF Q kk; (try refine JL.gon rfl rfl ?_); exact JL.q (OQ.load bsC rfl .here (Row.cell (v := .slice (some ⟨x.q, 0, none⟩) lb.length x.cap) rfl)) rfl (JL.nil (kk default nofun)))
      · (intro xx EF MF Q kk; (try refine JL.gon rfl rfl ?_); exact JL.q (OQ.fld rfl rfl rfl (by decide) rfl) rfl (JL.nil (kk default nofun)))
      · (intro xx EF MF Q kk; (try refine JL.gon rfl rfl ?_); exact JL.q (OQ.load intC rfl .here (Row.cell (v := N w.1) rfl)) rfl (JL.nil (kk default nofun)))
      · (intro xx EF MF Q kk; (try refine JL.gon rfl rfl ?_); exact JL.q (OQ.load pdC rfl .here (Row.cell (v := Pt x.p 0) rfl)) rfl (JL.nil (kk default nofun)))
      · (intro xx EF MF Q kk; (try refine JL.gon rfl rfl ?_); exact JL.q (OQ.nilc rfl) rfl (JL.nil (kk default nofun)))
      · (intro xx EF MF Q kk; (try refine JL.gon rfl rfl ?_); exact JL.q (OQ.fld rfl rfl rfl (by decide) rfl) rfl (JL.nil (kk default nofun)))
      · (intro xx EF MF Q kk; (try refine JL.gon rfl rfl ?_); exact JL.q (OQ.load bsC rfl .here (Row.cell (v := .slice (some ⟨x.q, 0, none⟩) lb.length x.cap) rfl)) rfl (JL.nil (kk default nofun)))
      · (intro xx EF MF Q kk; (try refine JL.gon rfl rfl ?_); exact JL.q (OQ.fld rfl rfl rfl (by decide) rfl) rfl (JL.nil (kk default nofun)))
      · (intro xx EF MF Q kk; (try refine JL.gon rfl rfl ?_); exact JL.q (OQ.load intC rfl .here (Row.cell (v := N w.1) rfl)) rfl (JL.nil (kk default nofun)))
      · (intro xx EF MF Q kk; (try refine JL.gon rfl rfl ?_); exact JL.q (OQ.idxS Try.underlying48 dkB rfl rfl hw1) rfl (JL.nil (kk default nofun)))
      · (intro xx EF MF Q kk; (try refine JL.gon rfl rfl ?_); exact JL.q (OQ.to (OQ.loadC (L := bcs lb) (i := w.1) dkAg dkB rfl (Nat.zero_add _) .here (bcs_len ok) (by rw [bcs_n]; exact hw1)) (by rw [bcs_at hw1]; rfl)) rfl (JL.nil (kk default nofun)))
      · (intro xx EF MF Q kk; (try refine JL.gon rfl rfl ?_); exact JL.q (OQ.fld rfl rfl rfl (by decide) rfl) rfl (JL.nil (kk default nofun)))
      · (intro xx EF MF Q kk; (try refine JL.gon rfl rfl ?_); exact JL.q (OQ.load_agg (cs := bc w.2) dkAg dkB rfl .here (bc_len hw2) (Row.cells (wc_tail w))) rfl (JL.nil (kk default nofun)))
      · (intro xx EF MF Q kk; (try refine JL.gon rfl rfl ?_); exact JL.q (OQ.idxS Try.underlying61 dwB rfl rfl hi) rfl (JL.nil (kk default nofun)))
      · (intro xx EF MF Q kk; (try refine JL.gon rfl rfl ?_); exact JL.q (OQ.fld rfl rfl rfl (by decide) rfl) rfl (JL.nil (kk default nofun)))
      · (intro xx EF MF Q kk; exact JL.storeP (L := wcs ws) (i := i) (off := 1) dkB rfl (by rw [Nat.zero_add]) rfl (bc_len (ok.old hw1)) (bc_cell _) (wcs_len ok) rfl (by rw [wcs_n]; exact hi) (by decide) .here (JL.nil (kk default nofun)))
      · (intro xx EF MF Q kk; (try refine JL.gon rfl rfl ?_); exact JL.q (OQ.idxS Try.underlying48 dkB rfl rfl hw1) rfl (JL.nil (kk default nofun)))
      · (intro xx EF MF Q kk; exact JL.storeC (L := bcs lb) (i := w.1) dkB rfl (Nat.zero_add _) rfl (bc_len hw2) (bc_cell _) (bcs_len ok) (bcs_n lb) hw1 .here (JL.nil (kk default nofun)))
    · intro xx hx
      refine JE.blk_normal (JE.roundN (k' + 1) ⟨rfl, hkm⟩ ?_)
      rw [eM2]
      exact Less.refl _
  · rintro D _ ⟨rfl, _⟩
    have hl2 := (undoN_len bl pd pd.length (Nat.le_refl _)).2
    repeat (first | refine KL.q (by first | (apply OQ.load; exact wsC; exact rfl; exact (.there (.there (.there (hasR (.there .here))))); exact (Row.cell (v := accV x.a (undoN bl pd pd.length).2.length) rfl)) | (apply OQ.assign; exact rfl)) rfl ?_ | refine KC.seq ?_ | refine KC.region ?_ | refine KL.nil ?_ | refine KE.next ?_ | refine KE.blk_normal ?_)
    refine KC.ret ?_
    refine KE.ret1 rfl rfl fun w' hw' => ⟨?_, hw'.weak ?_⟩
    · rw [hl2]
    · exact .keep _ _ _ _ _ _ (fun _ h => h) (.keep _ _ _ _ _ _ (fun _ h => h) (less_pre _ _))
end Go.Proofs.Ytjkncnbpaejamaa

/-
  Of no statement by itself: the landed disk's Crash, slices.Clone of blocks, Twin.
  Conditions: each theorem's own.
-/
namespace Go.Proofs.Ytjkncnbpaejamaa
set_option maxRecDepth 10000
open Sl Dsk
section
variable {P : Program} {n : Nat} {E : Env} {C : World → Prop} {dst : Option Tmp} {t t' e ty : TypeId} {pos : String} {aft : Array Edge} {g : Option (Nat × Bool)} {x y : Operand}
theorem OQ.slA_hi {len b j hi sz : Nat} (hu : P.underlying t = some (.array len e)) (hz : szT P e = some sz) (hx : ev E x = some (.pointer (some ⟨b, j, none⟩))) (hh : ev E y = some (N hi)) (h' : hi ≤ len) :
    OQ P n E C ⟨dst, .slice t x none (some y) none, ty, pos, aft, g⟩ (.slice (some ⟨b, j, none⟩) hi len) :=
  OQ.run fun a ha w _ => by
    have h1 := ha.eval hx
    have h2 := ha.eval hh
    have h3 : (underlying t).run P w = .ok (.array len e) w := run_underlying hu w
    have h6 : (⟨b, j, none⟩ : Addr).add 0 = ⟨b, j, none⟩ := by rw [add_off]; rfl
    simp [execOp, h1, h2, Instr.sliceAt, Sem.run_bind, h3, Instr.sureAddr, Instr.sliceBounds, Instr.sliceBound, asIntOf, h', sizeOf_run hz, h6]
end
/-- bytes that lie apart from some blocks -/
def Away (s : Sl8) (S : List Nat) : Prop := s.l ≠ [] → ∀ a, s.ad = some a → a.block ∉ S
theorem undoE_wr (x : Dp) (s : List Bk × List (Nat × Bk)) : ∀ e ∈ undoE x s, e.wr = true := by
  intro e he
  rcases List.mem_cons.1 he with rfl | he
  · rfl
  · rcases List.mem_cons.1 he with rfl | he
    · rfl
    · exact accC_wr _ _ _ _ e he
theorem goes_crash : Goes Try.prog 20 := ⟨_, Try.func20, rfl, by kernel_rfl⟩
set_option maxHeartbeats 16000000 in
theorem crash_any (x : Dp) (bl : List Bk) (pd : List (Nat × Bk)) (s : Sl8) (h : DkOk x bl pd) (w : World) (hs : s.ok w) (hl : s.l.length ≤ 1000000) (hap : Away s (keys (dkE x bl pd))) (hw : Holds w (keys (dkE x bl pd)) (dkE x bl pd) w) :
    Calls Try.prog 20 [Pt x.p 0, s.v].toArray w fun e w' => e = .returned (.tuple #[]) ∧ Holds w (keys (dkE x bl pd)) (dkE ⟨x.p, x.q, x.cap, none⟩ (crash s.l bl pd) []) w' := by
  have hm := h.m
  have hun := fun w' hw' => undo_any x bl pd h w' hw'
  have hul := undo_len bl pd
  have hok := h.ok.undo
  generalize hS : keys (dkE x bl pd) = S at hw hap ⊢
  have hS2 := hS
  have hcr : crash s.l bl pd = redoN s.l (undo bl pd).1 (undo bl pd).2 (undo bl pd).2.length := rfl
  obtain ⟨lb, hlb⟩ : ∃ lb, (undo bl pd).1 = lb := ⟨_, rfl⟩
  obtain ⟨ws, hws⟩ : ∃ ws, (undo bl pd).2 = ws := ⟨_, rfl⟩
  have hU : undo bl pd = (lb, ws) := by rw [← hlb, ← hws]
  rw [hU] at hcr hun hul hok
  dsimp only at hcr hul hok
  have hqa : x.a = none → pd.length = 0 := fun e => by rw [h.a e]; rfl
  refine enter (n := 39) Try.func20 rfl rfl rfl hw ?_
  repeat (first | refine JL.q (by (apply OQ.move; exact rfl)) rfl ?_ | refine JC.seq ?_ | refine JC.region ?_)
  refine JL.perm ?_ (List.Perm.of_eq (List.append_nil _).symm)
  refine JL.callW (ι := Unit) (X := dkE x bl pd) (M0 := []) (vs := [Pt x.p 0]) (fun _ => accV x.a pd.length) (fun _ => undoE x (lb, ws)) goes_undo rfl rfl (dkE_wr _ _ _) (fun _ => undoE_wr _ _) (fun w' hw' => ?_) fun _ => ?_
  · exact (hun w' (by simpa [cold] using hw')).mono fun e w2 ⟨h1, h2⟩ => ⟨(), h1, h2⟩
  refine JL.perm ?_ (List.Perm.of_eq (List.append_nil _))
  repeat (first | refine JL.q (by first | (apply OQ.lenV; exact Try.underlying61; exact hqa; exact rfl) | (apply OQ.move; exact rfl)) rfl ?_ | refine JC.block ?_ | refine JL.nil ?_ | refine JE.next ?_)
  refine JC.loop (fun i : Nat => [(0, Pt x.p 0), (1, s.v), (8, accV x.a pd.length), (9, N pd.length), (10, N i)]) (fun i => undoE x (redoN s.l lb ws i, ws)) (fun i => pd.length - i) (fun i => i ≤ pd.length) 0 (Nat.zero_le _) (by repeat (first | exact SubE.nil | refine SubE.cons _ _ _ rfl ?_)) (by rw [redoN_zero]; exact Less.refl _) ?_
  intro i hi
  repeat (first | refine JL.q (by (apply OQ.lssN; exact rfl; exact rfl)) rfl ?_ | refine JC.seq ?_ | refine JC.region ?_ | refine JL.nil ?_ | refine JE.next ?_)
  refine JC.cond rfl (fun h2 => ?_) (fun h2 => ?_)
  · have hi' : i < pd.length := by have := of_decide_eq_true h2; omega
    clear h2
    have hiw : i < ws.length := by omega
    obtain ⟨r, hr⟩ : ∃ r, x.a = some r := by
      cases e : x.a with
      | none => have := hqa e; omega
      | some r => exact ⟨r, rfl⟩
    have okL := hok.redoN (picks := s.l) i (by omega)
    have hll := redoN_len s.l lb ws i
    have hsucc := redoN_succ s.l lb ws i
    obtain ⟨L, hL⟩ : ∃ L, redoN s.l lb ws i = L := ⟨_, rfl⟩
    rw [hL] at okL hll hsucc ⊢
    obtain ⟨v, hv⟩ : ∃ v, nth ws i = v := ⟨_, rfl⟩
    obtain ⟨hv1, hv2⟩ := okL.p _ (nth_mem hiw)
    rw [hv] at hv1 hv2 hsucc
    have hwl : (wc v).length = 65 := by rw [wc, List.length_cons, bc_len hv2]
    have hwo : (wc v).all Value.oneCell' = true := by rw [wc, List.all_cons, bc_cell]; rfl
    have eU : undoE x (L, ws) = [⟨x.p, Row 63 [.slice (some ⟨x.q, 0, none⟩) L.length x.cap, .slice none 0 0], true⟩, ⟨x.q, Sl.Own 51 64 L.length x.cap (bcs L).flatten, true⟩, ⟨r.1, Sl.Own 88 65 (wcs ws).length r.2 (wcs ws).flatten, true⟩] := by
      unfold undoE
      rw [hr]
      rfl
    have eU2 : undoE x (redoN s.l lb ws (i + 1), ws) = [⟨x.p, Row 63 [.slice (some ⟨x.q, 0, none⟩) L.length x.cap, .slice none 0 0], true⟩, ⟨x.q, Sl.Own 51 64 L.length x.cap ((bcs L).set v.1 (((bcs L).getD v.1 []).take 0 ++ (bc v.2).take (doneB (pick s.l i)) ++ ((bcs L).getD v.1 []).drop (0 + doneB (pick s.l i)))).flatten, true⟩, ⟨r.1, Sl.Own 88 65 (wcs ws).length r.2 (wcs ws).flatten, true⟩] := by
      rw [hsucc]
      unfold undoE
      rw [hr]
      dsimp only
      rw [part_len, bcs_at hv1]
      have e : bcs (Dsk.part L v (doneB (pick s.l i))) = (bcs L).set v.1 (List.take 0 (bc (old L v.1)) ++ (bc v.2).take (doneB (pick s.l i)) ++ (bc (old L v.1)).drop (0 + doneB (pick s.l i))) := by
        unfold Dsk.part
        rw [← bcs_set]
        simp [bc, List.map_take, List.map_drop]
      rw [e]
      rfl
    rw [eU, hr]
    repeat (first | refine JL.q (by first | (apply OQ.idxS (i := i); exact Try.underlying61; exact dwB; exact rfl; exact rfl; exact hi') | (apply OQ.move; exact rfl)) rfl ?_ | refine JC.seq ?_ | refine JC.region ?_ | refine JC.block ?_ | refine JC.skip ?_ | refine JE.next ?_)
    refine JL.q (v := .agg (wc v).toArray) (OQ.to (OQ.loadC (L := wcs ws) (i := i) dwAg dwB rfl (Nat.zero_add _) (.there (.there .here)) (wcs_len hok) (by rw [wcs_n]; exact hiw)) (by rw [wcs_at hiw, hv])) rfl ?_
    refine JL.alloc dwZ rfl fun b5 _ => ?_
    repeat (refine JL.q (by (apply OQ.assign; exact rfl)) rfl ?_)
    refine JL.store_all (cs := wc v) dwB rfl rfl hwl hwo .here rfl ?_
    repeat (first | refine JL.q (by first | (apply OQ.move; exact rfl) | (apply OQ.assign; exact rfl) | (apply OQ.len; exact rfl; exact rfl) | (apply OQ.gtrN; exact rfl; exact rfl)) rfl ?_ | refine JC.seq ?_ | refine JC.region ?_ | refine JL.nil ?_ | refine JE.next ?_)
    refine JC.join (ι := Unit) (fun _ => [(6, U8 (pick s.l i)), (4, N i), (5, Pt b5 0), (0, Pt x.p 0), (1, s.v), (8, accV (some r) pd.length), (9, N pd.length), (10, N i)]) (fun _ => [⟨b5, Row 88 (wc v), true⟩, ⟨x.p, Row 63 [.slice (some ⟨x.q, 0, none⟩) L.length x.cap, .slice none 0 0], true⟩, ⟨x.q, Sl.Own 51 64 L.length x.cap (bcs L).flatten, true⟩, ⟨r.1, Sl.Own 88 65 (wcs ws).length r.2 (wcs ws).flatten, true⟩]) (fun _ => True) ?_ fun _ _ => ?_
    · by_cases h0 : s.l = []
      · have hp : pick s.l i = 0#8 := by unfold pick; rw [if_pos h0]; rfl
        rw [hp]
        refine JC.cond_false rfl (by rw [h0]; rfl) ?_
        repeat (refine JC.skip ?_)
        exact JE.mid () trivial (by repeat (first | exact SubE.nil | refine SubE.cons _ _ _ rfl ?_)) (Less.refl _)
      · have hpos : 0 < s.l.length := List.length_pos_iff.2 h0
        have hp : pick s.l i = s.l.getD (i % s.l.length) 0 := by unfold pick; rw [if_neg h0]
        obtain ⟨bs, js, hae, hca⟩ := hs.reads.at (by simpa using hpos)
        have him : i % s.l.length < s.l.length := Nat.mod_lt _ hpos
        have hca := hca (i % s.l.length) _ (map_at U8 0 him)
        have hbs : bs ∉ S := hap h0 _ hae
        rw [hp]
        have hsv : s.v = .slice (some ⟨bs, js, none⟩) s.l.length s.cap := by rw [← hae]; rfl
        rw [hsv]
        refine JC.cond_true rfl (decide_eq_true hpos) ?_
        repeat (first | refine JL.q (by first | (apply OQ.len (k := s.l.length); exact Try.underlying33; exact rfl) | (apply OQ.remN (a := i) (b := s.l.length); exact rfl; exact rfl; exact hpos) | (apply OQ.idxS1; exact Try.underlying33; exact u8s; exact rfl; exact rfl; exact him) | (apply OQ.load_old; exact u8c; exact rfl; exact (block_lt_of_cell hca); exact hbs; exact hca) | (apply OQ.move; exact rfl) | (apply OQ.assign; exact rfl)) rfl ?_ | refine JC.region ?_ | refine JL.nil ?_)
        exact JE.mid () trivial (by repeat (first | exact SubE.nil | refine SubE.cons _ _ _ rfl ?_)) (Less.refl _)
    have hdl := doneB_le (pick s.l i)
    have cd := fun w' => done_any (pick s.l i) w'
    generalize doneB (pick s.l i) = d at hdl cd eU2
    generalize pick s.l i = pk at cd
    skip
    refine JC.tail 12 mixT (by kernel_rfl) ?_
    simp only [List.take_succ_cons, List.take_zero, List.drop_succ_cons, List.drop_zero]
    repeat (first | refine JQ.q (by first | (apply OQ.load; exact bsC; exact rfl; exact (.there .here); exact (Row.cell (v := .slice (some ⟨x.q, 0, none⟩) L.length x.cap) rfl)) | (apply OQ.load; exact intC; exact rfl; exact .here; exact (Row.cell (v := N v.1) rfl)) | (apply OQ.idxS (i := v.1); exact Try.underlying48; exact dkB; exact rfl; exact rfl; exact hv1) | (apply OQ.callx (vs := [U8 pk]); exact goes_done; exact rfl; exact (fun w' _ => cd w')) | (apply OQ.slA_hi; exact Try.underlying51; exact u8s; exact rfl; exact rfl; exact hdl) | (apply OQ.slA; exact Try.underlying51; exact u8s; exact rfl) | (apply OQ.move; exact rfl) | (apply OQ.nilc; exact rfl) | (apply OQ.fld; exact rfl; exact rfl; exact rfl; exact (by decide); exact rfl)) rfl ?_ | refine JQ.nil_tail ?_)
    refine JL.copyO (m := d) (sz := 1) (cs := (bc v.2).take d) (j := 0 + v.1 * 64) (A := Sl.Own 51 64 L.length x.cap (bcs L).flatten) (A' := Sl.Own 51 64 L.length x.cap ((bcs L).set v.1 (((bcs L).getD v.1 []).take 0 ++ (bc v.2).take d ++ ((bcs L).getD v.1 []).drop (0 + d))).flatten) Try.underlying33 u8s rfl rfl (.there (.there .here)) (Nat.min_eq_right hdl) (by rw [List.length_take, bc_len hv2]; omega) (fun w' hw' => ?_) (fun c hc => List.all_eq_true.1 (bc_cell v.2) c (List.mem_of_mem_take hc)) (fun o ho => ?_) rfl ?_
    · obtain ⟨o, ho, hA⟩ := hw'.get (b := b5) (A := Row 88 (wc v)) (wr := true) .here
      exact (Reads.block ho (Row.cells (wc_tail v) o hA)).take d
    · have hle : v.1 * 64 + 64 ≤ (bcs L).flatten.length := by rw [chunk_len (bcs_len okL), bcs_n, ← Nat.succ_mul]; exact Nat.mul_le_mul_right _ hv1
      have hcp := chunk_part (c := (bc v.2).take d) (off := 0) (sz' := d) (i := v.1) (bcs_len okL) (by rw [bcs_n]; exact hv1) (by omega)
      rw [Nat.add_zero] at hcp
      obtain ⟨sp, rfl, q1, q2, q3⟩ := ho
      have hxl : ((bcs L).flatten.take (v.1 * 64) ++ (bc v.2).take d ++ (bcs L).flatten.drop (v.1 * 64 + d)).length = (bcs L).flatten.length := by
        have : ((bc v.2).take d).length = d := by rw [List.length_take, bc_len hv2]; omega
        simp only [List.length_append, List.length_take, List.length_drop, this]
        omega
      refine ⟨_, _, rfl, by rw [List.length_append]; omega, sp, ?_, ?_, ?_, q3⟩
      · rw [← hcp, Nat.zero_add, Nat.mul_one, List.take_append_of_le_length (by omega), List.drop_append_of_le_length (by omega)]
        simp
      · rw [← hcp, List.length_append, hxl, ← List.length_append]
        exact q1
      · rw [← hcp, hxl]
        exact q2
    repeat (first | refine JL.q (by first | (apply OQ.move; exact rfl) | (apply OQ.addN; exact rfl; exact rfl; exact (by (try simp only []); omega))) rfl ?_ | refine JC.region ?_ | refine JL.nil ?_ | refine JE.next ?_ | refine JE.blk_normal ?_)
    refine JE.again (i := i) (i + 1) hi' (by omega) ?_ ?_
    · exact (by repeat (first | exact SubE.nil | refine SubE.cons _ _ _ rfl ?_))
    · rw [eU2]
      exact .drop _ _ _ (Less.refl _)
  · have hi' : i = pd.length := by have := of_decide_eq_false h2; omega
    subst hi'
    repeat (first | refine JC.exit ?_ | refine JE.then_exit ?_ | refine JE.blk_hit ?_)
    refine JE.end0 rfl fun w' hw' => ⟨rfl, hw'.weak ?_⟩
    rw [hcr, hul.2]
    exact .keep _ _ _ _ _ _ (fun _ h => h) (.keep _ _ _ _ _ _ (fun _ h => h) (.nil _))
end Go.Proofs.Ytjkncnbpaejamaa

/-
  Of no statement by itself: rules for calls of the landed disk's functions; slices.Clone of blocks, Twin.
  Conditions: each theorem's own.
-/
namespace Go.Proofs.Ytjkncnbpaejamaa
set_option maxRecDepth 10000
open Sl Dsk
section
variable {P : Program} {n : Nat} {w0 : World} {S : List Nat} {ops : Array Oper} {Q : Exit → Act → World → Prop} {l : List Oper} {E : Env} {M : List Ent} {C : World → Prop}
variable {dst : Option Tmp} {d : Nat} {t t' e ty : TypeId} {pos : String} {aft : Array Edge} {g : Option (Nat × Bool)} {x y : Operand}
/-- a call that writes what came in, told of the world that it is called in -/
theorem JL.callV {ι : Type} {X M0 : List Ent} (vf : ι → Value) (Yf : ι → List Ent) {f : FuncId} {xs : List Operand} {ats : Array TypeId} {vs : List Value} (hg : Goes P f) (hx : evs E xs = some vs) (hd : Nat.blt d n = true) (hX : ∀ e ∈ X, e.wr = true) (hY : ∀ i, ∀ e ∈ Yf i, e.wr = true)
    (hc : ∀ w, Holds w0 S (X ++ M0) w → Holds w (keys X) X w → Calls P f vs.toArray w fun e w' => ∃ i, e = .returned (vf i) ∧ Holds w (keys X) (Yf i) w')
    (k : ∀ i, JL P n w0 S ops Q l ((d, vf i) :: E) (Yf i ++ M0)) : JL P n w0 S ops Q (⟨some d, .call ⟨.value (.func f), xs.toArray, ats⟩, ty, pos, aft, none⟩ :: l) E (X ++ M0) :=
  JL.call (ι := ι) vf (fun i => Yf i ++ M0) hg hx hd (fun w hw => (hc w hw (hw.own.weak (less_pre _ _))).mono fun _ _ ⟨i, h1, h2⟩ => ⟨i, h1, hw.swapW h2 hX (hY i)⟩) k
theorem OQ.isNilD {ad : Option Addr} {k cap : Nat} (hu : P.underlying t = some (.slice e)) (hx : ev E x = some (.slice ad k cap)) (hy : ev E y = some (.slice none 0 0)) :
    OQ P n E C ⟨dst, .binOp .eql t x y t', ty, pos, aft, g⟩ (.bool ad.isNone) :=
  OQ.run fun c ha w _ => by
    have h1 := ha.eval hx
    have h2 := ha.eval hy
    have h4 : (binOp .eql t (.slice ad k cap) (.slice none 0 0)).run P w = .ok (.bool ad.isNone) w := by
      show (do pure (.bool (← Op.equal t (.slice ad k cap) (.slice none 0 0))) : Sem Value).run P w = _
      simp [Sem.run_bind, run_equal_slice_nil w t e ad k cap hu]
    simp [execOp, h1, h2, eqGuard, h4]
theorem OQ.ptrNil {a : Option Addr} (hu : P.underlying t = some (.pointer e)) (hx : ev E x = some (.pointer a)) (hy : ev E y = some (.pointer none)) :
    OQ P n E C ⟨dst, .binOp .eql t x y t', ty, pos, aft, g⟩ (.bool a.isNone) :=
  OQ.run fun c ha w _ => by
    have h1 := ha.eval hx
    have h2 := ha.eval hy
    have h3 : ∀ w, (underlying t).run P w = .ok (.pointer e) w := run_underlying hu
    have h4 : (binOp .eql t (.pointer a) (.pointer none)).run P w = .ok (.bool a.isNone) w := by
      show (do pure (.bool (← Op.equalIn (9999 + 1) t (.pointer a) (.pointer none))) : Sem Value).run P w = _
      unfold Op.equalIn
      cases a <;> simp [Sem.run_bind, h3]
    simp [execOp, h1, h2, eqGuard, h4]
end
theorem gdBlk : Try.prog.eqGuardType Try.prog.depth 51 = false := by kernel_rfl
theorem away_old {w0 w : World} {X M : List Ent} {s : Sl8} (hw : Holds w0 [] (X ++ M) w) (hX : ∀ e ∈ X, e.wr = true) (hs : s.ok w0) : Away s (keys X) := by
  intro h0 a ha hm
  obtain ⟨e, he, hb⟩ := List.mem_map.1 hm
  have h1 := hs.lt h0 a ha
  rcases (hw.all e (List.mem_append_left _ he)).2 (hX e he) with h | h
  · cases h
  · omega
theorem away_has {w0 w : World} {S : List Nat} {X M : List Ent} {b : Nat} {A : Obj → Prop} {wr : Bool} (hw : Holds w0 S (X ++ M) w) (hM : Has M b A wr) : b ∉ keys X := by
  have hn := hw.nodup
  rw [List.map_append, List.nodup_append] at hn
  intro hm
  exact hn.2.2 b hm b (List.mem_map_of_mem (f := Ent.b) hM.mem) rfl
theorem DkOk.write {x : Dp} {bl : List Bk} {pd : List (Nat × Bk)} (h : DkOk x bl pd) {n : Nat} {b : Bk} (hn : n < bl.length) (hb : b.length = 64) (hm : pd.length + 1 ≤ 1000000) (y : Nat × Nat) : DkOk ⟨x.p, x.q, x.cap, some y⟩ (bl.set n b) (wrote bl pd n) where
  ok := h.ok.write hn hb
  n0 := by rw [List.length_set]; exact h.n0
  n1 := by rw [List.length_set]; exact h.n1
  m := by rw [wrote, List.length_append]; exact hm
  a := nofun
theorem DkOk.sync {x : Dp} {bl : List Bk} {pd : List (Nat × Bk)} (h : DkOk x bl pd) : DkOk ⟨x.p, x.q, x.cap, none⟩ bl [] := ⟨h.ok.sync, h.n0, h.n1, by simp, fun _ => rfl⟩
theorem DkOk.crash {x : Dp} {bl : List Bk} {pd : List (Nat × Bk)} (h : DkOk x bl pd) (ps : List Bt) : DkOk ⟨x.p, x.q, x.cap, none⟩ (crash ps bl pd) [] := ⟨h.ok.crash, by rw [crash_len]; exact h.n0, by rw [crash_len]; exact h.n1, by simp, fun _ => rfl⟩
theorem DkOk.new {x : Dp} {n : Nat} (h1 : 1 ≤ n) (h2 : n ≤ 65536) : DkOk x (newB n) [] := ⟨Ok.new n, by rw [newB, List.length_replicate]; exact h1, by rw [newB, List.length_replicate]; exact h2, by simp, fun _ => rfl⟩
section
variable {n : Nat} {w0 : World} {S : List Nat} {ops : Array Oper} {Q : Exit → Act → World → Prop} {l : List Oper} {E : Env} {M : List Ent}
variable {d : Nat} {ty : TypeId} {pos : String} {aft : Array Edge} {x1 x2 x3 : Operand} {ats : Array TypeId} {x : Dp} {bl : List Bk} {pd : List (Nat × Bk)}
theorem JL.dnew {k : Nat} (h1 : 1 ≤ k) (h2 : k ≤ 65536) (e1 : ev E x1 = some (N k)) (hd : Nat.blt d n = true)
    (kk : ∀ x : Dp, DkOk x (newB k) [] → JL Try.prog n w0 S ops Q l ((d, .tuple #[Pt x.p 0, N 0]) :: E) (dkE x (newB k) [] ++ M)) : JL Try.prog n w0 S ops Q (⟨some d, .call ⟨.value (.func 8), #[x1], ats⟩, ty, pos, aft, none⟩ :: l) E M :=
  JL.callg (ι := { x : Dp // DkOk x (newB k) [] }) (xs := [x1]) (vs := [N k]) (fun x => .tuple #[Pt x.1.p 0, N 0]) (fun x => dkE x.1 (newB k) []) goes_dnew (by simp [evs, e1]) hd (fun x => dkE_wr _ _ _)
    (fun w _ => (dnew_ok k h1 h2 w).mono fun e w' ⟨x, g1, _, g3⟩ => ⟨⟨x, DkOk.new h1 h2⟩, g1, g3⟩) fun x => kk x.1 x.2
theorem JL.dwrite {k : Nat} {b : Bk} (h : DkOk x bl pd) (hn : k < bl.length) (hb : b.length = 64) (e1 : ev E x1 = some (Pt x.p 0)) (e2 : ev E x2 = some (N k)) (e3 : ev E x3 = some (.agg (bc b).toArray)) (hd : Nat.blt d n = true)
    (kk : ∀ y, JL Try.prog n w0 S ops Q l ((d, N 0) :: E) (dkE ⟨x.p, x.q, x.cap, some y⟩ (bl.set k b) (wrote bl pd k) ++ M)) : JL Try.prog n w0 S ops Q (⟨some d, .call ⟨.value (.func 19), #[x1, x2, x3], ats⟩, ty, pos, aft, none⟩ :: l) E (dkE x bl pd ++ M) :=
  JL.callV (ι := Nat × Nat) (xs := [x1, x2, x3]) (vs := [Pt x.p 0, N k, .agg (bc b).toArray]) (fun _ => N 0) (fun y => dkE ⟨x.p, x.q, x.cap, some y⟩ (bl.set k b) (wrote bl pd k)) goes_dwrite (by simp [evs, e1, e2, e3]) hd (dkE_wr _ _ _) (fun _ => dkE_wr _ _ _)
    (fun w _ hw => dwrite_ok x bl pd k b hn hb h w hw) kk
theorem JL.dcrash {s : Sl8} (h : DkOk x bl pd) (hl : s.l.length ≤ 1000000) (hs : ∀ w, Holds w0 S (dkE x bl pd ++ M) w → s.ok w ∧ Away s (keys (dkE x bl pd))) (e1 : ev E x1 = some (Pt x.p 0)) (e2 : ev E x2 = some s.v) (hd : Nat.blt d n = true)
    (kk : JL Try.prog n w0 S ops Q l ((d, .tuple #[]) :: E) (dkE ⟨x.p, x.q, x.cap, none⟩ (crash s.l bl pd) [] ++ M)) : JL Try.prog n w0 S ops Q (⟨some d, .call ⟨.value (.func 20), #[x1, x2], ats⟩, ty, pos, aft, none⟩ :: l) E (dkE x bl pd ++ M) :=
  JL.callV (ι := Unit) (xs := [x1, x2]) (vs := [Pt x.p 0, s.v]) (fun _ => .tuple #[]) (fun _ => dkE ⟨x.p, x.q, x.cap, none⟩ (crash s.l bl pd) []) goes_crash (by simp [evs, e1, e2]) hd (dkE_wr _ _ _) (fun _ => dkE_wr _ _ _)
    (fun w h0 hw => (crash_any x bl pd s h w (hs w h0).1 hl (hs w h0).2 hw).mono fun e w' ⟨g1, g2⟩ => ⟨(), g1, g2⟩) fun _ => kk
end
theorem goes_dclone : Goes Try.prog 36 := ⟨_, Try.func36, rfl, by kernel_rfl⟩
theorem all_cells {L : List (List Value)} (h : ∀ c ∈ L, c.all Value.oneCell' = true) : ∀ v ∈ L.flatten, v.oneCell' = true := by
  intro v hv
  obtain ⟨c, hc, hv⟩ := List.mem_flatten.1 hv
  exact List.all_eq_true.1 (h c hc) v hv
theorem bcs_cell (bl : List Bk) : ∀ v ∈ (bcs bl).flatten, v.oneCell' = true := all_cells fun c hc => by
  obtain ⟨b, _, rfl⟩ := List.mem_map.1 hc
  exact bc_cell b
set_option maxHeartbeats 4000000 in
theorem dclone_any (ad : Addr) (cap : Nat) (bl : List Bk) (hb : ∀ x ∈ bl, x.length = 64) (h1 : bl.length ≤ 65536) (w : World) (hr : Reads w (some ad) (bcs bl).flatten) : Calls Try.prog 36 [.slice (some ad) bl.length cap].toArray w fun e w' => ∃ y : Nat × Nat, e = .returned (.slice (some ⟨y.1, 0, none⟩) bl.length y.2) ∧ Holds w [] [⟨y.1, Sl.Own 51 64 bl.length y.2 (bcs bl).flatten, true⟩] w' := by
  refine enter (n := 8) Try.func36 rfl rfl rfl (Holds.start w []) ?_
  have hlen : (bcs bl).flatten.length = bl.length * 64 := by rw [chunk_len (bcs_len (pd := []) ⟨hb, by simp⟩), bcs_n]
  repeat (first | refine JL.q (by first | (apply OQ.isNilD; exact Try.underlying48; exact rfl; exact rfl) | (apply OQ.move; exact rfl) | (apply OQ.assign; exact rfl)) rfl ?_ | refine JC.seq ?_ | refine JC.region ?_ | refine JL.nil ?_ | refine JE.next ?_)
  refine JC.cond_false rfl rfl ?_
  repeat (first | refine JC.seq ?_ | refine JC.region ?_ | refine JC.skip ?_ | refine JE.next ?_)
  refine JL.litZ Try.underlying48 dkI rfl fun b0 _ => ?_
  repeat (refine JL.q (by (apply OQ.move; exact rfl)) rfl ?_)
  refine JL.append (cs := (bcs bl).flatten) (m := bl.length) (ad := some ad) (sc := cap) (xs := []) (fun b' cap' => [⟨b', Sl.Own 51 64 (0 + bl.length) cap' ([] ++ (bcs bl).flatten), true⟩]) Try.underlying48 dkI rfl rfl (by intro _ _; repeat (first | exact Repl.here | apply Repl.there)) hlen (fun w' hw' => hw'.reads hr (fun _ _ _ => by simp)) (bcs_cell bl) rfl (by decide) (by omega) (by omega) rfl fun b2 cap2 => ?_
  rw [Nat.zero_add, List.nil_append]
  repeat (first | refine JL.q (by (apply OQ.assign; exact rfl)) rfl ?_ | refine JL.nil ?_ | refine JE.next ?_)
  exact JC.ret (JE.ret1 rfl (RV.tmp rfl) fun w' hw => ⟨(b2, cap2), rfl, hw⟩)
theorem goes_twin : Goes Try.prog 17 := ⟨_, Try.func17, rfl, by kernel_rfl⟩
set_option maxHeartbeats 4000000 in
theorem dtwin_any (x : Dp) (bl : List Bk) (pd : List (Nat × Bk)) (h : DkOk x bl pd) {u w : World} {S : List Nat} {M : List Ent} (hw : Holds u S (dkE x bl pd ++ M) w) : Calls Try.prog 17 [Pt x.p 0].toArray w fun e w' => ∃ z : Dp, e = .returned (Pt z.p 0) ∧ Holds w [] (dkE ⟨z.p, z.q, z.cap, none⟩ bl []) w' := by
  have hc := (dk_cell hw).1
  have hr : Reads w (some ⟨x.q, 0, none⟩) (bcs bl).flatten := by
    obtain ⟨o, ho, hA⟩ := hw.get (b := x.q) (A := Sl.Own 51 64 bl.length x.cap (bcs bl).flatten) (wr := true) (.there .here)
    exact Reads.block ho (Sl.Own.cells o hA)
  refine enter (n := 10) Try.func17 rfl rfl rfl (Holds.start w []) ?_
  repeat (first | refine JL.q (by first | (apply OQ.load_old; exact bsC; exact rfl; exact (block_lt_of_cell hc); exact (by simp); exact hc) | (apply OQ.move; exact rfl) | (apply OQ.assign; exact rfl) | (apply OQ.nilc; exact rfl) | (apply OQ.fld; exact rfl; exact rfl; exact rfl; exact (by decide); exact rfl)) rfl ?_ | refine JC.seq ?_ | refine JC.region ?_ | refine JL.nil ?_ | refine JE.next ?_)
  refine JL.callg (ι := Nat × Nat) (vs := [.slice (some ⟨x.q, 0, none⟩) bl.length x.cap]) (fun y => .slice (some ⟨y.1, 0, none⟩) bl.length y.2) (fun y => [⟨y.1, Sl.Own 51 64 bl.length y.2 (bcs bl).flatten, true⟩]) goes_dclone rfl rfl (fun y e he => by rw [List.mem_singleton.1 he]) (fun w' hw' => dclone_any _ _ bl h.ok.b h.n1 w' (hw'.reads hr (fun _ _ _ => by simp))) fun y => ?_
  repeat (refine JL.q (by (apply OQ.buildD; exact rfl)) rfl ?_)
  refine JL.box (r := [.slice (some ⟨y.1, 0, none⟩) bl.length y.2, .slice none 0 0]) rfl rfl rfl fun p hp => ?_
  repeat (first | refine JL.q (by (apply OQ.assign; exact rfl)) rfl ?_ | refine JL.nil ?_ | refine JE.next ?_)
  refine JC.ret (JE.ret1 rfl (RV.tmp rfl) fun w' hw => ⟨⟨p, y.1, y.2, none⟩, rfl, hw⟩)
end Go.Proofs.Ytjkncnbpaejamaa

/-
  Of no statement by itself: calls through an interface's value, told as calls of the method that its type has; for any program P.
  Conditions: each rule's own hypotheses.
-/
namespace Go.Proofs.Ytjkncnbpaejamaa
set_option maxRecDepth 10000
namespace Sl
section
variable {P : Program} {n : Nat} {w0 : World} {S : List Nat} {ops : Array Oper} {Q : Exit → Act → World → Prop} {l : List Oper} {E : Env} {M : List Ent} {C : World → Prop}
variable {dst : Option Tmp} {d : Nat} {t ty : TypeId} {pos name : String} {aft : Array Edge} {g : Option (Nat × Bool)} {r : Operand} {v u : Value} {f : FuncId} {xs : List Operand} {ats ats' : Array TypeId}
theorem less_preX (A M : List Ent) : Less A (A ++ M) := by
  induction A with
  | nil => exact .nil _
  | cons e A ih => exact .keep _ _ _ _ _ _ (fun _ h => h) ih
/-- type t's method of that name is f, which takes v as it is -/
def IsMeth (P : Program) (t : TypeId) (v : Value) (name : String) (f : FuncId) : Prop := pur P (Go.method (P.types.size + Made.depth) t v name) = some (f, v)
theorem exec_inv {a : Act} (hm : IsMeth P t v name f) (hk : Knows n E a) (hr : ev E r = some (.iface t v)) (w : World) :
    (execOp a.eval ⟨dst, .call ⟨.invoke r name, xs.toArray, ats⟩, ty, pos, aft, g⟩).run P w = (execOp a.eval ⟨dst, .call ⟨.value (.func f), (.const v :: xs).toArray, ats'⟩, ty, pos, aft, g⟩).run P w := by
  have h1 := hk.eval hr
  have h2 : (Go.method (P.types.size + Made.depth) t v name).run P w = .ok (f, v) w := pur_run hm
  have e2 : a.eval (.func f) = .func (.func f) #[] #[] := rfl
  have e3 : a.eval (.const v) = v := rfl
  have e4 : List.take xs.length (List.map a.eval xs) = List.map a.eval xs := List.take_of_length_le (by simp)
  simp only [execOp, resolve, Sem.run_bind, Sem.run_pure, Result.andThen_ok, e2, Deferred.ofValue, invoke]
  simp [h1, callMethod, program, Sem.run_bind, Sem.run, h2, e3, e4]
theorem OQ.inv (hm : IsMeth P t v name f) (hr : ev E r = some (.iface t v)) (h : OQ P n E C ⟨dst, .call ⟨.value (.func f), (.const v :: xs).toArray, ats⟩, ty, pos, aft, g⟩ u) : OQ P n E C ⟨dst, .call ⟨.invoke r name, xs.toArray, ats⟩, ty, pos, aft, g⟩ u := by
  refine ⟨fun a ha w hw => ?_⟩
  have h1 := h.go a ha w hw
  unfold Oper.quietAt at h1 ⊢
  rw [exec_inv hm ha hr]
  exact h1
theorem exec_callI {a : Act} {vs : List Value} (hm : IsMeth P t v name f) (hg : Goes P f) (hk : Knows n E a) (hr : ev E r = some (.iface t v)) (hx : evs E xs = some vs) (w : World) :
    (execOp a.eval ⟨dst, .call ⟨.invoke r name, xs.toArray, ats⟩, ty, pos, aft, g⟩).run P w = .ok (.enter f (v :: vs).toArray) w := by
  rw [exec_inv (ats' := ats) hm hk hr]
  exact exec_call hg hk (by simp [evs, hx, ev]) w
/-- a call of any kind that enters f and writes what came in, told of the world that it is called in -/
theorem JL.callE {ι : Type} {op : Op} {X M0 : List Ent} {vs : List Value} (vf : ι → Value) (Yf : ι → List Ent) (hex : ∀ a, Knows n E a → ∀ w, (execOp a.eval ⟨some d, op, ty, pos, aft, none⟩).run P w = .ok (.enter f vs.toArray) w) (hd : Nat.blt d n = true) (hX : ∀ e ∈ X, e.wr = true) (hY : ∀ i, ∀ e ∈ Yf i, e.wr = true)
    (hc : ∀ w, Holds w0 S (X ++ M0) w → Holds w (keys X) X w → Calls P f vs.toArray w fun e w' => ∃ i, e = .returned (vf i) ∧ Holds w (keys X) (Yf i) w')
    (k : ∀ i, JL P n w0 S ops Q l ((d, vf i) :: E) (Yf i ++ M0)) : JL P n w0 S ops Q (⟨some d, op, ty, pos, aft, none⟩ :: l) E (X ++ M0) :=
  ⟨fun a w ha hw => wpList_plain rfl fun K hK => by
    unfold Oper.wp
    rw [hex a ha w]
    exact (hc w hw (hw.own.weak (less_preX _ _))).mono fun e w' ⟨i, h1, h2⟩ => by subst h1; exact hK _ _ ((k i).go _ _ (ha.put d _ hd) (hw.swapW h2 hX (hY i)))⟩
end
end Sl
end Go.Proofs.Ytjkncnbpaejamaa

/-
  Of no statement by itself: what a journal's blocks tell, by definition: marks, parts, records, a half; that what is written is told again.
  Conditions: each theorem's own.
-/
namespace Go.Proofs.Ytjkncnbpaejamaa
namespace Jrn
open Dsk
abbrev Mk := BitVec 32 × BitVec 32 × BitVec 16 × Bool
def num32 (l : Bk) : BitVec 32 := l.foldl (fun (n : BitVec 32) (c : BitVec 8) => (n <<< 8) ||| c.setWidth 32) 0
def numB (l : Bk) : Nat := l.foldl (fun (n : Nat) (c : BitVec 8) => 256 * n + c.toNat) 0
def be (n : BitVec 32) (size : Nat) : Bk := (List.range size).map fun i => (n >>> (8 * (size - 1 - i))).setWidth 8
def placeIn (b : Bk) : BitVec 16 := (num32 ((b.drop 8).take 2)).setWidth 16
def markIn (b : Bk) : Mk := (num32 (b.take 4), num32 ((b.drop 4).take 4), placeIn b % 32768#16, decide (32768 ≤ (placeIn b).toNat))
def plc (m : Mk) : BitVec 32 := if m.2.2.2 then m.2.2.1.setWidth 32 + 32768#32 else m.2.2.1.setWidth 32
def mb (m : Mk) : Bk := be m.1 4 ++ be m.2.1 4 ++ be (plc m) 2
def blockOf (m : Mk) (part : Bk) : Bk := mb m ++ be (BitVec.ofNat 32 part.length) 2 ++ part ++ List.replicate (42 - part.length) 0 ++ mb m
def cnt (b : Bk) : Nat := (num32 ((b.drop 10).take 2)).toNat
def wholeB (b : Bk) : Bool := decide (markIn b = markIn (b.drop 54)) && (decide (cnt b ≤ 42) && (decide (cnt b = 42) || (markIn b).2.2.2))
def partOf (b : Bk) : Bk := (b.drop 12).take (cnt b)

theorem or_shift {n : BitVec 32} {c : BitVec 8} (h : n.toNat < 16777216) : ((n <<< 8) ||| c.setWidth 32).toNat = 256 * n.toNat + c.toNat := by
  rw [BitVec.toNat_or, BitVec.toNat_shiftLeft, BitVec.toNat_setWidth]
  have hc := c.isLt
  rw [Nat.mod_eq_of_lt (by omega : c.toNat < 2 ^ 32), Nat.shiftLeft_eq, Nat.mod_eq_of_lt (by omega)]
  have := Nat.two_pow_add_eq_or_of_lt (i := 8) (b := c.toNat) hc n.toNat
  rw [Nat.mul_comm n.toNat (2 ^ 8), ← this]
theorem num_fold : ∀ (l : Bk) (n : BitVec 32) (k : Nat), n.toNat < 256 ^ k → k + l.length ≤ 4 → (l.foldl (fun (n : BitVec 32) (c : BitVec 8) => (n <<< 8) ||| c.setWidth 32) n).toNat = l.foldl (fun (n : Nat) (c : BitVec 8) => 256 * n + c.toNat) n.toNat ∧ l.foldl (fun (n : Nat) (c : BitVec 8) => 256 * n + c.toNat) n.toNat < 256 ^ (k + l.length)
  | [], n, k, h, _ => ⟨rfl, h⟩
  | c :: l, n, k, h, hl => by
    simp only [List.length_cons] at hl
    have hk : 256 ^ k ≤ 256 ^ 3 := Nat.pow_le_pow_right (by decide) (by omega)
    have hs := or_shift (n := n) (c := c) (by omega)
    have hc := c.isLt
    have hlt : ((n <<< 8) ||| c.setWidth 32).toNat < 256 ^ (k + 1) := by rw [hs, Nat.pow_succ]; omega
    have ih := num_fold l _ (k + 1) hlt (by omega)
    simp only [List.foldl_cons]
    rw [hs] at ih
    refine ⟨ih.1, ?_⟩
    have := ih.2
    simp only [List.length_cons]
    rwa [show k + (l.length + 1) = k + 1 + l.length by omega]
theorem num_toNat {l : Bk} (h : l.length ≤ 4) : (num32 l).toNat = numB l := (num_fold l 0 0 (by decide) (by omega)).1
theorem numB_lt {l : Bk} (h : l.length ≤ 4) : numB l < 256 ^ l.length := by
  have := (num_fold l 0 0 (by decide) (by omega)).2
  rwa [Nat.zero_add] at this
theorem be_len (n : BitVec 32) (s : Nat) : (be n s).length = s := by simp [be]
theorem be4 (n : BitVec 32) : numB (be n 4) = n.toNat := by
  have h := n.isLt
  have e : be n 4 = [(n >>> 24).setWidth 8, (n >>> 16).setWidth 8, (n >>> 8).setWidth 8, (n >>> 0).setWidth 8] := rfl
  rw [e]
  simp only [numB, List.foldl_cons, List.foldl_nil, BitVec.toNat_setWidth, BitVec.toNat_ushiftRight, Nat.shiftRight_eq_div_pow]
  omega
theorem be2 (n : BitVec 32) : numB (be n 2) = n.toNat % 65536 := by
  have e : be n 2 = [(n >>> 8).setWidth 8, (n >>> 0).setWidth 8] := rfl
  rw [e]
  simp only [numB, List.foldl_cons, List.foldl_nil, BitVec.toNat_setWidth, BitVec.toNat_ushiftRight, Nat.shiftRight_eq_div_pow]
  omega
theorem num_be4 (n : BitVec 32) : num32 (be n 4) = n := BitVec.eq_of_toNat_eq (by rw [num_toNat (by rw [be_len]; decide), be4])
theorem num_be2 (n : BitVec 32) : (num32 (be n 2)).toNat = n.toNat % 65536 := by rw [num_toNat (by rw [be_len]; decide), be2]
theorem mb_len (m : Mk) : (mb m).length = 10 := by simp [mb, be_len]
theorem block_len {m : Mk} {part : Bk} (h : part.length ≤ 42) : (blockOf m part).length = 64 := by
  simp only [blockOf, List.length_append, mb_len, be_len, List.length_replicate]
  omega
/-- a mark that may be -/
def okM (m : Mk) : Prop := m.2.2.1.toNat < 32768
theorem mark_mb {m : Mk} (h : okM m) (r : Bk) : markIn (mb m ++ r) = m := by
  obtain ⟨g, n, p, l⟩ := m
  have hp : p.toNat < 32768 := h
  have e1 : (mb (g, n, p, l) ++ r).take 4 = be g 4 := by simp [mb, List.append_assoc, List.take_append, be_len]
  have e2 : ((mb (g, n, p, l) ++ r).drop 4).take 4 = be n 4 := by simp [mb, List.append_assoc, List.drop_append, List.take_append, be_len, List.drop_eq_nil_of_le]
  have e3 : ((mb (g, n, p, l) ++ r).drop 8).take 2 = be (plc (g, n, p, l)) 2 := by simp [mb, List.append_assoc, List.drop_append, List.take_append, be_len, List.drop_eq_nil_of_le]
  have e4 : placeIn (mb (g, n, p, l) ++ r) = (num32 (be (plc (g, n, p, l)) 2)).setWidth 16 := by unfold placeIn; rw [e3]
  have hpl : (plc (g, n, p, l)).toNat = if l then p.toNat + 32768 else p.toNat := by
    unfold plc
    cases l
    · simp only [Bool.false_eq_true, if_false, BitVec.toNat_setWidth]
      omega
    · simp only [if_true, BitVec.toNat_add, BitVec.toNat_setWidth]
      rw [show (32768#32).toNat = 32768 from rfl]
      omega
  have e5 : (placeIn (mb (g, n, p, l) ++ r)).toNat = if l then p.toNat + 32768 else p.toNat := by
    rw [e4, BitVec.toNat_setWidth, num_be2, hpl]
    cases l
    · simp only [Bool.false_eq_true, if_false]; omega
    · simp only [if_true]; omega
  unfold markIn
  rw [e1, e2, num_be4, num_be4, e5]
  have e6 : placeIn (mb (g, n, p, l) ++ r) % 32768#16 = p := by
    apply BitVec.eq_of_toNat_eq
    rw [BitVec.toNat_umod, e5, show (32768#16).toNat = 32768 from rfl]
    cases l
    · simp only [Bool.false_eq_true, if_false]; omega
    · simp only [if_true]; omega
  rw [e6]
  cases l
  · simp only [Bool.false_eq_true, if_false]
    rw [decide_eq_false (by omega)]
  · simp only [if_true]
    rw [decide_eq_true (by omega)]
theorem block_mark {m : Mk} (h : okM m) (part : Bk) : markIn (blockOf m part) = m := by
  unfold blockOf
  simp only [List.append_assoc]
  exact mark_mb h _
theorem block_back {m : Mk} (h : okM m) {part : Bk} (hp : part.length ≤ 42) : markIn ((blockOf m part).drop 54) = m := by
  have e : (blockOf m part).drop 54 = mb m ++ [] := by
    unfold blockOf
    rw [List.drop_append, List.drop_eq_nil_of_le (by simp only [List.length_append, mb_len, be_len, List.length_replicate]; omega)]
    simp only [List.length_append, mb_len, be_len, List.length_replicate]
    rw [show 54 - (10 + 2 + part.length + (42 - part.length)) = 0 by omega]
    simp
  rw [e]
  exact mark_mb h _
theorem block_cnt {m : Mk} {part : Bk} (hp : part.length ≤ 42) : cnt (blockOf m part) = part.length := by
  have e : ((blockOf m part).drop 10).take 2 = be (BitVec.ofNat 32 part.length) 2 := by
    unfold blockOf
    simp only [List.append_assoc]
    rw [List.drop_append_of_le_length (by rw [mb_len]; decide), List.drop_of_length_le (by rw [mb_len]; decide), List.nil_append, List.take_append_of_le_length (by rw [be_len]; decide), List.take_of_length_le (by rw [be_len]; decide)]
  unfold cnt
  rw [e, num_be2, BitVec.toNat_ofNat]
  omega
theorem block_part {m : Mk} {part : Bk} (hp : part.length ≤ 42) : partOf (blockOf m part) = part := by
  unfold partOf
  rw [block_cnt hp]
  unfold blockOf
  simp only [List.append_assoc]
  rw [← List.append_assoc (mb m), List.drop_append_of_le_length (by rw [List.length_append, mb_len, be_len]; decide), List.drop_of_length_le (by rw [List.length_append, mb_len, be_len]; decide), List.nil_append, List.take_append_of_le_length (Nat.le_refl _), List.take_of_length_le (Nat.le_refl _)]
theorem block_whole {m : Mk} (h : okM m) {part : Bk} (hp : part.length ≤ 42) (hl : part.length = 42 ∨ m.2.2.2 = true) : wholeB (blockOf m part) = true := by
  unfold wholeB
  rw [block_mark h, block_back h hp, block_cnt hp]
  rcases hl with hl | hl <;> simp [hl] <;> omega

/-! ### records -/
def nb (n : Nat) : Nat := max 1 (n / 42 + min 1 (n % 42))
theorem nb_pos (n : Nat) : 0 < nb n := by unfold nb; omega
theorem nb_le (n : Nat) : n ≤ nb n * 42 := by unfold nb; omega
theorem nb_lt {n i : Nat} (h : i + 1 < nb n) : (i + 1) * 42 < n := by unfold nb at h; omega
def mk1 (g : BitVec 32) (r : Nat) (n i : Nat) : Mk := (g, BitVec.ofNat 32 r, BitVec.ofNat 16 i, decide (i + 1 = n))
def chunk (rec : Bk) (i : Nat) : Bk := (rec.drop (i * 42)).take 42
def blk (g : BitVec 32) (r : Nat) (rec : Bk) (i : Nat) : Bk := blockOf (mk1 g r (nb rec.length) i) (chunk rec i)
def blks (g : BitVec 32) (r : Nat) (rec : Bk) : List Bk := (List.range (nb rec.length)).map (blk g r rec)
/-- a record of a number, and how many blocks it takes; its blocks come first -/
def rd (g : BitVec 32) (r : Nat) : List Bk → Nat → Bk → Option (Bk × Nat)
  | [], _, _ => none
  | b :: bs, p, acc => if wholeB b = true ∧ markIn b = (g, BitVec.ofNat 32 r, BitVec.ofNat 16 p, (markIn b).2.2.2) then
      (if (markIn b).2.2.2 then some (acc ++ partOf b, p + 1) else rd g r bs (p + 1) (acc ++ partOf b)) else none
theorem rd_le {g : BitVec 32} {r : Nat} : ∀ {bs : List Bk} {p : Nat} {acc rec : Bk} {k : Nat}, rd g r bs p acc = some (rec, k) → p < k ∧ k ≤ p + bs.length
  | [], _, _, _, _, h => by simp [rd] at h
  | b :: bs, p, acc, rec, k, h => by
    unfold rd at h
    split at h
    · split at h
      · simp only [Option.some.injEq, Prod.mk.injEq] at h
        simp only [List.length_cons]
        omega
      · have := rd_le h
        simp only [List.length_cons]
        omega
    · cases h
def toldN (g : BitVec 32) : Nat → List Bk → Nat → List Bk
  | 0, _, _ => []
  | f + 1, bs, n => match rd g n bs 0 [] with
    | some (rec, k) => rec :: toldN g f (bs.drop k) (n + 1)
    | none => []
def told (g : BitVec 32) (bs : List Bk) : List Bk := toldN g (bs.length + 1) bs 0
theorem chunk_len {rec : Bk} (i : Nat) : (chunk rec i).length = min 42 (rec.length - i * 42) := by simp [chunk]
theorem rd_write {g : BitVec 32} {r : Nat} {rec : Bk} (hn : nb rec.length ≤ 32768) (rest : List Bk) : ∀ (d p : Nat), p + d + 1 = nb rec.length →
    rd g r (((List.range (nb rec.length)).drop p).map (blk g r rec) ++ rest) p (rec.take (p * 42)) = some (rec, nb rec.length) := by
  intro d
  induction d with
  | zero =>
    intro p hp
    have hp1 : p < nb rec.length := by omega
    have e : (List.range (nb rec.length)).drop p = p :: (List.range (nb rec.length)).drop (p + 1) := by
      rw [List.drop_eq_getElem_cons (by simpa using hp1)]
      simp
    have hc : (chunk rec p).length ≤ 42 := by rw [chunk_len]; omega
    have hok : okM (mk1 g r (nb rec.length) p) := by
      show (BitVec.ofNat 16 p).toNat < 32768
      rw [BitVec.toNat_ofNat]
      omega
    have hl : (mk1 g r (nb rec.length) p).2.2.2 = true := decide_eq_true (by omega)
    have hm : markIn (blk g r rec p) = mk1 g r (nb rec.length) p := block_mark hok _
    rw [e, List.map_cons, List.cons_append, rd, if_pos ⟨block_whole hok hc (.inr hl), by rw [hm]; rfl⟩, hm, hl, if_pos rfl]
    have hpt : partOf (blk g r rec p) = chunk rec p := block_part hc
    rw [hpt]
    have hle := nb_le rec.length
    have : rec.take (p * 42) ++ chunk rec p = rec := by
      unfold chunk
      rw [List.take_of_length_le (by rw [List.length_drop]; omega : (rec.drop (p * 42)).length ≤ 42), List.take_append_drop]
    rw [this]
    congr 2
  | succ d ih =>
    intro p hp
    have hp1 : p < nb rec.length := by omega
    have e : (List.range (nb rec.length)).drop p = p :: (List.range (nb rec.length)).drop (p + 1) := by
      rw [List.drop_eq_getElem_cons (by simpa using hp1)]
      simp
    have hlt := nb_lt (n := rec.length) (i := p) (by omega)
    have hc : (chunk rec p).length = 42 := by rw [chunk_len]; omega
    have hok : okM (mk1 g r (nb rec.length) p) := by
      show (BitVec.ofNat 16 p).toNat < 32768
      rw [BitVec.toNat_ofNat]
      omega
    have hl : (mk1 g r (nb rec.length) p).2.2.2 = false := decide_eq_false (by omega)
    have hm : markIn (blk g r rec p) = mk1 g r (nb rec.length) p := block_mark hok _
    rw [e, List.map_cons, List.cons_append, rd, if_pos ⟨block_whole hok (by omega) (.inl hc), by rw [hm]; rfl⟩, hm, hl, if_neg (by decide)]
    have hpt : partOf (blk g r rec p) = chunk rec p := block_part (by omega)
    rw [hpt]
    have : rec.take (p * 42) ++ chunk rec p = rec.take ((p + 1) * 42) := by
      unfold chunk
      rw [Nat.succ_mul, List.take_add]
    rw [this]
    exact ih (p + 1) (by omega)
theorem rd_blks {g : BitVec 32} {r : Nat} {rec : Bk} (hn : nb rec.length ≤ 32768) (rest : List Bk) : rd g r (blks g r rec ++ rest) 0 [] = some (rec, nb rec.length) := by
  have h := rd_write (g := g) (r := r) hn rest (nb rec.length - 1) 0 (by have := nb_pos rec.length; omega)
  simpa [blks] using h
theorem blks_len (g : BitVec 32) (r : Nat) (rec : Bk) : (blks g r rec).length = nb rec.length := by simp [blks]
/-- all records' blocks, numbered from n on -/
def allB (g : BitVec 32) : Nat → List Bk → List Bk
  | _, [] => []
  | n, rec :: recs => blks g n rec ++ allB g (n + 1) recs
def room (recs : List Bk) : Nat := (recs.map fun r => nb r.length).sum
theorem allB_len (g : BitVec 32) : ∀ (n : Nat) (recs : List Bk), (allB g n recs).length = room recs
  | _, [] => rfl
  | n, rec :: recs => by
    rw [allB, List.length_append, blks_len, allB_len g (n + 1) recs]
    simp [room]
theorem allB_append (g : BitVec 32) : ∀ (n : Nat) (a b : List Bk), allB g n (a ++ b) = allB g n a ++ allB g (n + a.length) b
  | n, [], b => by simp [allB]
  | n, r :: a, b => by
    rw [List.cons_append, allB, allB, allB_append g (n + 1) a b, List.append_assoc, List.length_cons, show n + 1 + a.length = n + (a.length + 1) by omega]
theorem room_append (a b : List Bk) : room (a ++ b) = room a + room b := by simp [room]
theorem room_ge (recs : List Bk) : recs.length ≤ room recs := by
  induction recs with
  | nil => exact Nat.le_refl _
  | cons r recs ih =>
    have := nb_pos r.length
    simp only [room, List.map_cons, List.sum_cons, List.length_cons] at ih ⊢
    omega
theorem rd_other {g : BitVec 32} {r : Nat} {bs : List Bk} {p : Nat} {acc : Bk} (h : ∀ b ∈ bs, (markIn b).1 ≠ g) : rd g r bs p acc = none := by
  cases bs with
  | nil => rfl
  | cons b bs =>
    unfold rd
    rw [if_neg fun hh => h b (by simp) (by rw [hh.2])]
theorem toldN_all {g : BitVec 32} : ∀ (recs : List Bk) (f n : Nat) (rest : List Bk), recs.length < f → (∀ b ∈ rest, (markIn b).1 ≠ g) → room recs ≤ 32768 → toldN g f (allB g n recs ++ rest) n = recs
  | [], f + 1, n, rest, _, h, _ => by
    show (match rd g n ([] ++ rest) 0 [] with | some (rec, k) => _ | none => _) = _
    rw [List.nil_append, rd_other h]
  | rec :: recs, f + 1, n, rest, hf, h, hr => by
    have hr' : nb rec.length + room recs ≤ 32768 := by simpa [room] using hr
    show (match rd g n (blks g n rec ++ allB g (n + 1) recs ++ rest) 0 [] with | some (rec, k) => _ | none => _) = _
    rw [List.append_assoc, rd_blks (by omega)]
    show rec :: toldN g f ((blks g n rec ++ allB g (n + 1) recs ++ rest).drop (nb rec.length)) (n + 1) = _
    rw [List.append_assoc, List.drop_left' (blks_len _ _ _), toldN_all recs f (n + 1) rest (by simpa using hf) h (by omega)]
/-- what is written is told -/
theorem told_all {g : BitVec 32} {recs rest : List Bk} (h : ∀ b ∈ rest, (markIn b).1 ≠ g) (hr : room recs ≤ 32768) : told g (allB g 0 recs ++ rest) = recs :=
  toldN_all recs _ 0 rest (by have := room_ge recs; rw [List.length_append, allB_len]; omega) h hr
end Jrn
end Go.Proofs.Ytjkncnbpaejamaa

/-
  Of no statement by itself: numbers as bytes, that of the greatest weight first, by definition; what is written is read.
  Conditions: each theorem's own.
-/
namespace Go.Proofs.Ytjkncnbpaejamaa
namespace Jrn
open Dsk
def num64 (l : Bk) : BitVec 64 := l.foldl (fun (n : BitVec 64) (c : BitVec 8) => (n <<< 8) ||| c.setWidth 64) 0
def be64 (n : BitVec 64) (size : Nat) : Bk := (List.range size).map fun i => (n >>> (8 * (size - 1 - i))).setWidth 8
theorem be64_len (n : BitVec 64) (s : Nat) : (be64 n s).length = s := by simp [be64]
theorem w32_step (n : BitVec 64) (c : BitVec 8) : ((n <<< 8) ||| c.setWidth 64).setWidth 32 = (n.setWidth 32 <<< 8) ||| c.setWidth 32 := by
  ext i hi
  by_cases h : i < 8 <;> simp [BitVec.getLsbD_shiftLeft, h]
theorem num64_fold : ∀ (l : Bk) (n : BitVec 64), (l.foldl (fun (n : BitVec 64) (c : BitVec 8) => (n <<< 8) ||| c.setWidth 64) n).setWidth 32 = l.foldl (fun (n : BitVec 32) (c : BitVec 8) => (n <<< 8) ||| c.setWidth 32) (n.setWidth 32)
  | [], _ => rfl
  | c :: l, n => by
    simp only [List.foldl_cons]
    rw [num64_fold l, w32_step]
theorem num64_32 (l : Bk) : (num64 l).setWidth 32 = num32 l := num64_fold l 0
theorem num64_16 (l : Bk) : (num64 l).setWidth 16 = (num32 l).setWidth 16 := by
  rw [← num64_32]
  ext i hi
  simp
theorem or_shift64 {n : BitVec 64} {c : BitVec 8} (h : n.toNat < 72057594037927936) : ((n <<< 8) ||| c.setWidth 64).toNat = 256 * n.toNat + c.toNat := by
  rw [BitVec.toNat_or, BitVec.toNat_shiftLeft, BitVec.toNat_setWidth]
  have hc := c.isLt
  rw [Nat.mod_eq_of_lt (by omega : c.toNat < 2 ^ 64), Nat.shiftLeft_eq, Nat.mod_eq_of_lt (by omega)]
  have := Nat.two_pow_add_eq_or_of_lt (i := 8) (b := c.toNat) hc n.toNat
  rw [Nat.mul_comm n.toNat (2 ^ 8), ← this]
theorem num64_foldN : ∀ (l : Bk) (n : BitVec 64) (k : Nat), n.toNat < 256 ^ k → k + l.length ≤ 8 → (l.foldl (fun (n : BitVec 64) (c : BitVec 8) => (n <<< 8) ||| c.setWidth 64) n).toNat = l.foldl (fun (n : Nat) (c : BitVec 8) => 256 * n + c.toNat) n.toNat ∧ l.foldl (fun (n : Nat) (c : BitVec 8) => 256 * n + c.toNat) n.toNat < 256 ^ (k + l.length)
  | [], n, k, h, _ => ⟨rfl, h⟩
  | c :: l, n, k, h, hl => by
    simp only [List.length_cons] at hl
    have hk : 256 ^ k ≤ 256 ^ 7 := Nat.pow_le_pow_right (by decide) (by omega)
    have hs := or_shift64 (n := n) (c := c) (by omega)
    have hc := c.isLt
    have hlt : ((n <<< 8) ||| c.setWidth 64).toNat < 256 ^ (k + 1) := by rw [hs, Nat.pow_succ]; omega
    have ih := num64_foldN l _ (k + 1) hlt (by omega)
    simp only [List.foldl_cons]
    rw [hs] at ih
    refine ⟨ih.1, ?_⟩
    have := ih.2
    simp only [List.length_cons]
    rwa [show k + (l.length + 1) = k + 1 + l.length by omega]
theorem num64_toNat {l : Bk} (h : l.length ≤ 8) : (num64 l).toNat = numB l := (num64_foldN l 0 0 (by decide) (by omega)).1
theorem w8_shift (n : BitVec 32) (k : Nat) : ((n.setWidth 64) >>> k).setWidth 8 = (n >>> k).setWidth 8 := by
  ext i hi
  simp
  intro h
  have := BitVec.lt_of_getLsbD h
  omega
theorem be64_32 (n : BitVec 32) (s : Nat) : be64 (n.setWidth 64) s = be n s := by
  unfold be64 be
  refine List.map_congr_left fun i _ => ?_
  exact w8_shift n _
theorem be64_nat {k : Nat} (h : k < 4294967296) (s : Nat) : be64 (BitVec.ofNat 64 k) s = be (BitVec.ofNat 32 k) s := by
  rw [← be64_32]
  congr 1
  apply BitVec.eq_of_toNat_eq
  simp only [BitVec.toNat_setWidth, BitVec.toNat_ofNat]
  omega
/-- a number below 2^16 in two bytes, below 2^32 in four, below 2^64 in eight -/
theorem numB_be2 {k : Nat} (h : k < 65536) : numB (be (BitVec.ofNat 32 k) 2) = k := by rw [be2, BitVec.toNat_ofNat]; omega
theorem numB_be4 {k : Nat} (h : k < 4294967296) : numB (be (BitVec.ofNat 32 k) 4) = k := by rw [be4, BitVec.toNat_ofNat]; omega
end Jrn
end Go.Proofs.Ytjkncnbpaejamaa

/-
  Of no statement by itself: the landed package number: Read, Append.
  Conditions: each theorem's own.
-/
namespace Go.Proofs.Ytjkncnbpaejamaa
set_option maxRecDepth 10000
open Sl Jrn
abbrev Bs := List Bt
theorem goes_numRead : Goes Try.prog 72 := ⟨_, Try.func72, rfl, by kernel_rfl⟩
set_option maxHeartbeats 4000000 in
theorem numRead_any (s : Sl8) (w : World) (hs : s.ok w) (hl : s.l.length ≤ 1000000) : Calls Try.prog 72 [s.v].toArray w fun e w' => e = .returned (U64 (num64 s.l)) ∧ Ext w w' := by
  refine enter (n := 19) Try.func72 rfl rfl rfl (Holds.start w []) ?_
  repeat (first | refine JL.q (by first | (apply OQ.len (k := s.l.length) (ad := s.ad) (cap := s.cap); exact Try.underlying33; exact rfl) | (apply OQ.move; exact rfl) | (apply OQ.assign; exact rfl)) rfl ?_ | refine JC.seq ?_ | refine JC.region ?_ | refine JC.block ?_ | refine JL.nil ?_ | refine JE.next ?_)
  refine JC.loop (fun i : Nat => [(6, s.v), (7, N s.l.length), (8, N i), (3, U64 (num64 (s.l.take i)))]) (fun _ => []) (fun i => s.l.length - i) (fun i => i ≤ s.l.length) 0 (Nat.zero_le _) (by repeat (first | exact SubE.nil | refine SubE.cons _ _ _ rfl ?_)) (Less.refl _) ?_
  intro i hi
  repeat (first | refine JL.q (by (apply OQ.lssN; exact rfl; exact rfl)) rfl ?_ | refine JC.seq ?_ | refine JC.region ?_ | refine JL.nil ?_ | refine JE.next ?_)
  refine JC.cond rfl (fun h => ?_) (fun h => ?_)
  · have hi' : i < s.l.length := by have := of_decide_eq_true h; omega
    clear h
    obtain ⟨b, j, hae, hca⟩ := hs.reads.at (by simp; omega)
    have hca := hca i _ (map_at U8 0 hi')
    have hsv : s.v = .slice (some ⟨b, j, none⟩) s.l.length s.cap := by rw [← hae]; rfl
    have e : num64 (s.l.take (i + 1)) = (num64 (s.l.take i) <<< 8) ||| (s.l.getD i 0).setWidth 64 := by
      rw [List.take_succ_eq_append_getElem hi']
      unfold num64
      rw [List.foldl_append]
      simp [hi']
    rw [hsv]
    repeat (first | refine JL.q (by first | (apply OQ.idxS1; exact Try.underlying33; exact u8s; exact rfl; exact rfl; exact hi') | (apply OQ.load_old; exact u8c; exact rfl; exact (block_lt_of_cell hca); exact (by simp); exact hca) | (apply OQ.shl64 (k := 8); exact rfl; exact rfl) | (apply OQ.conv8_64; exact Try.underlying5; exact Try.underlying119; exact rfl) | (apply OQ.or64; exact rfl; exact rfl) | (apply OQ.move; exact rfl) | (apply OQ.assign; exact rfl) | (apply OQ.addN; exact rfl; exact rfl; exact (by (try simp only []); omega))) rfl ?_ | refine JC.seq ?_ | refine JC.region ?_ | refine JC.block ?_ | refine JC.skip ?_ | refine JL.nil ?_ | refine JE.next ?_ | refine JE.blk_normal ?_)
    rw [← hsv, ← e]
    exact JE.again (i := i) (i + 1) hi' (by omega) (by repeat (first | exact SubE.nil | refine SubE.cons _ _ _ rfl ?_)) (Less.refl _)
  · have hi' : i = s.l.length := by have := of_decide_eq_false h; omega
    subst hi'
    rw [List.take_length]
    repeat (first | refine JL.q (by first | (apply OQ.move; exact rfl) | (apply OQ.assign; exact rfl)) rfl ?_ | refine JC.seq ?_ | refine JC.region ?_ | refine JC.exit ?_ | refine JL.nil ?_ | refine JE.next ?_ | refine JE.then_exit ?_ | refine JE.blk_hit ?_)
    exact JC.ret (JE.ret1 rfl (RV.tmp rfl) fun w' hw => ⟨rfl, hw.chg⟩)
theorem goes_numApp : Goes Try.prog 61 := ⟨_, Try.func61, rfl, by kernel_rfl⟩
theorem be64_take (n : BitVec 64) {size i : Nat} (h : i < size) : (be64 n size).take (i + 1) = (be64 n size).take i ++ [(n >>> (8 * (size - 1 - i))).setWidth 8] := by
  rw [List.take_succ_eq_append_getElem (by rw [be64_len]; exact h)]
  simp [be64]
set_option maxHeartbeats 8000000 in
theorem numApp_any (q : Acc) (xs : Bs) (n : BitVec 64) (size : Nat) (h0 : 0 < size) (h4 : size ≤ 8) (hq : q = none → xs = []) (hl : xs.length ≤ 70000000000000) (w : World) (hw : Holds w (keys (accE 5 q (xs.map U8))) (accE 5 q (xs.map U8)) w) :
    Calls Try.prog 61 [accV q xs.length, U64 n, N size].toArray w fun e w' => ∃ r : Nat × Nat, e = .returned (accV (some r) (xs ++ be64 n size).length) ∧ Holds w (keys (accE 5 q (xs.map U8))) (accE 5 (some r) ((xs ++ be64 n size).map U8)) w' := by
  generalize keys (accE 5 q (xs.map U8)) = S at hw ⊢
  refine enter (n := 25) Try.func61 rfl rfl rfl hw ?_
  repeat (first | refine JL.q (by first | (apply OQ.move; exact rfl) | (apply OQ.assign; exact rfl)) rfl ?_ | refine JC.seq ?_ | refine JC.region ?_ | refine JC.block ?_ | refine JL.nil ?_ | refine JE.next ?_)
  refine JC.loop (fun z : Nat × Acc => [(0, accV z.2 (xs ++ (be64 n size).take z.1).length), (1, U64 n), (2, N size), (8, N size), (9, N z.1)]) (fun z => accE 5 z.2 ((xs ++ (be64 n size).take z.1).map U8)) (fun z => size - z.1) (fun z => z.1 ≤ size ∧ (z.2 = none → xs ++ (be64 n size).take z.1 = [] ∧ z.1 = 0)) (0, q) ⟨Nat.zero_le _, fun e => ⟨by rw [hq e]; rfl, rfl⟩⟩ (by rw [List.take_zero, List.append_nil]; exact (by repeat (first | exact SubE.nil | refine SubE.cons _ _ _ rfl ?_))) (by rw [List.take_zero, List.append_nil]; exact Less.refl _) ?_
  rintro ⟨i, q⟩ ⟨hi, hq2⟩
  dsimp only at hi hq2 ⊢
  repeat (first | refine JL.q (by (apply OQ.lssN; exact rfl; exact rfl)) rfl ?_ | refine JC.seq ?_ | refine JC.region ?_ | refine JL.nil ?_ | refine JE.next ?_)
  refine JC.cond rfl (fun h => ?_) (fun h => ?_)
  · have hi' : i < size := by have := of_decide_eq_true h; omega
    clear h
    have et := be64_take n hi'
    generalize hys : xs ++ (be64 n size).take i = ys at hq2 ⊢
    have hy2 : xs ++ (be64 n size).take (i + 1) = ys ++ [(n >>> (8 * (size - 1 - i))).setWidth 8] := by rw [et, ← List.append_assoc, hys]
    have hyl : ys.length ≤ 70000000000008 := by rw [← hys, List.length_append, List.length_take, be64_len]; omega
    repeat (first | refine JL.q (by first | (apply OQ.mulN (a := 8); exact rfl; exact rfl; exact (by omega)) | (apply OQ.shr64 (k := 8 * (size - 1 - i)); exact rfl; exact rfl) | (apply OQ.conv64_8; exact Try.underlying119; exact Try.underlying5; exact rfl) | (apply OQ.move; exact rfl) | (apply OQ.assign; exact rfl) | (apply OQ.subN; exact rfl; exact rfl; exact (by (try simp only []); omega); exact (by (try simp only []); omega))) rfl ?_ | refine JC.seq ?_ | refine JC.region ?_ | refine JC.block ?_ | refine JC.skip ?_ | refine JL.nil ?_ | refine JE.next ?_)
    refine JL.lit1 Try.underlying33 u8e rfl rfl rfl rfl fun bl _ => ?_
    refine JL.perm (M' := accE 5 q (ys.map U8) ++ [⟨bl, Row 5 [U8 ((n >>> (8 * (size - 1 - i))).setWidth 8)], true⟩]) ?_ (by exact (List.perm_append_singleton _ _).symm)
    refine JL.appendQ (xs := ys.map U8) (cs := [U8 ((n >>> (8 * (size - 1 - i))).setWidth 8)]) (m := 1) (ad := some ⟨bl, 0, none⟩) (sc := 1) q Try.underlying33 u8e (fun e => by rw [(hq2 e).1]; rfl) (by rw [List.length_map]; rfl) rfl rfl (fun w' hw' => ?_) (by simp [Value.oneCell']) rfl (by rw [List.length_map]; omega) (by rw [List.length_map]; omega) rfl fun q' hq' => ?_
    · obtain ⟨o, ho, hA⟩ := hw'.get (b := bl) (A := Row 5 [U8 ((n >>> (8 * (size - 1 - i))).setWidth 8)]) (wr := true) (hasR .here)
      exact Reads.block ho (Row.all o hA)
    have e2 : ys.map U8 ++ [U8 ((n >>> (8 * (size - 1 - i))).setWidth 8)] = (xs ++ (be64 n size).take (i + 1)).map U8 := by rw [hy2]; simp
    rw [e2] at hq' ⊢
    rw [List.length_map]
    repeat (first | refine JL.q (by first | (apply OQ.move; exact rfl) | (apply OQ.assign; exact rfl) | (apply OQ.addN; exact rfl; exact rfl; exact (by (try simp only []); omega))) rfl ?_ | refine JC.region ?_ | refine JL.nil ?_ | refine JE.next ?_ | refine JE.blk_normal ?_)
    refine JE.again (i := (i, q)) (i + 1, q') ⟨hi', fun e => absurd (hq' e) (by rw [hy2]; simp)⟩ (by dsimp only; omega) (by repeat (first | exact SubE.nil | refine SubE.cons _ _ _ rfl ?_)) (less_pre _ _)
  · have hi' : i = size := by have := of_decide_eq_false h; omega
    subst hi'
    cases q with
    | none => have := (hq2 rfl).2; omega
    | some r =>
      rw [List.take_of_length_le (by rw [be64_len]; exact Nat.le_refl _)]
      repeat (first | refine JL.q (by first | (apply OQ.move; exact rfl) | (apply OQ.assign; exact rfl)) rfl ?_ | refine JC.seq ?_ | refine JC.region ?_ | refine JC.exit ?_ | refine JL.nil ?_ | refine JE.next ?_ | refine JE.then_exit ?_ | refine JE.blk_hit ?_)
      exact JC.ret (JE.ret1 rfl (RV.tmp rfl) fun w' hw => ⟨r, rfl, hw⟩)
section
variable {n : Nat} {w0 : World} {S : List Nat} {ops : Array Oper} {Q : Exit → Act → World → Prop} {l : List Oper} {E : Env} {M : List Ent} {C : World → Prop}
variable {dst : Option Tmp} {d : Nat} {ty t t' : TypeId} {pos : String} {aft : Array Edge} {g : Option (Nat × Bool)} {x x1 x2 x3 : Operand} {ats : Array TypeId} {P : Program}
theorem JL.numApp {q : Acc} {xs : Bs} {m : BitVec 64} {size : Nat} (h0 : 0 < size) (h4 : size ≤ 8) (hq : q = none → xs = []) (hl : xs.length ≤ 70000000000000) (e1 : ev E x1 = some (accV q xs.length)) (e2 : ev E x2 = some (U64 m)) (e3 : ev E x3 = some (N size)) (hd : Nat.blt d n = true)
    (kk : ∀ r : Nat × Nat, JL Try.prog n w0 S ops Q l ((d, accV (some r) (xs ++ be64 m size).length) :: E) (accE 5 (some r) ((xs ++ be64 m size).map U8) ++ M)) : JL Try.prog n w0 S ops Q (⟨some d, .call ⟨.value (.func 61), #[x1, x2, x3], ats⟩, ty, pos, aft, none⟩ :: l) E (accE 5 q (xs.map U8) ++ M) :=
  JL.callW (ι := Nat × Nat) (xs := [x1, x2, x3]) (vs := [accV q xs.length, U64 m, N size]) (fun r => accV (some r) (xs ++ be64 m size).length) (fun r => accE 5 (some r) ((xs ++ be64 m size).map U8)) goes_numApp (by simp [evs, e1, e2, e3]) hd (accE_wr _ _ _) (fun _ => accE_wr _ _ _)
    (fun w hw => numApp_any q xs m size h0 h4 hq hl w (hw.weak (less_pre _ _))) kk
/-- as a number of 32 bits -/
theorem JL.numApp32 {q : Acc} {xs : Bs} {m : BitVec 32} {size : Nat} (h0 : 0 < size) (h4 : size ≤ 8) (hq : q = none → xs = []) (hl : xs.length ≤ 70000000000000) (e1 : ev E x1 = some (accV q xs.length)) (e2 : ev E x2 = some (U64 (m.setWidth 64))) (e3 : ev E x3 = some (N size)) (hd : Nat.blt d n = true)
    (kk : ∀ r : Nat × Nat, JL Try.prog n w0 S ops Q l ((d, accV (some r) (xs ++ be m size).length) :: E) (accE 5 (some r) ((xs ++ be m size).map U8) ++ M)) : JL Try.prog n w0 S ops Q (⟨some d, .call ⟨.value (.func 61), #[x1, x2, x3], ats⟩, ty, pos, aft, none⟩ :: l) E (accE 5 q (xs.map U8) ++ M) :=
  JL.numApp h0 h4 hq hl e1 e2 e3 hd (be64_32 m size ▸ kk)
theorem OQ.conv64_32 {d : TypeDesc} {a : BitVec 64} (hs : P.underlying t = some d) (hd : P.underlying t' = some (.int .u32)) (hx : ev E x = some (U64 a)) : OQ P n E C ⟨dst, .convert t t' x, ty, pos, aft, g⟩ (U32 (a.setWidth 32)) :=
  OQ.conv hs hd hx (by rw [wrap32]; simp [U32, BitVec.toNat_setWidth])
theorem OQ.conv32_64 {d : TypeDesc} {a : BitVec 32} (hs : P.underlying t = some d) (hd : P.underlying t' = some (.int .u64)) (hx : ev E x = some (U32 a)) : OQ P n E C ⟨dst, .convert t t' x, ty, pos, aft, g⟩ (U64 (a.setWidth 64)) :=
  OQ.conv hs hd hx (by rw [wrap64]; simp [U64, BitVec.toNat_setWidth])
end
end Go.Proofs.Ytjkncnbpaejamaa

/-
  Of no statement by itself: the landed journal's numbers and marks: blocksFor; rules for numbers of 16 bits.
  Conditions: each theorem's own.
-/
namespace Go.Proofs.Ytjkncnbpaejamaa
set_option maxRecDepth 10000
open Sl Dsk Jrn
@[reducible] def U16 (a : BitVec 16) : Value := .int .u16 a.toNat
section
variable {P : Program} {n : Nat} {E : Env} {C : World → Prop} {dst : Option Tmp} {t t' e ty : TypeId} {pos : String} {aft : Array Edge} {g : Option (Nat × Bool)} {x y z : Operand}
theorem wrap16 (a : Nat) : IntKind.u16.wrap (a : Int) = ((a % 65536 : Nat) : Int) := by simp [IntKind.wrap, IntKind.bits, IntKind.signed]
theorem OQ.conv64_16 {d : TypeDesc} {a : BitVec 64} (hs : P.underlying t = some d) (hd : P.underlying t' = some (.int .u16)) (hx : ev E x = some (U64 a)) : OQ P n E C ⟨dst, .convert t t' x, ty, pos, aft, g⟩ (U16 (a.setWidth 16)) :=
  OQ.conv hs hd hx (by rw [wrap16]; simp [U16, BitVec.toNat_setWidth])
theorem OQ.conv16_64 {d : TypeDesc} {a : BitVec 16} (hs : P.underlying t = some d) (hd : P.underlying t' = some (.int .u64)) (hx : ev E x = some (U16 a)) : OQ P n E C ⟨dst, .convert t t' x, ty, pos, aft, g⟩ (U64 (a.setWidth 64)) :=
  OQ.conv hs hd hx (by rw [wrap64]; simp [U64, BitVec.toNat_setWidth])
/-- what number.Read tells, as fewer bits -/
theorem OQ.numTo32 {d : TypeDesc} {l : Bk} (hs : P.underlying t = some d) (hd : P.underlying t' = some (.int .u32)) (hx : ev E x = some (U64 (num64 l))) : OQ P n E C ⟨dst, .convert t t' x, ty, pos, aft, g⟩ (U32 (num32 l)) :=
  num64_32 l ▸ OQ.conv64_32 hs hd hx
theorem OQ.numTo16 {d : TypeDesc} {l : Bk} (hs : P.underlying t = some d) (hd : P.underlying t' = some (.int .u16)) (hx : ev E x = some (U64 (num64 l))) : OQ P n E C ⟨dst, .convert t t' x, ty, pos, aft, g⟩ (U16 ((num32 l).setWidth 16)) :=
  num64_16 l ▸ OQ.conv64_16 hs hd hx
theorem OQ.numToN {d : TypeDesc} {l : Bk} (hs : P.underlying t = some d) (hd : P.underlying t' = some (.int .i64)) (hx : ev E x = some (U64 (num64 l))) (hl : l.length ≤ 4) : OQ P n E C ⟨dst, .convert t t' x, ty, pos, aft, g⟩ (N (num32 l).toNat) := by
  have h := numB_lt hl
  have : 256 ^ l.length ≤ 256 ^ 4 := Nat.pow_le_pow_right (by decide) hl
  rw [num_toNat hl, ← num64_toNat (by omega)]
  exact OQ.conv64_N hs hd hx (by rw [num64_toNat (by omega)]; omega)
theorem OQ.convN_16 {d : TypeDesc} {a : Nat} (hs : P.underlying t = some d) (hd : P.underlying t' = some (.int .u16)) (hx : ev E x = some (N a)) : OQ P n E C ⟨dst, .convert t t' x, ty, pos, aft, g⟩ (U16 (BitVec.ofNat 16 a)) :=
  OQ.conv hs hd hx (by rw [wrap16]; simp [U16])
theorem OQ.rem16 {a b : BitVec 16} (hx : ev E x = some (U16 a)) (hy : ev E y = some (U16 b)) (h : b.toNat ≠ 0) : OQ P n E C ⟨dst, .binOp .rem t x y t', ty, pos, aft, g⟩ (U16 (a % b)) :=
  OQ.bin hx hy rfl fun w => by
    have h4 : ((a.toNat : Int).tmod b.toNat) = ((a % b).toNat : Int) := by rw [Int.tmod_eq_emod_of_nonneg (by omega), BitVec.toNat_umod]; exact_mod_cast rfl
    have h5 : ¬ (b.toNat : Int) = 0 := by omega
    have h7 : Op.intDiv .rem .u16 (a.toNat : Int) b.toNat = (Pure.pure (.int .u16 ((a.toNat : Int).tmod b.toNat)) : Sem Value) := by simp only [Op.intDiv, if_neg h5]
    show Sem.run P (Op.intDiv .rem .u16 (a.toNat : Int) b.toNat) w = _
    rw [h7, h4]; rfl
theorem OQ.maxN {a c : Nat} (hx : ev E x = some (N a)) (hy : ev E y = some (N c)) : OQ P n E C ⟨dst, .call ⟨.builtin .max, #[x, y], #[t, t']⟩, ty, pos, aft, g⟩ (N (max a c)) :=
  OQ.run fun ac ha w _ => by
    have h1 := ha.eval hx
    have h2 := ha.eval hy
    have h3 : (if a < c then (c : Int) else (a : Int)) = ((max a c : Nat) : Int) := by split <;> omega
    simp [execOp, h1, h2, resolve, invoke, builtin, Builtin.max_, Builtin.max2, Sem.run_bind, N]
    exact h3
/-- x[lo:hi] of bytes -/
def Sl8.sub (s : Sl8) (lo hi : Nat) : Sl8 := ⟨if s.cap = lo then s.ad else s.ad.map (·.add (lo * 1)), s.cap - lo, (s.l.take hi).drop lo⟩
theorem Sl8.ok.sub {s : Sl8} {w : World} (h : s.ok w) {lo hi : Nat} (h1 : lo ≤ hi) (h2 : hi ≤ s.l.length) : (s.sub lo hi).ok w := by
  have hc := h.len
  refine ⟨by show ((s.l.take hi).drop lo).length ≤ s.cap - lo; rw [List.length_drop, List.length_take]; omega, ?_⟩
  have hr := h.reads.take hi
  rw [← List.map_take] at hr
  have := hr.drop (len := hi) (cap := s.cap) (lo := lo) (by rw [List.length_map, List.length_take]; omega) (by omega) h1
  rwa [← List.map_drop] at this
theorem OQ.sub8 {s : Sl8} {lo hi : Nat} (hu : P.underlying t = some (.slice e)) (hz : szT P e = some 1) (hx : ev E x = some s.v) (hl : ev E y = some (N lo)) (hh : ev E z = some (N hi)) (h1 : lo ≤ hi) (h2 : hi ≤ s.l.length) (hc : s.l.length ≤ s.cap) :
    OQ P n E C ⟨dst, .slice t x (some y) (some z) none, ty, pos, aft, g⟩ (s.sub lo hi).v :=
  OQ.to (OQ.slS_lohi (ad := s.ad) (len := s.l.length) (cap := s.cap) hu hz hx hl hh h1 (by omega)) (by
    have : ((s.l.take hi).drop lo).length = hi - lo := by rw [List.length_drop, List.length_take]; omega
    simp only [Sl8.v, Sl8.sub, this])
end
theorem u32C : scal Try.prog 100 = true := by kernel_rfl
theorem u321 : szT Try.prog 100 = some 1 := by kernel_rfl
theorem u16C : scal Try.prog 129 = true := by kernel_rfl
theorem boolC : scal Try.prog 4 = true := by kernel_rfl
def mkc (m : Mk) : List Value := [U32 m.1, U32 m.2.1, U16 m.2.2.1, .bool m.2.2.2]
theorem mk4 : szT Try.prog 131 = some 4 := by kernel_rfl
theorem mkAg : aggT Try.prog 131 = true := by kernel_rfl
theorem mkZ : zc Try.prog 131 = some (mkc (0, 0, 0, false)) := by kernel_rfl
theorem OQ.buildM {n : Nat} {E : Env} {C : World → Prop} {dst : Option Tmp} {ty : TypeId} {pos : String} {aft : Array Edge} {g : Option (Nat × Bool)} {x1 x2 x3 x4 : Operand} {m : Mk} (h1 : ev E x1 = some (U32 m.1)) (h2 : ev E x2 = some (U32 m.2.1)) (h3 : ev E x3 = some (U16 m.2.2.1)) (h4 : ev E x4 = some (.bool m.2.2.2)) :
    OQ Try.prog n E C ⟨dst, .build 131 #[(0, x1), (1, x2), (2, x3), (3, x4)], ty, pos, aft, g⟩ (.agg (mkc m).toArray) :=
  OQ.run fun a ha w _ => by
    have e1 := ha.eval h1
    have e2 := ha.eval h2
    have e3 := ha.eval h3
    have e4 := ha.eval h4
    have r := run_build (P := Try.prog) w 131 #[(0, U32 m.1), (1, U32 m.2.1), (2, U16 m.2.2.1), (3, .bool m.2.2.2)] (mkc m).toArray (by kernel_rfl)
    simp [execOp, e1, e2, e3, e4, r]
theorem goes_bfor : Goes Try.prog 48 := ⟨_, Try.func48, rfl, by kernel_rfl⟩
theorem bfor_any (n : Nat) (hn : n < 4611686018427387904) (w : World) : Calls Try.prog 48 [N n].toArray w fun e w' => e = .returned (N (nb n)) ∧ Ext w w' := by
  refine enter (n := 10) Try.func48 rfl rfl rfl (Holds.start w []) ?_
  repeat (first | refine JL.q (by first | (apply OQ.quoN (b := 42); exact rfl; exact rfl; exact (by decide); exact (by omega)) | (apply OQ.remN (b := 42); exact rfl; exact rfl; exact (by decide)) | (apply OQ.minN (a := 1); exact rfl; exact rfl) | (apply OQ.addN (a := n / 42); exact rfl; exact rfl; exact (by omega)) | (apply OQ.maxN (a := 1); exact rfl; exact rfl) | (apply OQ.move; exact rfl) | (apply OQ.assign; exact rfl)) rfl ?_ | refine JC.seq ?_ | refine JC.region ?_ | refine JL.nil ?_ | refine JE.next ?_)
  exact JC.ret (JE.ret1 rfl (RV.tmp rfl) fun w' hw => ⟨rfl, hw.chg⟩)
end Go.Proofs.Ytjkncnbpaejamaa

/-
  Of no statement by itself: what despatchlaw14's DiskTorn gives.
  Conditions: each theorem's own.
-/
namespace Go.Proofs.Ytjkncnbpaejamaa
set_option maxRecDepth 10000
open Sl Dsk
def b7 : Bk := 7#8 :: List.replicate 63 0
theorem newB_len (n : Nat) : (newB n).length = n := List.length_replicate
theorem drop1 {w0 w : World} {S : List Nat} {e : Ent} {M : List Ent} (h : Holds w0 S (e :: M) w) : Holds w0 S M w := h.weak (.drop _ _ _ (Less.refl _))
end Go.Proofs.Ytjkncnbpaejamaa

/-
  Of no statement by itself: two marks compared; slices of a block's bytes.
  Conditions: each theorem's own.
-/
namespace Go.Proofs.Ytjkncnbpaejamaa
set_option maxRecDepth 10000
open Sl Dsk Jrn
section
variable {n : Nat} {E : Env} {C : World → Prop} {dst : Option Tmp} {t t' e ty : TypeId} {pos : String} {aft : Array Edge} {g : Option (Nat × Bool)} {x y z : Operand}
theorem gdMk : Try.prog.eqGuardType Try.prog.depth 131 = false := by kernel_rfl
set_option maxHeartbeats 4000000 in
theorem OQ.neM {m m' : Mk} {r : Bool} (hx : ev E x = some (.agg (mkc m).toArray)) (hy : ev E y = some (.agg (mkc m').toArray)) (h : decide (m = m') = r) :
    OQ Try.prog n E C ⟨dst, .binOp .neq 131 x y t', ty, pos, aft, g⟩ (.bool (!r)) :=
  OQ.run fun k hk w _ => by
    have e1 := hk.eval hx
    have e2 := hk.eval hy
    have h4 := fun w => run_eqGuard_agg (P := Try.prog) (w := w) .neq 131 x y (mkc m).toArray (mkc m').toArray gdMk
    have h5 := fun w => run_neq_struct (P := Try.prog) (w := w) 131 (mkc m).toArray (mkc m').toArray
    have hf : Try.prog.fieldsOf 131 = match Try.prog.underlying 131 with | some (.struct fs) => fs | _ => #[] := by kernel_rfl
    have ei : ∀ (k : IntKind) (t : TypeId) (a b : Int) (w : World), Try.prog.underlying t = some (.int k) → (Op.equalIn 9999 t (.int k a) (.int k b)).run Try.prog w = .ok (a == b) w := fun k t a b w ht => run_equalIn_int (w := w) 9998 t k k a b ht
    have eb : ∀ (a b : Bool) (w : World), (Op.equalIn 9999 4 (.bool a) (.bool b)).run Try.prog w = .ok (a == b) w := fun a b w => run_equalIn_bool w 9998 _ a b Try.underlying4
    have p0 : ∀ (a b c d : Value) w, (part 100 #[a, b, c, d] 0).run Try.prog w = .ok a w := fun a b c d w => by simp [part, isAgg_scal u32C]
    have p1 : ∀ (a b c d : Value) w, (part 100 #[a, b, c, d] 1).run Try.prog w = .ok b w := fun a b c d w => by simp [part, isAgg_scal u32C]
    have p2 : ∀ (a b c d : Value) w, (part 129 #[a, b, c, d] 2).run Try.prog w = .ok c w := fun a b c d w => by simp [part, isAgg_scal u16C]
    have p3 : ∀ (a b c d : Value) w, (part 4 #[a, b, c, d] 3).run Try.prog w = .ok d w := fun a b c d w => by simp [part, isAgg_scal boolC]
    have h3 : (Op.equalIn 10000 131 (.agg (mkc m).toArray) (.agg (mkc m').toArray)).run Try.prog w = .ok r w := by
      rw [show (10000 : Nat) = 9999 + 1 from rfl, run_equalIn_struct (w := w) 9999 _ _ _ (by kernel_rfl) (by kernel_rfl), hf, Try.underlying131]
      subst h
      obtain ⟨g1, r1, q1, l1⟩ := m
      obtain ⟨g2, r2, q2, l2⟩ := m'
      have d1 : ((g1.toNat : Int) == (g2.toNat : Int)) = decide (g1 = g2) := by
        rw [Bool.eq_iff_iff, beq_iff_eq, decide_eq_true_eq]
        exact ⟨fun h => BitVec.eq_of_toNat_eq (by omega), fun h => by rw [h]⟩
      have d2 : ((r1.toNat : Int) == (r2.toNat : Int)) = decide (r1 = r2) := by
        rw [Bool.eq_iff_iff, beq_iff_eq, decide_eq_true_eq]
        exact ⟨fun h => BitVec.eq_of_toNat_eq (by omega), fun h => by rw [h]⟩
      have d3 : ((q1.toNat : Int) == (q2.toNat : Int)) = decide (q1 = q2) := by
        rw [Bool.eq_iff_iff, beq_iff_eq, decide_eq_true_eq]
        exact ⟨fun h => BitVec.eq_of_toNat_eq (by omega), fun h => by rw [h]⟩
      simp only [mkc, U32, U16, Op.eqFields, Sem.run_bind, p0, p1, p2, p3, Result.andThen_ok]
      by_cases c1 : g1 = g2 <;> by_cases c2 : r1 = r2 <;> by_cases c3 : q1 = q2 <;> by_cases c4 : l1 = l2 <;> simp [c1, c2, c3, c4, d1, d2, d3, ei _ _ _ _ _ Try.underlying100, ei _ _ _ _ _ Try.underlying129, eb, p0, p1, p2, p3, Op.eqFields, Sem.run_bind]
    simp only [execOp, e1, e2, Sem.run_bind, h4, Result.andThen_ok, h5, h3]
    rfl
end
end Go.Proofs.Ytjkncnbpaejamaa

/-
  Of no statement by itself: the landed journal's bytes, markIn, partIn, blockOf.
  Conditions: each theorem's own.
-/
namespace Go.Proofs.Ytjkncnbpaejamaa
set_option maxRecDepth 10000
open Sl Dsk Jrn
theorem plc_64 (m : Mk) : (plc m).setWidth 64 = if m.2.2.2 then m.2.2.1.setWidth 64 + 32768#64 else m.2.2.1.setWidth 64 := by
  have h := m.2.2.1.isLt
  unfold plc
  cases m.2.2.2
  · simp only [Bool.false_eq_true, if_false]
    apply BitVec.eq_of_toNat_eq
    simp only [BitVec.toNat_setWidth]
    omega
  · simp only [if_true]
    apply BitVec.eq_of_toNat_eq
    simp only [BitVec.toNat_setWidth, BitVec.toNat_add, BitVec.toNat_ofNat]
    omega
theorem goes_bytes : Goes Try.prog 87 := ⟨_, Try.func87, rfl, by kernel_rfl⟩
set_option maxHeartbeats 8000000 in
theorem bytes_any (m : Mk) (w : World) : Calls Try.prog 87 [.agg (mkc m).toArray].toArray w fun e w' => ∃ r : Nat × Nat, e = .returned (accV (some r) (mb m).length) ∧ Holds w [] (accE 5 (some r) ((mb m).map U8)) w' := by
  refine enter (n := 24) Try.func87 rfl rfl rfl (Holds.start w []) ?_
  repeat (first | refine JC.seq ?_ | refine JC.region ?_)
  refine JL.box (r := mkc m) rfl rfl rfl fun b1 _ => ?_
  repeat (first | refine JL.q (by first | (apply OQ.load; exact u16C; exact rfl; exact .here; exact (Row.cell (v := U16 m.2.2.1) rfl)) | (apply OQ.conv16_64; exact Try.underlying129; exact Try.underlying119; exact rfl) | (apply OQ.load; exact boolC; exact rfl; exact .here; exact (Row.cell (v := .bool m.2.2.2) rfl)) | (apply OQ.assign; exact rfl) | (apply OQ.fld; exact rfl; exact rfl; exact rfl; exact (by decide); exact rfl)) rfl ?_ | refine JC.seq ?_ | refine JC.region ?_ | refine JL.nil ?_ | refine JE.next ?_)
  refine JC.join (ι := Unit) (fun _ => [(1, Pt b1 0), (3, U64 ((plc m).setWidth 64))]) (fun _ => [⟨b1, Row 131 (mkc m), true⟩]) (fun _ => True) ?_ fun _ _ => ?_
  · refine JC.cond rfl (fun hl => ?_) (fun hl => ?_)
    · have e : (plc m).setWidth 64 = m.2.2.1.setWidth 64 + 32768#64 := by rw [plc_64, hl]; rfl
      rw [e]
      repeat (first | refine JL.q (by first | (apply OQ.add64 (b := 32768#64); exact rfl; exact rfl) | (apply OQ.move; exact rfl) | (apply OQ.assign; exact rfl)) rfl ?_ | refine JC.region ?_ | refine JL.nil ?_)
      exact JE.mid () trivial (by repeat (first | exact SubE.nil | refine SubE.cons _ _ _ rfl ?_)) (Less.refl _)
    · have e : (plc m).setWidth 64 = m.2.2.1.setWidth 64 := by rw [plc_64, hl]; rfl
      rw [e]
      repeat (refine JC.skip ?_)
      exact JE.mid () trivial (by repeat (first | exact SubE.nil | refine SubE.cons _ _ _ rfl ?_)) (Less.refl _)
  repeat (first | refine JL.q (by first | (apply OQ.load; exact u32C; exact rfl; exact .here; exact (Row.cell (v := U32 m.1) rfl)) | (apply OQ.conv32_64; exact Try.underlying100; exact Try.underlying119; exact rfl) | (apply OQ.fld; exact rfl; exact rfl; exact rfl; exact (by decide); exact rfl)) rfl ?_ | refine JC.seq ?_ | refine JC.region ?_)
  refine JL.numApp32 (q := none) (xs := []) (m := m.1) (size := 4) (M := [⟨b1, Row 131 (mkc m), true⟩]) (by decide) (by decide) (fun _ => rfl) (by decide) rfl rfl rfl rfl fun r1 => ?_
  repeat (first | refine JL.q (by first | (apply OQ.load; exact u32C; exact rfl; exact (.there .here); exact (Row.cell (v := U32 m.2.1) rfl)) | (apply OQ.conv32_64; exact Try.underlying100; exact Try.underlying119; exact rfl) | (apply OQ.move; exact rfl) | (apply OQ.assign; exact rfl) | (apply OQ.fld; exact rfl; exact rfl; exact rfl; exact (by decide); exact rfl)) rfl ?_ | refine JC.seq ?_ | refine JC.region ?_ | refine JL.nil ?_ | refine JE.next ?_)
  refine JL.numApp32 (q := some r1) (xs := be m.1 4) (m := m.2.1) (size := 4) (by decide) (by decide) nofun (by rw [be_len]; decide) rfl rfl rfl rfl fun r2 => ?_
  repeat (first | refine JL.q (by first | (apply OQ.move; exact rfl) | (apply OQ.assign; exact rfl)) rfl ?_ | refine JC.seq ?_ | refine JC.region ?_ | refine JL.nil ?_ | refine JE.next ?_)
  refine JL.numApp32 (q := some r2) (xs := be m.1 4 ++ be m.2.1 4) (m := plc m) (size := 2) (by decide) (by decide) nofun (by rw [List.length_append, be_len, be_len]; decide) rfl rfl rfl rfl fun r3 => ?_
  repeat (first | refine JL.q (by (apply OQ.assign; exact rfl)) rfl ?_ | refine JL.nil ?_ | refine JE.next ?_)
  exact JC.ret (JE.ret1 rfl (RV.tmp rfl) fun w' hw => ⟨r3, rfl, hw.weak (less_pre _ _)⟩)
theorem goes_markIn : Goes Try.prog 70 := ⟨_, Try.func70, rfl, by kernel_rfl⟩
set_option maxHeartbeats 8000000 in
theorem markIn_any (s : Sl8) (w : World) (hs : s.ok w) (h10 : 10 ≤ s.l.length) (hl : s.l.length ≤ 64) : Calls Try.prog 70 [s.v].toArray w fun e w' => e = .returned (.agg (mkc (markIn s.l)).toArray) ∧ Ext w w' := by
  have hc := hs.len
  have c8 := fun w' (ok : s.ok w') => numRead_any (s.sub 8 10) w' (ok.sub (by decide) h10) (by show ((s.l.take 10).drop 8).length ≤ _; rw [List.length_drop, List.length_take]; omega)
  have c4 := fun w' (ok : s.ok w') => numRead_any (s.sub 4 8) w' (ok.sub (by decide) (by omega)) (by show ((s.l.take 8).drop 4).length ≤ _; rw [List.length_drop, List.length_take]; omega)
  have c0 := fun w' (ok : s.ok w') => numRead_any (s.fst 4) w' (ok.fst 4) (by show (s.l.take 4).length ≤ _; rw [List.length_take]; omega)
  have e8 : (s.sub 8 10).l = (s.l.drop 8).take 2 := by show (s.l.take 10).drop 8 = _; rw [List.drop_take]
  have e4 : (s.sub 4 8).l = (s.l.drop 4).take 4 := by show (s.l.take 8).drop 4 = _; rw [List.drop_take]
  rw [e8] at c8
  rw [e4] at c4
  have hp : (num32 ((s.l.drop 8).take 2)).setWidth 16 = placeIn s.l := rfl
  have hm : markIn s.l = (num32 (s.l.take 4), num32 ((s.l.drop 4).take 4), placeIn s.l % 32768#16, decide ((32768 : Int) ≤ ((placeIn s.l).toNat : Int))) := by
    unfold markIn
    congr 3
    exact decide_eq_decide.2 (by omega)
  rw [hm]
  refine enter (n := 21) Try.func70 rfl rfl rfl (Holds.start w []) ?_
  repeat (first | refine JC.seq ?_ | refine JC.region ?_)
  refine JL.alloc mkZ rfl fun b2 _ => ?_
  repeat (first | refine JL.q (by first | (apply OQ.sub8 (s := s) (lo := 8) (hi := 10); exact Try.underlying33; exact u8s; exact rfl; exact rfl; exact rfl; exact (by decide); exact h10; exact hc) | (apply OQ.callx (vs := [(s.sub 8 10).v]); exact goes_numRead; exact rfl; exact (fun w' hw' => c8 w' (hs.holds hw' rfl))) | (apply OQ.numTo16; exact Try.underlying119; exact Try.underlying129; exact rfl) | (apply OQ.move; exact rfl) | (apply OQ.assign; exact rfl)) rfl ?_ | refine JC.seq ?_ | refine JC.region ?_ | refine JL.nil ?_ | refine JE.next ?_)
  refine JC.tail 13 mixT (by kernel_rfl) ?_
  simp only [List.take_succ_cons, List.take_zero, List.drop_succ_cons, List.drop_zero]
  rw [hp]
  generalize placeIn s.l = pl
  generalize hg3 : (decide ((32768 : Int) ≤ (pl.toNat : Int))) = g3
  repeat (first | refine JQ.q (by first | (apply OQ.fst (s := s) (m := 4); exact Try.underlying33; exact u8s; exact rfl; exact rfl; exact (by omega); exact hc) | (apply OQ.sub8 (s := s) (lo := 4) (hi := 8); exact Try.underlying33; exact u8s; exact rfl; exact rfl; exact rfl; exact (by decide); exact (by omega); exact hc) | (apply OQ.callx (vs := [(s.fst 4).v]); exact goes_numRead; exact rfl; exact (fun w' hw' => c0 w' (hs.holds hw' rfl))) | (apply OQ.callx (vs := [(s.sub 4 8).v]); exact goes_numRead; exact rfl; exact (fun w' hw' => c4 w' (hs.holds hw' rfl))) | (apply OQ.numTo32; exact Try.underlying119; exact Try.underlying100; exact rfl) | (apply OQ.rem16 (b := 32768#16); exact rfl; exact rfl; exact (by decide)) | (apply OQ.geqB (b := 32768); exact rfl; exact rfl; exact hg3) | (apply OQ.buildM (m := (num32 (s.l.take 4), num32 ((s.l.drop 4).take 4), pl % 32768#16, g3)); exact rfl; exact rfl; exact rfl; exact rfl) | (apply OQ.move; exact rfl)) rfl ?_ | refine JQ.nil_tail ?_)
  refine JL.store_all (cs := mkc (num32 (s.l.take 4), num32 ((s.l.drop 4).take 4), pl % 32768#16, g3)) mk4 rfl rfl rfl rfl .here rfl ?_
  repeat (first | refine JL.nil ?_ | refine JE.next ?_)
  exact JC.ret (JE.ret1 rfl (RV.cell_agg mkAg mk4 rfl .here rfl Row.all) fun w' hw => ⟨rfl, hw.chg⟩)
section
variable {P : Program} {n : Nat} {E : Env} {C : World → Prop} {dst : Option Tmp} {t ty e : TypeId} {pos : String} {aft : Array Edge} {g : Option (Nat × Bool)} {x y z : Operand} {b1 m : Nat} {b : Bk}
theorem OQ.slAll (hb : b.length = m) (hu : P.underlying t = some (.array m e)) (hz : szT P e = some 1) (hx : ev E x = some (Pt b1 0)) : OQ P n E C ⟨dst, .slice t x none none none, ty, pos, aft, g⟩ (⟨some ⟨b1, 0, none⟩, m, b⟩ : Sl8).v :=
  OQ.to (OQ.slA hu hz hx) (by simp [Sl8.v, hb])
theorem OQ.slMid {lo hi : Nat} (hb : b.length = m) (hu : P.underlying t = some (.array m e)) (hz : szT P e = some 1) (hx : ev E x = some (Pt b1 0)) (hl : ev E y = some (N lo)) (hh : ev E z = some (N hi)) (h1 : lo < m) (h2 : lo ≤ hi) (h3 : hi ≤ m) : OQ P n E C ⟨dst, .slice t x (some y) (some z) none, ty, pos, aft, g⟩ (⟨some ⟨b1, 0 + lo, none⟩, m - lo, (b.drop lo).take (hi - lo)⟩ : Sl8).v :=
  OQ.to (OQ.slA_lohi hu hz hx hl hh h1 h2 h3) (by
    have : ((b.drop lo).take (hi - lo)).length = hi - lo := by rw [List.length_take, List.length_drop]; omega
    simp only [Sl8.v, this])
theorem OQ.slEnd {lo : Nat} (hb : b.length = m) (hu : P.underlying t = some (.array m e)) (hz : szT P e = some 1) (hx : ev E x = some (Pt b1 0)) (hl : ev E y = some (N lo)) (h1 : lo < m) : OQ P n E C ⟨dst, .slice t x (some y) none none, ty, pos, aft, g⟩ (⟨some ⟨b1, 0 + lo, none⟩, m - lo, b.drop lo⟩ : Sl8).v :=
  OQ.to (OQ.slA_lo hu hz hx hl h1) (by
    have : (b.drop lo).length = m - lo := by rw [List.length_drop]; omega
    simp only [Sl8.v, this])
theorem mid_ok {w0 w : World} {S : List Nat} {M : List Ent} {e : TypeId} {wr : Bool} {lo k : Nat} (hw : Holds w0 S M w) (hM : Has M b1 (Row e (bc b)) wr) (hb : b.length = m) (h1 : lo ≤ m) (h2 : k ≤ m - lo) : Sl8.ok w ⟨some ⟨b1, 0 + lo, none⟩, m - lo, (b.drop lo).take k⟩ := by
  obtain ⟨o, ho, hA⟩ := hw.get hM
  refine ⟨by show ((b.drop lo).take k).length ≤ m - lo; rw [List.length_take, List.length_drop]; omega, ?_⟩
  rw [Nat.zero_add]
  refine Reads.block ho (Row.cells ?_ o hA)
  show ((bc b).drop lo).take _ = _
  simp only [bc, List.length_map, List.map_take, List.map_drop]
  rw [List.length_take, List.length_drop, List.take_eq_take_iff, List.length_drop, List.length_map]
  omega
theorem end_ok {w0 w : World} {S : List Nat} {M : List Ent} {e : TypeId} {wr : Bool} {lo : Nat} (hw : Holds w0 S M w) (hM : Has M b1 (Row e (bc b)) wr) (hb : b.length = m) (h1 : lo ≤ m) : Sl8.ok w ⟨some ⟨b1, 0 + lo, none⟩, m - lo, b.drop lo⟩ := by
  have := mid_ok (k := m - lo) hw hM hb h1 (Nat.le_refl _)
  rwa [List.take_of_length_le (by rw [List.length_drop]; omega)] at this
end
theorem goes_partIn : Goes Try.prog 86 := ⟨_, Try.func86, rfl, by kernel_rfl⟩
theorem OQ.buildM0 {n : Nat} {E : Env} {C : World → Prop} {dst : Option Tmp} {ty : TypeId} {pos : String} {aft : Array Edge} {g : Option (Nat × Bool)} : OQ Try.prog n E C ⟨dst, .build 131 #[], ty, pos, aft, g⟩ (.agg (mkc (0, 0, 0, false)).toArray) := OQ.pure rfl rfl (by kernel_rfl)
set_option maxHeartbeats 32000000 in
theorem partIn_any (b : Bk) (hb : b.length = 64) (w : World) : Calls Try.prog 86 [.agg (bc b).toArray].toArray w fun e w' => (wholeB b = false ∧ e = .returned (.tuple #[.agg (mkc (0, 0, 0, false)).toArray, .slice none 0 0, .bool false]) ∧ Ext w w') ∨ (wholeB b = true ∧ ∃ b1 : Nat, e = .returned (.tuple #[.agg (mkc (markIn b)).toArray, .slice (some ⟨b1, 12, none⟩) (cnt b) 52, .bool true]) ∧ Holds w [] [⟨b1, Row 51 (bc b), true⟩] w') := by
  refine enter (n := 34) Try.func86 rfl rfl rfl (Holds.start w []) ?_
  repeat (first | refine JC.seq ?_ | refine JC.region ?_)
  refine JL.box (r := bc b) rfl rfl rfl fun b1 _ => ?_
  refine JL.alloc mkZ rfl fun b2 _ => ?_
  repeat (first | refine JL.q (by (apply OQ.assign; exact rfl)) rfl ?_ | refine JC.seq ?_ | refine JL.nil ?_ | refine JE.next ?_)
  let vs : Nat → Nat → Value := fun j y => match j with
    | 0 => (⟨some ⟨b1, 0, none⟩, 64, b⟩ : Sl8).v
    | 1 => .agg (mkc (markIn b)).toArray
    | 2 => (⟨some ⟨b1, 0 + 10, none⟩, 64 - 10, (b.drop 10).take 2⟩ : Sl8).v
    | 3 => U64 (num64 ((b.drop 10).take 2))
    | 4 => N (cnt b)
    | 5 => Pt y 0
    | 7 => N (cnt b)
    | _ => N 0
  let Ms : Nat → Nat → List Ent := fun j y => match j with
    | 5 => [⟨y, Row 131 (mkc (0, 0, 0, false)), true⟩]
    | 6 => [⟨y, Row 131 (mkc (markIn b)), true⟩]
    | 8 => [⟨b2, Row 131 (mkc (0, 0, 0, false)), true⟩]
    | 9 => [⟨b1, Row 51 (bc b), true⟩]
    | _ => []
  refine JC.grow (g := ⟨[(1, Pt b1 0), (2, Pt b2 0), (3, .slice none 0 0), (4, .bool false)], 10, vs, Ms, (fun j => match j with | 1 => [(0, 7)] | 3 => [(2, 9)] | 4 => [(3, 10)] | 6 => [(5, 5), (1, 8)] | 7 => [(4, 11)] | _ => []), (fun j => match j with | 1 => [9] | 3 => [9] | 6 => [5] | _ => []), (fun j => match j with | 6 => [5] | _ => []), (fun j => match j with | 6 => some 5 | _ => none)⟩) [(5, 5), (7, 6)] [6, 8, 9] mixT (by repeat (first | exact SubE.nil | refine SubE.cons _ _ _ rfl ?_)) ?_ (by kernel_rfl) (by kernel_rfl) (by kernel_rfl) ?_ ?_
  · exact Less.refl _
  · refine ⟨?_, ?_, ?_, ?_, ?_, ?_, ?_, ?_, trivial⟩
    · (intro xx EF MF Q kk; (try refine JL.gon rfl rfl ?_); exact JL.q (OQ.slAll hb Try.underlying51 u8s rfl) rfl (JL.nil (kk default nofun)))
    · (intro xx EF MF Q kk; (try refine JL.gon rfl rfl ?_); exact JL.q (OQ.callx (vs := [(⟨some ⟨b1, 0, none⟩, 64, b⟩ : Sl8).v]) goes_markIn rfl (fun w' hw' => markIn_any _ w' (row_ok hw' .here rfl (by omega)) (by show 10 ≤ b.length; omega) (by show b.length ≤ 64; omega))) rfl (JL.nil (kk default nofun)))
    · (intro xx EF MF Q kk; (try refine JL.gon rfl rfl ?_); exact JL.q (OQ.slMid hb Try.underlying51 u8s rfl rfl rfl (lo := 10) (hi := 12) (by decide) (by decide) (by decide)) rfl (JL.nil (kk default nofun)))
    · (intro xx EF MF Q kk; (try refine JL.gon rfl rfl ?_); exact JL.q (OQ.callx (vs := [(⟨some ⟨b1, 0 + 10, none⟩, 64 - 10, (b.drop 10).take 2⟩ : Sl8).v]) goes_numRead rfl (fun w' hw' => numRead_any _ w' (mid_ok hw' .here hb (by decide) (by decide)) (by show ((b.drop 10).take 2).length ≤ _; rw [List.length_take]; omega))) rfl (JL.nil (kk default nofun)))
    · (intro xx EF MF Q kk; (try refine JL.gon rfl rfl ?_); exact JL.q (OQ.numToN Try.underlying119 Try.underlying3 rfl (by rw [List.length_take]; omega)) rfl (JL.nil (kk default nofun)))
    · (intro xx EF MF Q kk; exact JL.alloc mkZ rfl fun b _ => JL.nil (kk b nofun))
    · (intro xx EF MF Q kk; exact JL.store_all (cs := mkc (markIn b)) mk4 rfl rfl rfl rfl .here rfl (JL.nil (kk (xx 5) (fun k h => by cases h; rfl))))
    · (intro xx EF MF Q kk; (try refine JL.gon rfl rfl ?_); exact JL.q (OQ.assign rfl) rfl (JL.nil (kk default nofun)))
  · intro xx hx
    have e6 := hx 6 5 (by decide) rfl
    show JE _ _ _ _ _ [(5, Pt (xx 5) 0), (6, N (cnt b)), (1, Pt b1 0), (2, Pt b2 0), (3, .slice none 0 0), (4, .bool false)] [⟨xx 6, Row 131 (mkc (markIn b)), true⟩, ⟨b2, Row 131 (mkc (0, 0, 0, false)), true⟩, ⟨b1, Row 51 (bc b), true⟩]
    rw [e6]
    generalize xx 5 = b5
    clear hx e6 xx vs Ms
    (repeat (first | refine JC.seq ?_ | refine JE.next ?_))
    refine JC.quiet mixT (by kernel_rfl) ?_
    have cE := fun {u w' : World} {S : List Nat} {M : List Ent} (hw' : Holds u S M w') (hM : Has M b1 (Row 51 (bc b)) true) => markIn_any ⟨some ⟨b1, 0 + 54, none⟩, 64 - 54, b.drop 54⟩ w' (end_ok hw' hM hb (by decide)) (by show 10 ≤ (b.drop 54).length; rw [List.length_drop]; omega) (by show (b.drop 54).length ≤ 64; rw [List.length_drop]; omega)
    cases c1 : decide (markIn b = markIn (b.drop 54))
    case false =>
      have hw0 : wholeB b = false := by unfold wholeB; rw [c1]; rfl
      repeat (first | refine JQ.q (by first | (apply OQ.load_agg (cs := mkc (markIn b)); exact mkAg; exact mk4; exact rfl; exact .here; exact rfl; exact Row.all) | (apply OQ.slEnd (lo := 54); exact hb; exact Try.underlying51; exact u8s; exact rfl; exact rfl; exact (by decide)) | (apply OQ.callx (vs := [(⟨some ⟨b1, 0 + 54, none⟩, 64 - 54, b.drop 54⟩ : Sl8).v]); exact goes_markIn; exact rfl; exact (fun w' hw' => cE hw' (.there (.there .here)))) | (apply OQ.neM; exact rfl; exact rfl; exact c1) | (apply OQ.pick_t; exact rfl; exact rfl) | (apply OQ.move; exact rfl)) rfl ?_ | refine JQ.nil ?_ | refine JE.next ?_ | refine JQ.gskip rfl rfl rfl rfl ?_ | refine JQ.gskipU rfl rfl rfl rfl ?_)
      refine JC.cond_true rfl rfl ?_
      repeat (first | refine JL.q (by (apply OQ.buildM0)) rfl ?_ | refine JC.seq ?_ | refine JC.region ?_)
      refine JL.store_all (cs := mkc (0, 0, 0, false)) mk4 rfl rfl rfl rfl (.there .here) rfl ?_
      repeat (first | refine JL.q (by (apply OQ.assign; exact rfl)) rfl ?_ | refine JL.nil ?_ | refine JE.next ?_)
      refine JC.ret ?_
      repeat (refine JE.then_ret ?_)
      exact JE.ret3 rfl (RV.cell_agg mkAg mk4 rfl (.there .here) rfl Row.all) (RV.tmp rfl) (RV.tmp rfl) fun w' hw => .inl ⟨hw0, rfl, hw.chg⟩
    cases c2 : decide ((42 : Int) < ((cnt b : Nat) : Int))
    case true =>
      have hw0 : wholeB b = false := by unfold wholeB; rw [c1, decide_eq_false (by have := of_decide_eq_true c2; omega : ¬ cnt b ≤ 42)]; rfl
      repeat (first | refine JQ.q (by first | (apply OQ.load_agg (cs := mkc (markIn b)); exact mkAg; exact mk4; exact rfl; exact .here; exact rfl; exact Row.all) | (apply OQ.slEnd (lo := 54); exact hb; exact Try.underlying51; exact u8s; exact rfl; exact rfl; exact (by decide)) | (apply OQ.callx (vs := [(⟨some ⟨b1, 0 + 54, none⟩, 64 - 54, b.drop 54⟩ : Sl8).v]); exact goes_markIn; exact rfl; exact (fun w' hw' => cE hw' (.there (.there .here)))) | (apply OQ.neM; exact rfl; exact rfl; exact c1) | (apply OQ.gtrB (b := 42); exact rfl; exact rfl; exact c2) | (apply OQ.pick_f; exact rfl; exact rfl) | (apply OQ.pick_t; exact rfl; exact rfl) | (apply OQ.move; exact rfl)) rfl ?_ | refine JQ.nil ?_ | refine JE.next ?_ | refine JQ.gon rfl rfl ?_ | refine JQ.gskip rfl rfl rfl rfl ?_ | refine JQ.gskipU rfl rfl rfl rfl ?_)
      refine JC.cond_true rfl rfl ?_
      repeat (first | refine JL.q (by (apply OQ.buildM0)) rfl ?_ | refine JC.seq ?_ | refine JC.region ?_)
      refine JL.store_all (cs := mkc (0, 0, 0, false)) mk4 rfl rfl rfl rfl (.there .here) rfl ?_
      repeat (first | refine JL.q (by (apply OQ.assign; exact rfl)) rfl ?_ | refine JL.nil ?_ | refine JE.next ?_)
      refine JC.ret ?_
      repeat (refine JE.then_ret ?_)
      exact JE.ret3 rfl (RV.cell_agg mkAg mk4 rfl (.there .here) rfl Row.all) (RV.tmp rfl) (RV.tmp rfl) fun w' hw => .inl ⟨hw0, rfl, hw.chg⟩
    have hc42 : cnt b ≤ 42 := by have := of_decide_eq_false c2; omega
    cases c3 : decide (((cnt b : Nat) : Int) < (42 : Int))
    case false =>
      have hw1 : wholeB b = true := by unfold wholeB; rw [c1, decide_eq_true hc42, decide_eq_true (by have := of_decide_eq_false c3; omega : cnt b = 42)]; rfl
      repeat (first | refine JQ.q (by first | (apply OQ.load_agg (cs := mkc (markIn b)); exact mkAg; exact mk4; exact rfl; exact .here; exact rfl; exact Row.all) | (apply OQ.slEnd (lo := 54); exact hb; exact Try.underlying51; exact u8s; exact rfl; exact rfl; exact (by decide)) | (apply OQ.callx (vs := [(⟨some ⟨b1, 0 + 54, none⟩, 64 - 54, b.drop 54⟩ : Sl8).v]); exact goes_markIn; exact rfl; exact (fun w' hw' => cE hw' (.there (.there .here)))) | (apply OQ.neM; exact rfl; exact rfl; exact c1) | (apply OQ.gtrB (b := 42); exact rfl; exact rfl; exact c2) | (apply OQ.lssB (b := 42); exact rfl; exact rfl; exact c3) | (apply OQ.pick_f; exact rfl; exact rfl) | (apply OQ.move; exact rfl)) rfl ?_ | refine JQ.nil ?_ | refine JE.next ?_ | refine JQ.gon rfl rfl ?_ | refine JQ.gskip rfl rfl rfl rfl ?_)
      refine JC.cond_false rfl rfl ?_
      (repeat (first | refine JC.seq ?_ | refine JC.skip ?_ | refine JE.next ?_))
      let vs : Nat → Nat → Value := fun j y => match j with
        | 0 => .agg (mkc (markIn b)).toArray
        | 1 => N (cnt b)
        | 2 => N (12 + cnt b)
        | 3 => .slice (some ⟨b1, 12, none⟩) (cnt b) 52
        | 5 => .slice (some ⟨b1, 12, none⟩) (cnt b) 52
        | 6 => .bool true
        | _ => N 0
      let Ms : Nat → Nat → List Ent := fun j y => match j with
        | 4 => [⟨b2, Row 131 (mkc (markIn b)), true⟩]
        | 7 => [⟨b5, Row 131 (mkc (markIn b)), true⟩]
        | 8 => [⟨b2, Row 131 (mkc (0, 0, 0, false)), true⟩]
        | 9 => [⟨b1, Row 51 (bc b), true⟩]
        | _ => []
      refine JC.grow (g := ⟨[(1, Pt b1 0), (2, Pt b2 0), (5, Pt b5 0), (6, N (cnt b))], 10, vs, Ms, (fun j => match j with | 2 => [(1, 31)] | 3 => [(2, 32)] | 4 => [(0, 30)] | 5 => [(3, 33)] | _ => []), (fun j => match j with | 0 => [7] | 4 => [8] | _ => []), (fun j => match j with | 4 => [8] | _ => []), (fun j => match j with | _ => none)⟩) [(5, 3), (6, 4)] [4, 9] mixT (by repeat (first | exact SubE.nil | refine SubE.cons _ _ _ rfl ?_)) ?_ (by kernel_rfl) (by kernel_rfl) (by kernel_rfl) ?_ ?_
      · exact Less.refl _
      · refine ⟨?_, ?_, ?_, ?_, ?_, ?_, ?_, trivial⟩
        · (intro xx EF MF Q kk; (try refine JL.gon rfl rfl ?_); exact JL.q (OQ.load_agg (cs := mkc (markIn b)) mkAg mk4 rfl .here rfl Row.all) rfl (JL.nil (kk default nofun)))
        · (intro xx EF MF Q kk; (try refine JL.gon rfl rfl ?_); exact JL.q (OQ.move rfl) rfl (JL.nil (kk default nofun)))
        · (intro xx EF MF Q kk; (try refine JL.gon rfl rfl ?_); exact JL.q (OQ.addN (a := 12) rfl rfl (by omega)) rfl (JL.nil (kk default nofun)))
        · (intro xx EF MF Q kk; (try refine JL.gon rfl rfl ?_); exact JL.q (OQ.to (OQ.slA_lohi (lo := 12) (hi := 12 + cnt b) Try.underlying51 u8s rfl rfl rfl (by decide) (by omega) (by omega)) (by rw [Nat.add_sub_cancel_left]; rfl)) rfl (JL.nil (kk default nofun)))
        · (intro xx EF MF Q kk; exact JL.store_all (cs := mkc (markIn b)) mk4 rfl rfl rfl rfl .here rfl (JL.nil (kk default nofun)))
        · (intro xx EF MF Q kk; (try refine JL.gon rfl rfl ?_); exact JL.q (OQ.assign rfl) rfl (JL.nil (kk default nofun)))
        · (intro xx EF MF Q kk; (try refine JL.gon rfl rfl ?_); exact JL.q (OQ.assign rfl) rfl (JL.nil (kk default nofun)))
      · intro xx hx
        show JE _ _ _ _ _ [(3, .slice (some ⟨b1, 12, none⟩) (cnt b) 52), (4, .bool true), (1, Pt b1 0), (2, Pt b2 0), (5, Pt b5 0), (6, N (cnt b))] [⟨b2, Row 131 (mkc (markIn b)), true⟩, ⟨b1, Row 51 (bc b), true⟩]
        clear hx xx vs Ms
        (repeat (refine JE.next ?_))
        refine JC.ret ?_
        (skip)
        exact JE.ret3 rfl (RV.cell_agg mkAg mk4 rfl .here rfl Row.all) (RV.tmp rfl) (RV.tmp rfl) fun w' hw => .inr ⟨hw1, b1, rfl, drop1 hw⟩
    case true =>
    cases hl : (markIn b).2.2.2
    case false =>
      have hw0 : wholeB b = false := by unfold wholeB; rw [c1, decide_eq_true hc42, decide_eq_false (by have := of_decide_eq_true c3; omega : ¬ cnt b = 42), hl]; rfl
      have hlc : (mkc (markIn b))[3]? = some (.bool false) := by rw [mkc, hl]; rfl
      repeat (first | refine JQ.q (by first | (apply OQ.load_agg (cs := mkc (markIn b)); exact mkAg; exact mk4; exact rfl; exact .here; exact rfl; exact Row.all) | (apply OQ.slEnd (lo := 54); exact hb; exact Try.underlying51; exact u8s; exact rfl; exact rfl; exact (by decide)) | (apply OQ.callx (vs := [(⟨some ⟨b1, 0 + 54, none⟩, 64 - 54, b.drop 54⟩ : Sl8).v]); exact goes_markIn; exact rfl; exact (fun w' hw' => cE hw' (.there (.there .here)))) | (apply OQ.neM; exact rfl; exact rfl; exact c1) | (apply OQ.gtrB (b := 42); exact rfl; exact rfl; exact c2) | (apply OQ.lssB (b := 42); exact rfl; exact rfl; exact c3) | (apply OQ.load; exact boolC; exact rfl; exact .here; exact (Row.cell hlc)) | (apply OQ.not; exact rfl) | (apply OQ.pick_f; exact rfl; exact rfl) | (apply OQ.pick_t; exact rfl; exact rfl) | (apply OQ.move; exact rfl) | (apply OQ.fld; exact rfl; exact rfl; exact rfl; exact (by decide); exact rfl)) rfl ?_ | refine JQ.nil ?_ | refine JE.next ?_ | refine JQ.gon rfl rfl ?_)
      refine JC.cond_true rfl rfl ?_
      repeat (first | refine JL.q (by (apply OQ.buildM0)) rfl ?_ | refine JC.seq ?_ | refine JC.region ?_)
      refine JL.store_all (cs := mkc (0, 0, 0, false)) mk4 rfl rfl rfl rfl (.there .here) rfl ?_
      repeat (first | refine JL.q (by (apply OQ.assign; exact rfl)) rfl ?_ | refine JL.nil ?_ | refine JE.next ?_)
      refine JC.ret ?_
      repeat (refine JE.then_ret ?_)
      exact JE.ret3 rfl (RV.cell_agg mkAg mk4 rfl (.there .here) rfl Row.all) (RV.tmp rfl) (RV.tmp rfl) fun w' hw => .inl ⟨hw0, rfl, hw.chg⟩
    case true =>
      have hw1 : wholeB b = true := by unfold wholeB; rw [c1, decide_eq_true hc42, hl]; simp
      have hlc : (mkc (markIn b))[3]? = some (.bool true) := by rw [mkc, hl]; rfl
      repeat (first | refine JQ.q (by first | (apply OQ.load_agg (cs := mkc (markIn b)); exact mkAg; exact mk4; exact rfl; exact .here; exact rfl; exact Row.all) | (apply OQ.slEnd (lo := 54); exact hb; exact Try.underlying51; exact u8s; exact rfl; exact rfl; exact (by decide)) | (apply OQ.callx (vs := [(⟨some ⟨b1, 0 + 54, none⟩, 64 - 54, b.drop 54⟩ : Sl8).v]); exact goes_markIn; exact rfl; exact (fun w' hw' => cE hw' (.there (.there .here)))) | (apply OQ.neM; exact rfl; exact rfl; exact c1) | (apply OQ.gtrB (b := 42); exact rfl; exact rfl; exact c2) | (apply OQ.lssB (b := 42); exact rfl; exact rfl; exact c3) | (apply OQ.load; exact boolC; exact rfl; exact .here; exact (Row.cell hlc)) | (apply OQ.not; exact rfl) | (apply OQ.pick_f; exact rfl; exact rfl) | (apply OQ.pick_t; exact rfl; exact rfl) | (apply OQ.move; exact rfl) | (apply OQ.fld; exact rfl; exact rfl; exact rfl; exact (by decide); exact rfl)) rfl ?_ | refine JQ.nil ?_ | refine JE.next ?_ | refine JQ.gon rfl rfl ?_)
      refine JC.cond_false rfl rfl ?_
      (repeat (first | refine JC.seq ?_ | refine JC.skip ?_ | refine JE.next ?_))
      let vs : Nat → Nat → Value := fun j y => match j with
        | 0 => .agg (mkc (markIn b)).toArray
        | 1 => N (cnt b)
        | 2 => N (12 + cnt b)
        | 3 => .slice (some ⟨b1, 12, none⟩) (cnt b) 52
        | 5 => .slice (some ⟨b1, 12, none⟩) (cnt b) 52
        | 6 => .bool true
        | _ => N 0
      let Ms : Nat → Nat → List Ent := fun j y => match j with
        | 4 => [⟨b2, Row 131 (mkc (markIn b)), true⟩]
        | 7 => [⟨b5, Row 131 (mkc (markIn b)), true⟩]
        | 8 => [⟨b2, Row 131 (mkc (0, 0, 0, false)), true⟩]
        | 9 => [⟨b1, Row 51 (bc b), true⟩]
        | _ => []
      refine JC.grow (g := ⟨[(1, Pt b1 0), (2, Pt b2 0), (5, Pt b5 0), (6, N (cnt b))], 10, vs, Ms, (fun j => match j with | 2 => [(1, 31)] | 3 => [(2, 32)] | 4 => [(0, 30)] | 5 => [(3, 33)] | _ => []), (fun j => match j with | 0 => [7] | 4 => [8] | _ => []), (fun j => match j with | 4 => [8] | _ => []), (fun j => match j with | _ => none)⟩) [(5, 3), (6, 4)] [4, 9] mixT (by repeat (first | exact SubE.nil | refine SubE.cons _ _ _ rfl ?_)) ?_ (by kernel_rfl) (by kernel_rfl) (by kernel_rfl) ?_ ?_
      · exact Less.refl _
      · refine ⟨?_, ?_, ?_, ?_, ?_, ?_, ?_, trivial⟩
        · (intro xx EF MF Q kk; (try refine JL.gon rfl rfl ?_); exact JL.q (OQ.load_agg (cs := mkc (markIn b)) mkAg mk4 rfl .here rfl Row.all) rfl (JL.nil (kk default nofun)))
        · (intro xx EF MF Q kk; (try refine JL.gon rfl rfl ?_); exact JL.q (OQ.move rfl) rfl (JL.nil (kk default nofun)))
        · (intro xx EF MF Q kk; (try refine JL.gon rfl rfl ?_); exact JL.q (OQ.addN (a := 12) rfl rfl (by omega)) rfl (JL.nil (kk default nofun)))
        · (intro xx EF MF Q kk; (try refine JL.gon rfl rfl ?_); exact JL.q (OQ.to (OQ.slA_lohi (lo := 12) (hi := 12 + cnt b) Try.underlying51 u8s rfl rfl rfl (by decide) (by omega) (by omega)) (by rw [Nat.add_sub_cancel_left]; rfl)) rfl (JL.nil (kk default nofun)))
        · (intro xx EF MF Q kk; exact JL.store_all (cs := mkc (markIn b)) mk4 rfl rfl rfl rfl .here rfl (JL.nil (kk default nofun)))
        · (intro xx EF MF Q kk; (try refine JL.gon rfl rfl ?_); exact JL.q (OQ.assign rfl) rfl (JL.nil (kk default nofun)))
        · (intro xx EF MF Q kk; (try refine JL.gon rfl rfl ?_); exact JL.q (OQ.assign rfl) rfl (JL.nil (kk default nofun)))
      · intro xx hx
        show JE _ _ _ _ _ [(3, .slice (some ⟨b1, 12, none⟩) (cnt b) 52), (4, .bool true), (1, Pt b1 0), (2, Pt b2 0), (5, Pt b5 0), (6, N (cnt b))] [⟨b2, Row 131 (mkc (markIn b)), true⟩, ⟨b1, Row 51 (bc b), true⟩]
        clear hx xx vs Ms
        (repeat (refine JE.next ?_))
        refine JC.ret ?_
        (skip)
        exact JE.ret3 rfl (RV.cell_agg mkAg mk4 rfl .here rfl Row.all) (RV.tmp rfl) (RV.tmp rfl) fun w' hw => .inr ⟨hw1, b1, rfl, drop1 hw⟩
end Go.Proofs.Ytjkncnbpaejamaa

/-
  Of no statement by itself: slices of slices of bytes that begin as nil and are appended to; for any program P.
  Conditions: each rule's own hypotheses.
-/
namespace Go.Proofs.Ytjkncnbpaejamaa
open Sl
def accL (q : Acc) (rs : List Sl8) : SlL := match q with
  | none => ⟨none, 0, []⟩
  | some p => ⟨some ⟨p.1, 0, none⟩, p.2, rs⟩
theorem accL_v (q : Acc) (rs : List Sl8) : (accL q rs).v = accV q (rs.map Sl8.v).length := by
  cases q with
  | none => rfl
  | some p => show Value.slice _ rs.length _ = Value.slice _ (rs.map Sl8.v).length _; rw [List.length_map]; rfl
theorem accL_rs {q : Acc} {rs : List Sl8} (h : q = none → rs = []) : (accL q rs).rs = rs := by
  cases q with
  | none => exact (h rfl).symm
  | some p => rfl
theorem accL_ok {w0 w : World} {S : List Nat} {e : TypeId} {q : Acc} {rs : List Sl8} (hw : Holds w0 S (accE e q (rs.map Sl8.v) ++ flatE rs) w) (h0 : ∀ x ∈ rs, x.ad = none → x.l = []) : (accL q rs).ok w := by
  cases q with
  | none => exact ⟨Nat.le_refl _, Reads.nil _ _, fun y hy => by cases hy⟩
  | some p =>
    refine ownL_ok (e := e) (A := accE e (some p) (rs.map Sl8.v)) (wr := true) hw ?_ h0
    show Has (⟨p.1, Sl.Own e 1 (rs.map Sl8.v).length p.2 (rs.map Sl8.v), true⟩ :: flatE rs) _ _ _
    rw [List.length_map]
    exact .here
theorem flat_snoc {e : TypeId} (rs : List Sl8) (q : Acc) (l : List Bt) : Less (flatE (rs ++ [accS q l])) (flatE rs ++ accE e q (l.map U8)) := by
  unfold flatE
  rw [List.flatMap_append]
  refine less_app2 ?_ _
  show Less ((accS q l).ents ++ []) _
  rw [List.append_nil]
  exact accS_ents q l
theorem accV_cells (q : Acc) (k : Nat) : (accV q k).cells = #[accV q k] := by cases q <;> rfl
theorem accV_one (q : Acc) (k : Nat) : (accV q k).oneCell' = true := by cases q <;> rfl
end Go.Proofs.Ytjkncnbpaejamaa
