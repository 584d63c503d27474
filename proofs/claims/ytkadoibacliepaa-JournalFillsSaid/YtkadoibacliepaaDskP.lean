/-
  Of no statement by itself: what a disk of blocks does, by definition: writes, a sync, a crash that undoes and redoes; facts of these.
  Conditions: each theorem's own.
-/
import Init
namespace Go.Proofs.Ytkadoibacliepaa
namespace Dsk
abbrev Bk := List (BitVec 8)
structure Dk where
  bl : List Bk
  pd : List (Nat × Bk)
structure Ok (bl : List Bk) (pd : List (Nat × Bk)) : Prop where
  b : ∀ x ∈ bl, x.length = 64
  p : ∀ x ∈ pd, x.1 < bl.length ∧ x.2.length = 64
def zero : Bk := List.replicate 64 0
def newB (n : Nat) : List Bk := List.replicate n zero
def old (bl : List Bk) (n : Nat) : Bk := bl.getD n []
def nth (pd : List (Nat × Bk)) (i : Nat) : Nat × Bk := pd.getD i (0, [])
def wrote (bl : List Bk) (pd : List (Nat × Bk)) (n : Nat) : List (Nat × Bk) := pd ++ [(n, old bl n)]
/-- one write undone -/
def step (s : List Bk × List (Nat × Bk)) (i : Nat) : List Bk × List (Nat × Bk) :=
  (s.1.set (nth s.2 i).1 (nth s.2 i).2, s.2.set i ((nth s.2 i).1, old s.1 (nth s.2 i).1))
def run (s : List Bk × List (Nat × Bk)) (l : List Nat) : List Bk × List (Nat × Bk) := l.foldl step s
def down (m : Nat) : List Nat := (List.range m).reverse
def undoN (bl : List Bk) (pd : List (Nat × Bk)) (k : Nat) : List Bk × List (Nat × Bk) := run (bl, pd) ((down pd.length).take k)
def undo (bl : List Bk) (pd : List (Nat × Bk)) : List Bk × List (Nat × Bk) := undoN bl pd pd.length
def doneB (p : BitVec 8) : Nat := if p.toNat % 3 = 1 then 64 else if p.toNat % 3 = 2 then p.toNat / 3 % 64 else 0
def pick (picks : List (BitVec 8)) (i : Nat) : BitVec 8 := if picks = [] then 0 else picks.getD (i % picks.length) 0
def part (bl : List Bk) (w : Nat × Bk) (n : Nat) : List Bk := bl.set w.1 (w.2.take n ++ (old bl w.1).drop n)
def redoN (picks : List (BitVec 8)) (bl : List Bk) (ws : List (Nat × Bk)) (k : Nat) : List Bk :=
  (List.range k).foldl (fun l i => part l (nth ws i) (doneB (pick picks i))) bl
def crash (picks : List (BitVec 8)) (bl : List Bk) (pd : List (Nat × Bk)) : List Bk := redoN picks (undo bl pd).1 (undo bl pd).2 (undo bl pd).2.length

theorem doneB_le (p : BitVec 8) : doneB p ≤ 64 := by
  unfold doneB
  split
  · omega
  · split <;> omega
theorem down_len (m : Nat) : (down m).length = m := by simp [down]
theorem down_succ (m : Nat) : down (m + 1) = m :: down m := by simp [down, List.range_succ]
theorem down_get {m k : Nat} (h : k < m) : (down m)[k]? = some (m - 1 - k) := by
  unfold down
  rw [List.getElem?_reverse (by simpa using h)]
  simp only [List.length_range]
  rw [List.getElem?_range (by omega)]
theorem down_lt {m i : Nat} (h : i ∈ down m) : i < m := by simpa [down] using h
theorem undoN_zero (bl : List Bk) (pd : List (Nat × Bk)) : undoN bl pd 0 = (bl, pd) := by simp [undoN, run]
theorem undoN_succ {bl : List Bk} {pd : List (Nat × Bk)} {k : Nat} (h : k < pd.length) : undoN bl pd (k + 1) = step (undoN bl pd k) (pd.length - 1 - k) := by
  unfold undoN run
  rw [List.take_add_one, down_get h, List.foldl_append]
  rfl
theorem redoN_zero (picks : List (BitVec 8)) (bl : List Bk) (ws : List (Nat × Bk)) : redoN picks bl ws 0 = bl := by simp [redoN]
theorem redoN_succ (picks : List (BitVec 8)) (bl : List Bk) (ws : List (Nat × Bk)) (k : Nat) : redoN picks bl ws (k + 1) = part (redoN picks bl ws k) (nth ws k) (doneB (pick picks k)) := by
  unfold redoN
  rw [List.range_succ, List.foldl_append]
  rfl

theorem nth_mem {pd : List (Nat × Bk)} {i : Nat} (h : i < pd.length) : nth pd i ∈ pd := by
  unfold nth
  rw [List.getD_eq_getElem?_getD, List.getElem?_eq_getElem h]
  exact List.getElem_mem _
theorem old_mem {bl : List Bk} {i : Nat} (h : i < bl.length) : old bl i ∈ bl := by
  unfold old
  rw [List.getD_eq_getElem?_getD, List.getElem?_eq_getElem h]
  exact List.getElem_mem _
theorem mem_set {α : Type} {l : List α} {i : Nat} {a x : α} (h : x ∈ l.set i a) : x ∈ l ∨ x = a := List.mem_or_eq_of_mem_set h
theorem Ok.new (n : Nat) : Ok (newB n) [] := ⟨fun x hx => by rw [List.eq_of_mem_replicate hx]; rfl, by simp⟩
theorem Ok.old {bl : List Bk} {pd : List (Nat × Bk)} (h : Ok bl pd) {n : Nat} (hn : n < bl.length) : (old bl n).length = 64 := h.b _ (old_mem hn)
theorem Ok.write {bl : List Bk} {pd : List (Nat × Bk)} (h : Ok bl pd) {n : Nat} {b : Bk} (hn : n < bl.length) (hb : b.length = 64) : Ok (bl.set n b) (wrote bl pd n) := by
  refine ⟨fun x hx => ?_, fun x hx => ?_⟩
  · rcases mem_set hx with hx | rfl
    · exact h.b x hx
    · exact hb
  · rw [List.length_set]
    rcases List.mem_append.1 hx with hx | hx
    · exact h.p x hx
    · obtain rfl := List.mem_singleton.1 hx
      exact ⟨hn, h.old hn⟩
theorem Ok.sync {bl : List Bk} {pd : List (Nat × Bk)} (h : Ok bl pd) : Ok bl [] := ⟨h.b, by simp⟩
theorem Ok.step {s : List Bk × List (Nat × Bk)} (h : Ok s.1 s.2) {i : Nat} (hi : i < s.2.length) : Ok (step s i).1 (step s i).2 := by
  have h1 := h.p _ (nth_mem hi)
  refine ⟨fun x hx => ?_, fun x hx => ?_⟩
  · rcases mem_set hx with hx | rfl
    · exact h.b x hx
    · exact h1.2
  · show _ < (s.1.set _ _).length ∧ _
    rw [List.length_set]
    rcases mem_set hx with hx | rfl
    · exact h.p x hx
    · exact ⟨h1.1, h.old h1.1⟩
theorem step_len (s : List Bk × List (Nat × Bk)) (i : Nat) : (step s i).1.length = s.1.length ∧ (step s i).2.length = s.2.length := by simp [step]
theorem undoN_len (bl : List Bk) (pd : List (Nat × Bk)) : ∀ k, k ≤ pd.length → (undoN bl pd k).1.length = bl.length ∧ (undoN bl pd k).2.length = pd.length
  | 0, _ => by simp [undoN_zero]
  | k + 1, h => by
    have ih := undoN_len bl pd k (by omega)
    rw [undoN_succ h]
    have := step_len (undoN bl pd k) (pd.length - 1 - k)
    omega
theorem Ok.undoN {bl : List Bk} {pd : List (Nat × Bk)} (h : Ok bl pd) : ∀ k, k ≤ pd.length → Ok (undoN bl pd k).1 (undoN bl pd k).2
  | 0, _ => by rw [undoN_zero]; exact h
  | k + 1, hk => by
    rw [undoN_succ hk]
    exact (Ok.undoN h k (by omega)).step (by rw [(undoN_len bl pd k (by omega)).2]; omega)
theorem undo_len (bl : List Bk) (pd : List (Nat × Bk)) : (undo bl pd).1.length = bl.length ∧ (undo bl pd).2.length = pd.length := undoN_len bl pd _ (Nat.le_refl _)
theorem Ok.undo {bl : List Bk} {pd : List (Nat × Bk)} (h : Ok bl pd) : Ok (undo bl pd).1 (undo bl pd).2 := h.undoN _ (Nat.le_refl _)
theorem part_len (bl : List Bk) (w : Nat × Bk) (n : Nat) : (part bl w n).length = bl.length := by simp [part]
theorem Ok.part {bl : List Bk} {ws : List (Nat × Bk)} (h : Ok bl ws) {w : Nat × Bk} (hw : w ∈ ws) {n : Nat} (hn : n ≤ 64) : Ok (part bl w n) ws := by
  obtain ⟨h1, h2⟩ := h.p w hw
  refine ⟨fun x hx => ?_, fun x hx => by rw [part_len]; exact h.p x hx⟩
  rcases mem_set hx with hx | rfl
  · exact h.b x hx
  · have := h.old h1
    simp only [List.length_append, List.length_take, List.length_drop]
    omega
theorem redoN_len (picks : List (BitVec 8)) (bl : List Bk) (ws : List (Nat × Bk)) : ∀ k, (redoN picks bl ws k).length = bl.length
  | 0 => by rw [redoN_zero]
  | k + 1 => by rw [redoN_succ, part_len, redoN_len picks bl ws k]
theorem Ok.redoN {picks : List (BitVec 8)} {bl : List Bk} {ws : List (Nat × Bk)} (h : Ok bl ws) : ∀ k, k ≤ ws.length → Ok (redoN picks bl ws k) ws
  | 0, _ => by rw [redoN_zero]; exact h
  | k + 1, hk => by
    rw [redoN_succ]
    exact (Ok.redoN h k (by omega)).part (nth_mem hk) (doneB_le _)
theorem crash_len (picks : List (BitVec 8)) (bl : List Bk) (pd : List (Nat × Bk)) : (crash picks bl pd).length = bl.length := by
  unfold crash
  rw [redoN_len, (undo_len bl pd).1]
theorem Ok.crash {picks : List (BitVec 8)} {bl : List Bk} {pd : List (Nat × Bk)} (h : Ok bl pd) : Ok (crash picks bl pd) [] := (h.undo.redoN _ (Nat.le_refl _)).sync

/-! ### what is undone of one more write -/
theorem run_snoc : ∀ (is : List Nat) (l : List Bk) (ws : List (Nat × Bk)) (x : Nat × Bk), (∀ i ∈ is, i < ws.length) → run (l, ws ++ [x]) is = ((run (l, ws) is).1, (run (l, ws) is).2 ++ [x])
  | [], l, ws, x, _ => rfl
  | i :: is, l, ws, x, h => by
    have hi := h i (by simp)
    have e1 : nth (ws ++ [x]) i = nth ws i := by simp [nth, List.getD_eq_getElem?_getD, List.getElem?_append_left hi]
    have e2 : step (l, ws ++ [x]) i = ((step (l, ws) i).1, (step (l, ws) i).2 ++ [x]) := by
      unfold step
      simp only [e1, List.set_append_left _ _ hi]
    show run (step (l, ws ++ [x]) i) is = _
    rw [e2]
    exact run_snoc is _ _ x fun j hj => by
      have h1 : (step (l, ws) i).2.length = ws.length := (step_len (l, ws) i).2
      have h2 := h j (by simp [hj])
      rw [h1]
      exact h2
theorem set_back {bl : List Bk} {n : Nat} {b : Bk} : (bl.set n b).set n (old bl n) = bl := by
  rw [List.set_set]
  apply List.ext_getElem?
  intro i
  rw [List.getElem?_set]
  by_cases h : n = i
  · subst h
    by_cases hl : n < bl.length
    · simp [hl, old]
    · simp [hl]
  · simp [h]
theorem undo_write {bl : List Bk} {pd : List (Nat × Bk)} {n : Nat} {b : Bk} (hn : n < bl.length) : undo (bl.set n b) (wrote bl pd n) = ((undo bl pd).1, (undo bl pd).2 ++ [(n, b)]) := by
  have hl : (wrote bl pd n).length = pd.length + 1 := by simp [wrote]
  have e0 : undo (bl.set n b) (wrote bl pd n) = run (bl.set n b, wrote bl pd n) (down (pd.length + 1)) := by
    unfold undo undoN
    rw [hl, List.take_of_length_le (by rw [down_len]; exact Nat.le_refl _)]
  have e1 : undo bl pd = run (bl, pd) (down pd.length) := by
    unfold undo undoN
    rw [List.take_of_length_le (by rw [down_len]; exact Nat.le_refl _)]
  have e2 : nth (wrote bl pd n) pd.length = (n, old bl n) := by simp [nth, wrote]
  have e3 : step (bl.set n b, wrote bl pd n) pd.length = (bl, pd ++ [(n, b)]) := by
    unfold step
    simp only [e2, set_back]
    congr 1
    have : old (bl.set n b) n = b := by simp [old, hn]
    rw [this]
    simp [wrote]
  rw [e0, e1, down_succ]
  show run (step _ _) _ = _
  rw [e3]
  exact run_snoc _ _ _ _ fun i hi => down_lt hi

/-! ### a block that nothing is written to -/
theorem nth_set {pd : List (Nat × Bk)} {i j : Nat} {x : Nat × Bk} (h : i < pd.length) : nth (pd.set i x) j = if i = j then x else nth pd j := by
  unfold nth
  simp only [List.getD_eq_getElem?_getD, List.getElem?_set]
  split
  · next e => subst e; simp [h]
  · rfl
theorem old_set_ne {bl : List Bk} {n j : Nat} {b : Bk} (h : n ≠ j) : old (bl.set n b) j = old bl j := by simp [old, List.getD_eq_getElem?_getD, List.getElem?_set, h]
theorem old_set {bl : List Bk} {n : Nat} {b : Bk} (h : n < bl.length) : old (bl.set n b) n = b := by simp [old, h]
def apartP (j : Nat) (pd : List (Nat × Bk)) : Prop := ∀ x ∈ pd, x.1 ≠ j
theorem apart_step {j i : Nat} {s : List Bk × List (Nat × Bk)} (h : apartP j s.2) (hi : i < s.2.length) : apartP j (step s i).2 ∧ old (step s i).1 j = old s.1 j := by
  have h1 := h _ (nth_mem hi)
  refine ⟨fun x hx => ?_, old_set_ne h1⟩
  rcases mem_set hx with hx | rfl
  · exact h x hx
  · exact h1
theorem apart_undoN {j : Nat} {bl : List Bk} {pd : List (Nat × Bk)} (h : apartP j pd) : ∀ k, k ≤ pd.length → apartP j (undoN bl pd k).2 ∧ old (undoN bl pd k).1 j = old bl j
  | 0, _ => by rw [undoN_zero]; exact ⟨h, rfl⟩
  | k + 1, hk => by
    obtain ⟨i1, i2⟩ := apart_undoN (bl := bl) h k (by omega)
    rw [undoN_succ hk]
    have := apart_step (i := pd.length - 1 - k) i1 (by rw [(undoN_len bl pd k (by omega)).2]; omega)
    exact ⟨this.1, this.2.trans i2⟩
theorem apart_redoN {j : Nat} {picks : List (BitVec 8)} {bl : List Bk} {ws : List (Nat × Bk)} (h : apartP j ws) : ∀ k, k ≤ ws.length → old (redoN picks bl ws k) j = old bl j
  | 0, _ => by rw [redoN_zero]
  | k + 1, hk => by
    rw [redoN_succ]
    refine (old_set_ne (h _ (nth_mem hk))).trans (apart_redoN h k (by omega))
theorem apart_crash {j : Nat} {picks : List (BitVec 8)} {bl : List Bk} {pd : List (Nat × Bk)} (h : apartP j pd) : old (crash picks bl pd) j = old bl j := by
  obtain ⟨h1, h2⟩ := apart_undoN (bl := bl) h _ (Nat.le_refl _)
  exact (apart_redoN h1 _ (Nat.le_refl _)).trans h2
theorem apart_write {j n : Nat} {bl : List Bk} {pd : List (Nat × Bk)} (h : apartP j pd) (hn : n ≠ j) : apartP j (wrote bl pd n) := by
  intro x hx
  rcases List.mem_append.1 hx with hx | hx
  · exact h x hx
  · obtain rfl := List.mem_singleton.1 hx
    exact hn

/-- one write, and a crash -/
theorem crash_one {bl : List Bk} {n : Nat} {b : Bk} {p : BitVec 8} (hn : n < bl.length) : crash [p] (bl.set n b) (wrote bl [] n) = part bl (n, b) (doneB p) := by
  unfold crash
  rw [undo_write hn]
  have e : undo bl [] = (bl, []) := by simp [undo, undoN_zero]
  rw [e]
  show redoN [p] bl [(n, b)] 1 = _
  rw [redoN_succ, redoN_zero]
  rfl
end Dsk
end Go.Proofs.Ytkadoibacliepaa
