/-
  Of no statement by itself: what the landed lines.Stuff gives.
  Conditions: each theorem's own.
-/
import Derived.Test.YtnopllkpfdgkkaaLinI
namespace Go.Proofs.Ytnopllkpfdgkkaa
open Sl Lin
/-- points at the beginnings of lines told twice, byte by byte: the first word is how many bytes stand ahead in the line -/
def stb : Nat → List Lin.By → List Lin.By
  | _, [] => []
  | col, c :: r => (if col = 0 ∧ c = 46 then [46, 46] else [c]) ++ stb (if c = 10 then 0 else col + 1) r
theorem stb_pos : ∀ (r : List Lin.By) (col : Nat) (t : List Lin.By), (∀ c ∈ r, c ≠ 10) → 0 < col → stb col (r ++ 13 :: 10 :: t) = r ++ 13 :: 10 :: stb 0 t
  | [], col, t, _, h => by
    show (if col = 0 ∧ (13 : Lin.By) = 46 then _ else _) ++ stb (if (13 : Lin.By) = 10 then 0 else col + 1) (10 :: t) = _
    rw [if_neg (fun h => absurd h.2 (by decide)), if_neg (by decide)]
    show _ ++ ((if col + 1 = 0 ∧ (10 : Lin.By) = 46 then _ else _) ++ stb (if (10 : Lin.By) = 10 then 0 else col + 1 + 1) t) = _
    rw [if_neg (fun h => absurd h.2 (by decide)), if_pos rfl]
    rfl
  | c :: r, col, t, h, h0 => by
    show (if col = 0 ∧ c = 46 then _ else _) ++ stb (if c = 10 then 0 else col + 1) (r ++ 13 :: 10 :: t) = _
    rw [if_neg (fun h => by omega), if_neg (h c (by simp)), stb_pos r (col + 1) t (fun x hx => h x (by simp [hx])) (by omega)]
    rfl
theorem stb_line (l t : List Lin.By) (h : ∀ c ∈ l, c ≠ 10) : stb 0 (l ++ 13 :: 10 :: t) = stuffL l ++ 13 :: 10 :: stb 0 t := by
  cases l with
  | nil =>
    show (if 0 = 0 ∧ (13 : Lin.By) = 46 then _ else _) ++ stb (if (13 : Lin.By) = 10 then 0 else 0 + 1) (10 :: t) = _
    rw [if_neg (fun h => absurd h.2 (by decide)), if_neg (by decide)]
    show _ ++ ((if 0 + 1 = 0 ∧ (10 : Lin.By) = 46 then _ else _) ++ stb (if (10 : Lin.By) = 10 then 0 else 0 + 1 + 1) t) = _
    rw [if_neg (fun h => absurd h.2 (by decide)), if_pos rfl]
    rfl
  | cons c r =>
    show (if 0 = 0 ∧ c = 46 then _ else _) ++ stb (if c = 10 then 0 else 0 + 1) (r ++ 13 :: 10 :: t) = _
    rw [if_neg (h c (by simp)), stb_pos r (0 + 1) t (fun x hx => h x (by simp [hx])) (by omega)]
    unfold stuffL
    by_cases e : c = 46
    · rw [if_pos ⟨rfl, e⟩, if_pos (by rw [e]; rfl), e]
      rfl
    · rw [if_neg (fun h => e h.2), if_neg (show ¬ (c :: r).head? = some 46 from fun h => e (Option.some.inj h))]
      rfl
theorem stb_lines : ∀ ls : List (List Lin.By), (∀ l ∈ ls, ∀ c ∈ l, c ≠ 10) → stb 0 (joinB ls) = joinB (ls.map stuffL)
  | [], _ => rfl
  | l :: ls, h => by
    have e1 : joinB (l :: ls) = l ++ 13 :: 10 :: joinB ls := by
      show (l ++ [13, 10]) ++ joinB ls = _
      rw [List.append_assoc]; rfl
    have e2 : joinB ((l :: ls).map stuffL) = stuffL l ++ 13 :: 10 :: joinB (ls.map stuffL) := by
      show (stuffL l ++ [13, 10]) ++ joinB (ls.map stuffL) = _
      rw [List.append_assoc]; rfl
    rw [e1, e2, stb_line l _ (h l (by simp)), stb_lines ls fun x hx => h x (by simp [hx])]
theorem stB_stb (b : List Lin.By) : stB b = stb 0 (laidB b) ++ [46, 13, 10] := by
  have h := stb_lines (splB (laidB b)).1 fun l hl c hc => ((splB_cln (laidB_cln b)).1 l hl c hc).1
  rw [laidB_join] at h
  rw [h]
  rfl
theorem stb_snoc : ∀ (a : List Lin.By) (p : Nat × Nat) (c : Lin.By), stb p.2 (a ++ [c]) = stb p.2 a ++ (if (a.foldl pl p).2 = 0 ∧ c = 46 then [46, 46] else [c])
  | [], p, c => by
    show (if p.2 = 0 ∧ c = 46 then _ else _) ++ [] = [] ++ _
    rw [List.append_nil]; rfl
  | x :: a, p, c => by
    have e : (if x = 10 then 0 else p.2 + 1) = (pl p x).2 := by unfold pl; split <;> rfl
    show (if p.2 = 0 ∧ x = 46 then _ else _) ++ stb (if x = 10 then 0 else p.2 + 1) (a ++ [c]) = ((if p.2 = 0 ∧ x = 46 then _ else _) ++ stb (if x = 10 then 0 else p.2 + 1) a) ++ _
    rw [e, stb_snoc a (pl p x) c, List.append_assoc]
    rfl
theorem stb_len : ∀ (a : List Lin.By) (col : Nat), (stb col a).length ≤ 2 * a.length
  | [], _ => Nat.le_refl _
  | x :: a, col => by
    have := stb_len a (if x = 10 then 0 else col + 1)
    show ((if col = 0 ∧ x = 46 then _ else _) ++ _ : List Lin.By).length ≤ _
    rw [List.length_append, List.length_cons]
    split <;> simp only [List.length_cons, List.length_nil] <;> omega
theorem suf_end (W : List Lin.By) : sufB W [13, 10] = true ↔ 2 ≤ W.length ∧ W.getD (W.length - 1) 0 = 10 ∧ W.getD (W.length - 2) 0 = 13 := by
  unfold sufB
  rw [Bool.and_eq_true, decide_eq_true_eq, decide_eq_true_eq]
  simp only [List.length_cons, List.length_nil]
  by_cases h : 2 ≤ W.length
  · have e1 : W.drop (W.length - 2) = W[W.length - 2]'(by omega) :: W.drop (W.length - 2 + 1) := List.drop_eq_getElem_cons (by omega)
    have e2 : W.drop (W.length - 2 + 1) = W[W.length - 2 + 1]'(by omega) :: W.drop (W.length - 2 + 1 + 1) := List.drop_eq_getElem_cons (by omega)
    have e3 : W.drop (W.length - 2 + 1 + 1) = [] := List.drop_eq_nil_of_le (by omega)
    have e4 : W.getD (W.length - 2) 0 = W[W.length - 2]'(by omega) := by rw [List.getD_eq_getElem?_getD, List.getElem?_eq_getElem (by omega)]; rfl
    have e5 : W.getD (W.length - 1) 0 = W[W.length - 2 + 1]'(by omega) := by rw [show W.length - 1 = W.length - 2 + 1 by omega, List.getD_eq_getElem?_getD, List.getElem?_eq_getElem (by omega)]; rfl
    rw [show 0 + 1 + 1 = 2 from rfl, e1, e2, e3, e4, e5]
    constructor
    · rintro ⟨_, h2⟩
      simp only [List.cons.injEq] at h2
      exact ⟨h, h2.2.1, h2.1⟩
    · rintro ⟨_, h1, h2⟩
      rw [h1, h2]
      exact ⟨by omega, rfl⟩
  · exact ⟨fun h' => by have := h'.1; omega, fun h' => absurd h'.1 h⟩
theorem laidB_suf (b : List Lin.By) : laidB b = if (0 : Int) < ((whB b).length : Int) ∧ sufB (whB b) [13, 10] = false then whB b ++ [13, 10] else whB b := by
  rw [laidB_is]
  have h := suf_end (whB b)
  generalize whB b = W at h ⊢
  by_cases h0 : W = []
  · subst h0
    rw [if_pos (show shut [] from Or.inl rfl), if_neg (fun h => absurd h.1 (by simp))]
  · have hp := List.length_pos_iff.2 h0
    cases hs : sufB W [13, 10]
    · rw [hs] at h
      have := mt h.2 (by decide)
      rw [if_neg (show ¬ shut W from fun h => h.elim h0 this), if_pos ⟨by omega, rfl⟩]
    · rw [if_pos (show shut W from Or.inr (h.1 hs)), if_neg (fun h => by cases h.2)]
theorem goes_laid : Goes Try.prog 27 := ⟨_, Try.func27, rfl, by kernel_rfl⟩
theorem frz_ok {w0 w : World} {S : List Nat} {M : List Ent} {b cap : Nat} {e : TypeId} {l : List Bt} {wr : Bool} (hw : Holds w0 S M w) (hM : Has M b (Frz e (l.map U8)) wr) (hc : l.length ≤ cap) : Sl8.ok w ⟨some ⟨b, 0, none⟩, cap, l⟩ := by
  obtain ⟨o, ho, hA⟩ := hw.get hM
  exact ⟨hc, Reads.block ho (Frz.all _ hA)⟩
set_option maxHeartbeats 8000000 in
theorem laid_any (s : Sl8) (w : World) (hs : s.ok w) (hl : s.l.length ≤ 1000000) : Calls Try.prog 27 [s.v].toArray w (Gives (laidB s.l) w) := by
  have hWl : (whB s.l).length ≤ 2 * s.l.length := (wh_len s.l 0).2
  have eL := laidB_suf s.l
  refine enter (n := 19) Try.func27 rfl rfl rfl (Holds.start w []) ?_
  repeat (first | refine JL.q (by first | (apply OQ.move; exact rfl) | (apply OQ.assign; exact rfl) | (apply OQ.len; exact rfl; exact rfl) | (apply OQ.addN; exact rfl; exact rfl; exact (by (try simp only []); omega)) | (apply OQ.lssN; exact rfl; exact rfl)) rfl ?_ | refine JC.seq ?_ | refine JC.region ?_ | refine JC.block ?_ | refine JC.skip ?_ | refine JC.exit ?_ | refine JL.nil ?_ | refine JE.next ?_ | refine JE.blk_normal ?_ | refine JE.then_exit ?_ | refine JE.blk_hit ?_ | refine JE.blk_miss rfl ?_ | refine JE.then_ret ?_ | refine JE.blk_ret ?_ | refine JC.label ?_ | refine JL.gon rfl rfl ?_ | refine JL.gskip rfl rfl rfl rfl ?_ | refine JL.gskipU rfl rfl rfl rfl ?_)
  refine JL.callg (ι := Nat × Nat) (fun q => .slice (some ⟨q.1, 0, none⟩) (whB s.l).length q.2) (fun q => [⟨q.1, Own 5 1 (whB s.l).length q.2 ((whB s.l).map U8), true⟩]) goes_awhole rfl rfl (fun q e he => by rw [List.mem_singleton.1 he]) (fun w' hw' => awhole_own s w' (hs.holds hw' rfl) hl) ?_
  rintro ⟨b, cap⟩
  generalize whB s.l = W at hWl eL ⊢
  dsimp only
  cases h0 : decide ((0 : Int) < (W.length : Int))
  · rw [if_neg (fun h => absurd h.1 (of_decide_eq_false h0))] at eL
    repeat (first | refine JL.q (by first | (apply OQ.gtrB; exact rfl; exact rfl; exact h0) | (apply OQ.pick_f; exact rfl; exact rfl) | (apply OQ.move; exact rfl) | (apply OQ.assign; exact rfl) | (apply OQ.len; exact rfl; exact rfl) | (apply OQ.addN; exact rfl; exact rfl; exact (by (try simp only []); omega)) | (apply OQ.lssN; exact rfl; exact rfl)) rfl ?_ | refine JC.seq ?_ | refine JC.region ?_ | refine JC.block ?_ | refine JC.skip ?_ | refine JC.exit ?_ | refine JL.nil ?_ | refine JE.next ?_ | refine JE.blk_normal ?_ | refine JE.then_exit ?_ | refine JE.blk_hit ?_ | refine JE.blk_miss rfl ?_ | refine JE.then_ret ?_ | refine JE.blk_ret ?_ | refine JC.label ?_ | refine JL.gon rfl rfl ?_ | refine JL.gskip rfl rfl rfl rfl ?_ | refine JL.gskipU rfl rfl rfl rfl ?_)
    refine JC.cond_false rfl rfl ?_
    repeat (first | refine JL.q (by first | (apply OQ.move; exact rfl) | (apply OQ.assign; exact rfl) | (apply OQ.len; exact rfl; exact rfl) | (apply OQ.addN; exact rfl; exact rfl; exact (by (try simp only []); omega)) | (apply OQ.lssN; exact rfl; exact rfl)) rfl ?_ | refine JC.seq ?_ | refine JC.region ?_ | refine JC.block ?_ | refine JC.skip ?_ | refine JC.exit ?_ | refine JL.nil ?_ | refine JE.next ?_ | refine JE.blk_normal ?_ | refine JE.then_exit ?_ | refine JE.blk_hit ?_ | refine JE.blk_miss rfl ?_ | refine JE.then_ret ?_ | refine JE.blk_ret ?_ | refine JC.label ?_ | refine JL.gon rfl rfl ?_ | refine JL.gskip rfl rfl rfl rfl ?_ | refine JL.gskipU rfl rfl rfl rfl ?_)
    refine JC.ret (JE.ret1 rfl (RV.tmp rfl) ?_)
    exact fun w' hw => ⟨⟨some ⟨b, 0, none⟩, cap, W⟩, rfl, hw.chg, eL.symm, ownb_ok hw .here⟩
  · cases hsf : sufB W [13, 10]
    · rw [if_pos ⟨of_decide_eq_true h0, hsf⟩] at eL
      repeat (first | refine JL.q (by first | (apply OQ.gtrB; exact rfl; exact rfl; exact h0) | (apply OQ.move; exact rfl) | (apply OQ.assign; exact rfl) | (apply OQ.len; exact rfl; exact rfl) | (apply OQ.addN; exact rfl; exact rfl; exact (by (try simp only []); omega)) | (apply OQ.lssN; exact rfl; exact rfl)) rfl ?_ | refine JC.seq ?_ | refine JC.region ?_ | refine JC.block ?_ | refine JC.skip ?_ | refine JC.exit ?_ | refine JL.nil ?_ | refine JE.next ?_ | refine JE.blk_normal ?_ | refine JE.then_exit ?_ | refine JE.blk_hit ?_ | refine JE.blk_miss rfl ?_ | refine JE.then_ret ?_ | refine JE.blk_ret ?_ | refine JC.label ?_ | refine JL.gon rfl rfl ?_ | refine JL.gskip rfl rfl rfl rfl ?_ | refine JL.gskipU rfl rfl rfl rfl ?_)
      refine JL.litL (xs := [.const (U8 13), .const (U8 10)]) (vs := [U8 13, U8 10]) Try.underlying22 u8e rfl rfl rfl rfl (by intro v hv; simp only [List.mem_cons, List.not_mem_nil, or_false] at hv; rcases hv with rfl | rfl <;> rfl) rfl (by decide) (by decide) rfl fun bl _ => ?_
      refine JL.gon rfl rfl ?_
      refine JL.mark (r := [U8 13, U8 10]) (te := 5) Try.underlying22 Try.underlying5 rfl .here rfl ?_
      repeat (first | refine JL.q (by first | (apply OQ.callx (vs := [Sl8.v ⟨some ⟨b, 0, none⟩, cap, W⟩, Sl8.v ⟨some ⟨bl, 0, none⟩, 2, [13, 10]⟩]); exact goes_suf; exact rfl; exact (fun w' hw' => hsf ▸ suf_any ⟨some ⟨b, 0, none⟩, cap, W⟩ ⟨some ⟨bl, 0, none⟩, 2, [13, 10]⟩ w' (ownb_ok hw' (.there .here)) (frz_ok (l := [13, 10]) hw' .here (Nat.le_refl _)) (by show W.length ≤ _; omega))) | (apply OQ.not; exact rfl) | (apply OQ.pick_t; exact rfl; exact rfl) | (apply OQ.move; exact rfl) | (apply OQ.assign; exact rfl) | (apply OQ.len; exact rfl; exact rfl) | (apply OQ.addN; exact rfl; exact rfl; exact (by (try simp only []); omega)) | (apply OQ.lssN; exact rfl; exact rfl)) rfl ?_ | refine JC.seq ?_ | refine JC.region ?_ | refine JC.block ?_ | refine JC.skip ?_ | refine JC.exit ?_ | refine JL.nil ?_ | refine JE.next ?_ | refine JE.blk_normal ?_ | refine JE.then_exit ?_ | refine JE.blk_hit ?_ | refine JE.blk_miss rfl ?_ | refine JE.then_ret ?_ | refine JE.blk_ret ?_ | refine JC.label ?_ | refine JL.gon rfl rfl ?_ | refine JL.gskip rfl rfl rfl rfl ?_ | refine JL.gskipU rfl rfl rfl rfl ?_)
      refine JC.cond_true rfl rfl ?_
      repeat (first | refine JL.q (by first | (apply OQ.move; exact rfl) | (apply OQ.assign; exact rfl) | (apply OQ.len; exact rfl; exact rfl) | (apply OQ.addN; exact rfl; exact rfl; exact (by (try simp only []); omega)) | (apply OQ.lssN; exact rfl; exact rfl)) rfl ?_ | refine JC.seq ?_ | refine JC.region ?_ | refine JC.block ?_ | refine JC.skip ?_ | refine JC.exit ?_ | refine JL.nil ?_ | refine JE.next ?_ | refine JE.blk_normal ?_ | refine JE.then_exit ?_ | refine JE.blk_hit ?_ | refine JE.blk_miss rfl ?_ | refine JE.then_ret ?_ | refine JE.blk_ret ?_ | refine JC.label ?_ | refine JL.gon rfl rfl ?_ | refine JL.gskip rfl rfl rfl rfl ?_ | refine JL.gskipU rfl rfl rfl rfl ?_)
      refine JL.appendS (r := [13, 10]) (xs := W.map U8) (k := W.length) (fun b' cap' => [⟨bl, Frz 5 [U8 13, U8 10], true⟩, ⟨b', Own 5 1 (W.length + 2) cap' (W.map U8 ++ [U8 13, U8 10]), true⟩]) Try.underlying22 Try.underlying9 u8e rfl rfl (by intro _ _; repeat (first | exact Repl.here | apply Repl.there)) (by show W.length + 2 ≤ _; omega) rfl fun b2 cap2 => ?_
      repeat (first | refine JL.q (by first | (apply OQ.move; exact rfl) | (apply OQ.assign; exact rfl) | (apply OQ.len; exact rfl; exact rfl) | (apply OQ.addN; exact rfl; exact rfl; exact (by (try simp only []); omega)) | (apply OQ.lssN; exact rfl; exact rfl)) rfl ?_ | refine JC.seq ?_ | refine JC.region ?_ | refine JC.block ?_ | refine JC.skip ?_ | refine JC.exit ?_ | refine JL.nil ?_ | refine JE.next ?_ | refine JE.blk_normal ?_ | refine JE.then_exit ?_ | refine JE.blk_hit ?_ | refine JE.blk_miss rfl ?_ | refine JE.then_ret ?_ | refine JE.blk_ret ?_ | refine JC.label ?_ | refine JL.gon rfl rfl ?_ | refine JL.gskip rfl rfl rfl rfl ?_ | refine JL.gskipU rfl rfl rfl rfl ?_)
      refine JC.ret (JE.ret1 rfl (RV.tmp rfl) ?_)
      refine fun w' hw => ⟨⟨some ⟨b2, 0, none⟩, cap2, W ++ [13, 10]⟩, ?_, hw.chg, eL.symm, ?_⟩
      · show _ = Ending.returned (.slice _ (W ++ [13, 10]).length _)
        rw [List.length_append]
      · refine ownb_ok (e := 5) (k := W.length + 2) (wr := true) hw (.there ?_)
        rw [List.map_append]
        exact .here
    · rw [if_neg (fun h => by rw [hsf] at h; cases h.2)] at eL
      repeat (first | refine JL.q (by first | (apply OQ.gtrB; exact rfl; exact rfl; exact h0) | (apply OQ.move; exact rfl) | (apply OQ.assign; exact rfl) | (apply OQ.len; exact rfl; exact rfl) | (apply OQ.addN; exact rfl; exact rfl; exact (by (try simp only []); omega)) | (apply OQ.lssN; exact rfl; exact rfl)) rfl ?_ | refine JC.seq ?_ | refine JC.region ?_ | refine JC.block ?_ | refine JC.skip ?_ | refine JC.exit ?_ | refine JL.nil ?_ | refine JE.next ?_ | refine JE.blk_normal ?_ | refine JE.then_exit ?_ | refine JE.blk_hit ?_ | refine JE.blk_miss rfl ?_ | refine JE.then_ret ?_ | refine JE.blk_ret ?_ | refine JC.label ?_ | refine JL.gon rfl rfl ?_ | refine JL.gskip rfl rfl rfl rfl ?_ | refine JL.gskipU rfl rfl rfl rfl ?_)
      refine JL.litL (xs := [.const (U8 13), .const (U8 10)]) (vs := [U8 13, U8 10]) Try.underlying22 u8e rfl rfl rfl rfl (by intro v hv; simp only [List.mem_cons, List.not_mem_nil, or_false] at hv; rcases hv with rfl | rfl <;> rfl) rfl (by decide) (by decide) rfl fun bl _ => ?_
      refine JL.gon rfl rfl ?_
      refine JL.mark (r := [U8 13, U8 10]) (te := 5) Try.underlying22 Try.underlying5 rfl .here rfl ?_
      repeat (first | refine JL.q (by first | (apply OQ.callx (vs := [Sl8.v ⟨some ⟨b, 0, none⟩, cap, W⟩, Sl8.v ⟨some ⟨bl, 0, none⟩, 2, [13, 10]⟩]); exact goes_suf; exact rfl; exact (fun w' hw' => hsf ▸ suf_any ⟨some ⟨b, 0, none⟩, cap, W⟩ ⟨some ⟨bl, 0, none⟩, 2, [13, 10]⟩ w' (ownb_ok hw' (.there .here)) (frz_ok (l := [13, 10]) hw' .here (Nat.le_refl _)) (by show W.length ≤ _; omega))) | (apply OQ.not; exact rfl) | (apply OQ.pick_t; exact rfl; exact rfl) | (apply OQ.move; exact rfl) | (apply OQ.assign; exact rfl) | (apply OQ.len; exact rfl; exact rfl) | (apply OQ.addN; exact rfl; exact rfl; exact (by (try simp only []); omega)) | (apply OQ.lssN; exact rfl; exact rfl)) rfl ?_ | refine JC.seq ?_ | refine JC.region ?_ | refine JC.block ?_ | refine JC.skip ?_ | refine JC.exit ?_ | refine JL.nil ?_ | refine JE.next ?_ | refine JE.blk_normal ?_ | refine JE.then_exit ?_ | refine JE.blk_hit ?_ | refine JE.blk_miss rfl ?_ | refine JE.then_ret ?_ | refine JE.blk_ret ?_ | refine JC.label ?_ | refine JL.gon rfl rfl ?_ | refine JL.gskip rfl rfl rfl rfl ?_ | refine JL.gskipU rfl rfl rfl rfl ?_)
      refine JC.cond_false rfl rfl ?_
      repeat (first | refine JL.q (by first | (apply OQ.move; exact rfl) | (apply OQ.assign; exact rfl) | (apply OQ.len; exact rfl; exact rfl) | (apply OQ.addN; exact rfl; exact rfl; exact (by (try simp only []); omega)) | (apply OQ.lssN; exact rfl; exact rfl)) rfl ?_ | refine JC.seq ?_ | refine JC.region ?_ | refine JC.block ?_ | refine JC.skip ?_ | refine JC.exit ?_ | refine JL.nil ?_ | refine JE.next ?_ | refine JE.blk_normal ?_ | refine JE.then_exit ?_ | refine JE.blk_hit ?_ | refine JE.blk_miss rfl ?_ | refine JE.then_ret ?_ | refine JE.blk_ret ?_ | refine JC.label ?_ | refine JL.gon rfl rfl ?_ | refine JL.gskip rfl rfl rfl rfl ?_ | refine JL.gskipU rfl rfl rfl rfl ?_)
      refine JC.ret (JE.ret1 rfl (RV.tmp rfl) ?_)
      exact fun w' hw => ⟨⟨some ⟨b, 0, none⟩, cap, W⟩, rfl, hw.chg, eL.symm, ownb_ok hw (.there .here)⟩
theorem goes_astuff : Goes Try.prog 18 := ⟨_, Try.func18, rfl, by kernel_rfl⟩
set_option maxHeartbeats 16000000 in
theorem astuff_any (s : Sl8) (w : World) (hs : s.ok w) (hl : s.l.length ≤ 1000000) : Calls Try.prog 18 [s.v].toArray w (Gives (stB s.l) w) := by
  have hLl := laidB_len s.l
  rw [stB_stb]
  refine enter (n := 43) Try.func18 rfl rfl rfl (Holds.start w []) ?_
  repeat (first | refine JL.q (by first | (apply OQ.move; exact rfl) | (apply OQ.assign; exact rfl) | (apply OQ.len; exact rfl; exact rfl) | (apply OQ.addN; exact rfl; exact rfl; exact (by (try simp only []); omega)) | (apply OQ.lssN; exact rfl; exact rfl)) rfl ?_ | refine JC.seq ?_ | refine JC.region ?_ | refine JC.block ?_ | refine JC.skip ?_ | refine JC.exit ?_ | refine JL.nil ?_ | refine JE.next ?_ | refine JE.blk_normal ?_ | refine JE.then_exit ?_ | refine JE.blk_hit ?_ | refine JE.blk_miss rfl ?_ | refine JE.then_ret ?_ | refine JE.blk_ret ?_ | refine JC.label ?_ | refine JL.gon rfl rfl ?_ | refine JL.gskip rfl rfl rfl rfl ?_ | refine JL.gskipU rfl rfl rfl rfl ?_)
  refine JL.callb (vs := [s.v]) (S' := []) [] goes_laid rfl rfl (fun w' hw' => laid_any s w' (hs.holds hw' rfl) (by omega)) (.nil _) (by simp) ?_
  intro x hx w1 hw1 okx
  rw [← hx] at hLl ⊢
  clear hx
  have hE := hw1.chg
  have hxl : x.l.length ≤ 4000000 := by omega
  repeat (first | refine JL.q (by first | (apply OQ.move; exact rfl) | (apply OQ.assign; exact rfl) | (apply OQ.len; exact rfl; exact rfl) | (apply OQ.addN; exact rfl; exact rfl; exact (by (try simp only []); omega)) | (apply OQ.lssN; exact rfl; exact rfl)) rfl ?_ | refine JC.seq ?_ | refine JC.region ?_ | refine JC.block ?_ | refine JC.skip ?_ | refine JC.exit ?_ | refine JL.nil ?_ | refine JE.next ?_ | refine JE.blk_normal ?_ | refine JE.then_exit ?_ | refine JE.blk_hit ?_ | refine JE.blk_miss rfl ?_ | refine JE.then_ret ?_ | refine JE.blk_ret ?_ | refine JC.label ?_ | refine JL.gon rfl rfl ?_ | refine JL.gskip rfl rfl rfl rfl ?_ | refine JL.gskipU rfl rfl rfl rfl ?_)
  refine JL.make0 (c := x.l.length + 1 + 2) Try.underlying22 u8e rfl rfl (by omega) rfl fun b0 _ => ?_
  repeat (first | refine JL.q (by first | (apply OQ.assign; exact cx00c) | (apply OQ.move; exact rfl) | (apply OQ.assign; exact rfl) | (apply OQ.len; exact rfl; exact rfl) | (apply OQ.addN; exact rfl; exact rfl; exact (by (try simp only []); omega)) | (apply OQ.lssN; exact rfl; exact rfl)) rfl ?_ | refine JC.seq ?_ | refine JC.region ?_ | refine JC.block ?_ | refine JC.skip ?_ | refine JC.exit ?_ | refine JL.nil ?_ | refine JE.next ?_ | refine JE.blk_normal ?_ | refine JE.then_exit ?_ | refine JE.blk_hit ?_ | refine JE.blk_miss rfl ?_ | refine JE.then_ret ?_ | refine JE.blk_ret ?_ | refine JC.label ?_ | refine JL.gon rfl rfl ?_ | refine JL.gskip rfl rfl rfl rfl ?_ | refine JL.gskipU rfl rfl rfl rfl ?_)
  refine JC.loop (fun q : Nat × Nat × Nat => [(4, .slice (some ⟨q.2.1, 0, none⟩) (stb 0 (x.l.take q.1)).length q.2.2), (5, Cx ((x.l.take q.1).foldl pl (0, 0)).1 ((x.l.take q.1).foldl pl (0, 0)).2), (15, x.v), (16, N x.l.length), (17, N q.1)])
    (fun q => [⟨q.2.1, Own 5 1 (stb 0 (x.l.take q.1)).length q.2.2 ((stb 0 (x.l.take q.1)).map U8), true⟩])
    (fun q => x.l.length - q.1) (fun q => q.1 ≤ x.l.length) (0, b0, x.l.length + 1 + 2) (Nat.zero_le _) (by repeat (first | exact SubE.nil | refine SubE.cons _ _ _ rfl ?_)) (Less.refl _) ?_
  rintro ⟨i, b, cap⟩ hi
  simp only at hi
  have hle := fold_le x.l i
  repeat (first | refine JL.q (by first | (apply OQ.move; exact rfl) | (apply OQ.assign; exact rfl) | (apply OQ.len; exact rfl; exact rfl) | (apply OQ.addN; exact rfl; exact rfl; exact (by (try simp only []); omega)) | (apply OQ.lssN; exact rfl; exact rfl)) rfl ?_ | refine JC.seq ?_ | refine JC.region ?_ | refine JC.block ?_ | refine JC.skip ?_ | refine JC.exit ?_ | refine JL.nil ?_ | refine JE.next ?_ | refine JE.blk_normal ?_ | refine JE.then_exit ?_ | refine JE.blk_hit ?_ | refine JE.blk_miss rfl ?_ | refine JE.then_ret ?_ | refine JE.blk_ret ?_ | refine JC.label ?_ | refine JL.gon rfl rfl ?_ | refine JL.gskip rfl rfl rfl rfl ?_ | refine JL.gskipU rfl rfl rfl rfl ?_)
  refine JC.cond rfl (fun h => ?_) (fun h => ?_)
  · have hi' : i < x.l.length := of_decide_eq_true h
    clear h
    have eT := fold_one pl x.l (0, 0) hi'
    have eO := stb_snoc (x.l.take i) (0, 0) (x.l.getD i 0)
    rw [← take_snoc x.l hi'] at eO
    have hO := stb_len (x.l.take i) 0
    have htl : (x.l.take i).length ≤ x.l.length := by rw [List.length_take]; omega
    obtain ⟨ba, ja, hae, hca⟩ := okx.reads.at (by simp; omega)
    have hc := hca i _ (map_at U8 0 hi')
    have hav : x.v = .slice (some ⟨ba, ja, none⟩) x.l.length x.cap := by rw [← hae]; rfl
    dsimp only at eO
    generalize (x.l.take i).foldl pl (0, 0) = T at eT hle eO ⊢
    generalize x.l.getD i 0 = c at hc eT eO
    generalize stb 0 (x.l.take i) = O at eO hO ⊢
    obtain ⟨A, eA⟩ : ∃ A : List Lin.By, A = if T.2 = 0 ∧ c = 46 then [46] else [] := ⟨_, rfl⟩
    have e0 : stb 0 (x.l.take (i + 1)) = (O ++ A) ++ [c] := by
      rw [eO, List.append_assoc, eA]
      congr 1
      split
      · rename_i hh; rw [hh.2]; rfl
      · rfl
    have hAl : A.length ≤ 1 := by rw [eA]; split <;> simp
    clear eO
    have h1 : T.1 < 4294967296 := by omega
    have h2 : T.2 < 4294967296 := by omega
    have k46 : (c.toNat : Int) = 46 ↔ c = 46 := b_eq c 46 (by decide)
    refine JC.skip (JE.next (JC.seq (JC.block (JC.seq (JC.region ?_)))))
    repeat (refine JL.q (by first | (apply OQ.idxS1; exact Try.underlying22; exact u8s; exact (congrArg some hav); exact rfl; exact hi') | (apply OQ.load_old; exact u8c; exact rfl; exact (block_lt_of_cell hc); exact (by simp); exact hc) | (apply OQ.move; exact rfl) | (apply OQ.assign; exact rfl) | (apply OQ.len; exact rfl; exact rfl) | (apply OQ.addN; exact rfl; exact rfl; exact (by (try simp only []); omega)) | (apply OQ.lssN; exact rfl; exact rfl)) rfl ?_)
    refine JL.nil (JE.next ?_)
    refine JC.mid (ι := Nat × Nat) (fun q => [(4, .slice (some ⟨q.1, 0, none⟩) (O ++ A).length q.2), (5, Cx T.1 T.2), (15, x.v), (16, N x.l.length), (17, N i), (7, U8 c)]) (fun q => [⟨q.1, Own 5 1 (O ++ A).length q.2 ((O ++ A).map U8), true⟩]) (fun _ => True) ?_ ?_
    · cases hz : decide (T.2 = 0)
      · rw [if_neg (fun h => absurd h.1 (of_decide_eq_false hz))] at eA
        subst eA
        repeat (first | refine JL.q (by first | (apply OQ.imag; exact rfl) | (apply OQ.flEq0; exact rfl; exact fl0c; exact (by omega); exact hz) | (apply OQ.pick_f; exact rfl; exact rfl) | (apply OQ.move; exact rfl) | (apply OQ.assign; exact rfl) | (apply OQ.len; exact rfl; exact rfl) | (apply OQ.addN; exact rfl; exact rfl; exact (by (try simp only []); omega)) | (apply OQ.lssN; exact rfl; exact rfl)) rfl ?_ | refine JC.seq ?_ | refine JC.region ?_ | refine JC.block ?_ | refine JC.skip ?_ | refine JC.exit ?_ | refine JL.nil ?_ | refine JE.next ?_ | refine JE.blk_normal ?_ | refine JE.then_exit ?_ | refine JE.blk_hit ?_ | refine JE.blk_miss rfl ?_ | refine JE.then_ret ?_ | refine JE.blk_ret ?_ | refine JC.label ?_ | refine JL.gon rfl rfl ?_ | refine JL.gskip rfl rfl rfl rfl ?_ | refine JL.gskipU rfl rfl rfl rfl ?_)
        refine JC.cond_false rfl rfl ?_
        rw [List.append_nil]
        repeat (first | refine JL.q (by first | (apply OQ.move; exact rfl) | (apply OQ.assign; exact rfl) | (apply OQ.len; exact rfl; exact rfl) | (apply OQ.addN; exact rfl; exact rfl; exact (by (try simp only []); omega)) | (apply OQ.lssN; exact rfl; exact rfl)) rfl ?_ | refine JC.seq ?_ | refine JC.region ?_ | refine JC.block ?_ | refine JC.skip ?_ | refine JC.exit ?_ | refine JL.nil ?_ | refine JE.next ?_ | refine JE.blk_normal ?_ | refine JE.then_exit ?_ | refine JE.blk_hit ?_ | refine JE.blk_miss rfl ?_ | refine JE.then_ret ?_ | refine JE.blk_ret ?_ | refine JC.label ?_ | refine JL.gon rfl rfl ?_ | refine JL.gskip rfl rfl rfl rfl ?_ | refine JL.gskipU rfl rfl rfl rfl ?_)
        exact JE.mid (b, cap) trivial (by repeat (first | exact SubE.nil | refine SubE.cons _ _ _ rfl ?_)) (Less.refl _)
      · have hz' := of_decide_eq_true hz
        cases h46 : decide ((c.toNat : Int) = 46)
        · rw [if_neg (fun h => absurd (k46.2 h.2) (of_decide_eq_false h46))] at eA
          subst eA
          repeat (first | refine JL.q (by first | (apply OQ.imag; exact rfl) | (apply OQ.flEq0; exact rfl; exact fl0c; exact (by omega); exact hz) | (apply OQ.idxZ (l := [46]) (i := 0); exact Try.underlying9; exact rfl; exact rfl; exact (by decide)) | (apply OQ.eqB; exact rfl; exact rfl; exact h46) | (apply OQ.pick_t; exact rfl; exact rfl) | (apply OQ.move; exact rfl) | (apply OQ.assign; exact rfl) | (apply OQ.len; exact rfl; exact rfl) | (apply OQ.addN; exact rfl; exact rfl; exact (by (try simp only []); omega)) | (apply OQ.lssN; exact rfl; exact rfl)) rfl ?_ | refine JC.seq ?_ | refine JC.region ?_ | refine JC.block ?_ | refine JC.skip ?_ | refine JC.exit ?_ | refine JL.nil ?_ | refine JE.next ?_ | refine JE.blk_normal ?_ | refine JE.then_exit ?_ | refine JE.blk_hit ?_ | refine JE.blk_miss rfl ?_ | refine JE.then_ret ?_ | refine JE.blk_ret ?_ | refine JC.label ?_ | refine JL.gon rfl rfl ?_ | refine JL.gskip rfl rfl rfl rfl ?_ | refine JL.gskipU rfl rfl rfl rfl ?_)
          refine JC.cond_false rfl rfl ?_
          rw [List.append_nil]
          repeat (first | refine JL.q (by first | (apply OQ.move; exact rfl) | (apply OQ.assign; exact rfl) | (apply OQ.len; exact rfl; exact rfl) | (apply OQ.addN; exact rfl; exact rfl; exact (by (try simp only []); omega)) | (apply OQ.lssN; exact rfl; exact rfl)) rfl ?_ | refine JC.seq ?_ | refine JC.region ?_ | refine JC.block ?_ | refine JC.skip ?_ | refine JC.exit ?_ | refine JL.nil ?_ | refine JE.next ?_ | refine JE.blk_normal ?_ | refine JE.then_exit ?_ | refine JE.blk_hit ?_ | refine JE.blk_miss rfl ?_ | refine JE.then_ret ?_ | refine JE.blk_ret ?_ | refine JC.label ?_ | refine JL.gon rfl rfl ?_ | refine JL.gskip rfl rfl rfl rfl ?_ | refine JL.gskipU rfl rfl rfl rfl ?_)
          exact JE.mid (b, cap) trivial (by repeat (first | exact SubE.nil | refine SubE.cons _ _ _ rfl ?_)) (Less.refl _)
        · rw [if_pos ⟨hz', k46.1 (of_decide_eq_true h46)⟩] at eA
          subst eA
          repeat (first | refine JL.q (by first | (apply OQ.imag; exact rfl) | (apply OQ.flEq0; exact rfl; exact fl0c; exact (by omega); exact hz) | (apply OQ.idxZ (l := [46]) (i := 0); exact Try.underlying9; exact rfl; exact rfl; exact (by decide)) | (apply OQ.eqB; exact rfl; exact rfl; exact h46) | (apply OQ.pick_t; exact rfl; exact rfl) | (apply OQ.move; exact rfl) | (apply OQ.assign; exact rfl) | (apply OQ.len; exact rfl; exact rfl) | (apply OQ.addN; exact rfl; exact rfl; exact (by (try simp only []); omega)) | (apply OQ.lssN; exact rfl; exact rfl)) rfl ?_ | refine JC.seq ?_ | refine JC.region ?_ | refine JC.block ?_ | refine JC.skip ?_ | refine JC.exit ?_ | refine JL.nil ?_ | refine JE.next ?_ | refine JE.blk_normal ?_ | refine JE.then_exit ?_ | refine JE.blk_hit ?_ | refine JE.blk_miss rfl ?_ | refine JE.then_ret ?_ | refine JE.blk_ret ?_ | refine JC.label ?_ | refine JL.gon rfl rfl ?_ | refine JL.gskip rfl rfl rfl rfl ?_ | refine JL.gskipU rfl rfl rfl rfl ?_)
          refine JC.cond_true rfl rfl ?_
          repeat (first | refine JL.q (by first | (apply OQ.move; exact rfl) | (apply OQ.assign; exact rfl) | (apply OQ.len; exact rfl; exact rfl) | (apply OQ.addN; exact rfl; exact rfl; exact (by (try simp only []); omega)) | (apply OQ.lssN; exact rfl; exact rfl)) rfl ?_ | refine JC.seq ?_ | refine JC.region ?_ | refine JC.block ?_ | refine JC.skip ?_ | refine JC.exit ?_ | refine JL.nil ?_ | refine JE.next ?_ | refine JE.blk_normal ?_ | refine JE.then_exit ?_ | refine JE.blk_hit ?_ | refine JE.blk_miss rfl ?_ | refine JE.then_ret ?_ | refine JE.blk_ret ?_ | refine JC.label ?_ | refine JL.gon rfl rfl ?_ | refine JL.gskip rfl rfl rfl rfl ?_ | refine JL.gskipU rfl rfl rfl rfl ?_)
          refine JL.appendS (r := [46]) (xs := O.map U8) (k := O.length) (fun b' cap' => [⟨b', Own 5 1 (O.length + 1) cap' (O.map U8 ++ [U8 46]), true⟩]) Try.underlying22 Try.underlying9 u8e rfl rfl (by intro _ _; repeat (first | exact Repl.here | apply Repl.there)) (by show O.length + 1 ≤ _; omega) rfl fun b2 cap2 => ?_
          repeat (first | refine JL.q (by first | (apply OQ.move; exact rfl) | (apply OQ.assign; exact rfl) | (apply OQ.len; exact rfl; exact rfl) | (apply OQ.addN; exact rfl; exact rfl; exact (by (try simp only []); omega)) | (apply OQ.lssN; exact rfl; exact rfl)) rfl ?_ | refine JC.seq ?_ | refine JC.region ?_ | refine JC.block ?_ | refine JC.skip ?_ | refine JC.exit ?_ | refine JL.nil ?_ | refine JE.next ?_ | refine JE.blk_normal ?_ | refine JE.then_exit ?_ | refine JE.blk_hit ?_ | refine JE.blk_miss rfl ?_ | refine JE.then_ret ?_ | refine JE.blk_ret ?_ | refine JC.label ?_ | refine JL.gon rfl rfl ?_ | refine JL.gskip rfl rfl rfl rfl ?_ | refine JL.gskipU rfl rfl rfl rfl ?_)
          refine JE.mid (b2, cap2) trivial ?_ (.keep _ _ _ _ _ _ (fun o h => ?_) (.nil _))
          · rw [List.length_append]
            exact (by repeat (first | exact SubE.nil | refine SubE.cons _ _ _ rfl ?_))
          · dsimp only
            rw [List.length_append, List.map_append]
            exact h
    rintro ⟨b1, cap1⟩ _
    dsimp only
    have hA : (O ++ A).length ≤ 16000000 := by rw [List.length_append]; omega
    generalize O ++ A = O1 at e0 hA ⊢
    repeat (first | refine JL.q (by first | (apply OQ.move; exact rfl) | (apply OQ.assign; exact rfl) | (apply OQ.len; exact rfl; exact rfl) | (apply OQ.addN; exact rfl; exact rfl; exact (by (try simp only []); omega)) | (apply OQ.lssN; exact rfl; exact rfl)) rfl ?_ | refine JC.seq ?_ | refine JC.region ?_ | refine JC.block ?_ | refine JC.skip ?_ | refine JC.exit ?_ | refine JL.nil ?_ | refine JE.next ?_ | refine JE.blk_normal ?_ | refine JE.then_exit ?_ | refine JE.blk_hit ?_ | refine JE.blk_miss rfl ?_ | refine JE.then_ret ?_ | refine JE.blk_ret ?_ | refine JC.label ?_ | refine JL.gon rfl rfl ?_ | refine JL.gskip rfl rfl rfl rfl ?_ | refine JL.gskipU rfl rfl rfl rfl ?_)
    refine JL.push1 (v := U8 c) (xs := O1.map U8) (fun b' cap' => [⟨b', Own 5 1 (O1.length + 1) cap' (O1.map U8 ++ [U8 c]), true⟩]) Try.underlying22 u8e rfl rfl rfl rfl (fun _ => rfl) (by intro _ _; repeat (first | exact Repl.here | apply Repl.there)) (by omega) (by omega) rfl rfl fun bl b2 cap2 => ?_
    repeat (first | refine JL.q (by first | (apply OQ.callx (vs := [Cx T.1 T.2, U8 c]); exact goes_next; exact rfl; exact (fun w' _ => next_any T c w' h1 h2)) | (apply OQ.move; exact rfl) | (apply OQ.assign; exact rfl) | (apply OQ.len; exact rfl; exact rfl) | (apply OQ.addN; exact rfl; exact rfl; exact (by (try simp only []); omega)) | (apply OQ.lssN; exact rfl; exact rfl)) rfl ?_ | refine JC.seq ?_ | refine JC.region ?_ | refine JC.block ?_ | refine JC.skip ?_ | refine JC.exit ?_ | refine JL.nil ?_ | refine JE.next ?_ | refine JE.blk_normal ?_ | refine JE.then_exit ?_ | refine JE.blk_hit ?_ | refine JE.blk_miss rfl ?_ | refine JE.then_ret ?_ | refine JE.blk_ret ?_ | refine JC.label ?_ | refine JL.gon rfl rfl ?_ | refine JL.gskip rfl rfl rfl rfl ?_ | refine JL.gskipU rfl rfl rfl rfl ?_)
    refine JE.again (i := (i, b, cap)) (i + 1, b2, cap2) hi' (by show x.l.length - (i + 1) < x.l.length - i; omega) ?_ (.keep _ _ _ _ _ _ (fun o h => ?_) (.nil _))
    · dsimp only
      rw [eT, e0, List.length_append]
      exact (by repeat (first | exact SubE.nil | refine SubE.cons _ _ _ rfl ?_))
    · dsimp only
      rw [e0, List.length_append, List.map_append]
      exact h
  · have hi' : ¬ i < x.l.length := of_decide_eq_false h
    obtain rfl : i = x.l.length := by omega
    clear h
    have hO := stb_len x.l 0
    rw [List.take_length] at hle ⊢
    generalize stb 0 x.l = O at hO ⊢
    repeat (first | refine JL.q (by first | (apply OQ.move; exact rfl) | (apply OQ.assign; exact rfl) | (apply OQ.len; exact rfl; exact rfl) | (apply OQ.addN; exact rfl; exact rfl; exact (by (try simp only []); omega)) | (apply OQ.lssN; exact rfl; exact rfl)) rfl ?_ | refine JC.seq ?_ | refine JC.region ?_ | refine JC.block ?_ | refine JC.skip ?_ | refine JC.exit ?_ | refine JL.nil ?_ | refine JE.next ?_ | refine JE.blk_normal ?_ | refine JE.then_exit ?_ | refine JE.blk_hit ?_ | refine JE.blk_miss rfl ?_ | refine JE.then_ret ?_ | refine JE.blk_ret ?_ | refine JC.label ?_ | refine JL.gon rfl rfl ?_ | refine JL.gskip rfl rfl rfl rfl ?_ | refine JL.gskipU rfl rfl rfl rfl ?_)
    refine JL.appendS (r := [46]) (xs := O.map U8) (k := O.length) (fun b' cap' => [⟨b', Own 5 1 (O.length + 1) cap' (O.map U8 ++ [U8 46]), true⟩]) Try.underlying22 Try.underlying9 u8e rfl rfl (by intro _ _; repeat (first | exact Repl.here | apply Repl.there)) (by show O.length + 1 ≤ _; omega) rfl fun b2 cap2 => ?_
    repeat (first | refine JL.q (by first | (apply OQ.move; exact rfl) | (apply OQ.assign; exact rfl) | (apply OQ.len; exact rfl; exact rfl) | (apply OQ.addN; exact rfl; exact rfl; exact (by (try simp only []); omega)) | (apply OQ.lssN; exact rfl; exact rfl)) rfl ?_ | refine JC.seq ?_ | refine JC.region ?_ | refine JC.block ?_ | refine JC.skip ?_ | refine JC.exit ?_ | refine JL.nil ?_ | refine JE.next ?_ | refine JE.blk_normal ?_ | refine JE.then_exit ?_ | refine JE.blk_hit ?_ | refine JE.blk_miss rfl ?_ | refine JE.then_ret ?_ | refine JE.blk_ret ?_ | refine JC.label ?_ | refine JL.gon rfl rfl ?_ | refine JL.gskip rfl rfl rfl rfl ?_ | refine JL.gskipU rfl rfl rfl rfl ?_)
    refine JL.appendS (r := [13, 10]) (xs := O.map U8 ++ [U8 46]) (k := O.length + 1) (fun b' cap' => [⟨b', Own 5 1 (O.length + 1 + 2) cap' ((O.map U8 ++ [U8 46]) ++ [U8 13, U8 10]), true⟩]) Try.underlying22 Try.underlying9 u8e rfl rfl (by intro _ _; repeat (first | exact Repl.here | apply Repl.there)) (by show O.length + 1 + 2 ≤ _; omega) rfl fun b3 cap3 => ?_
    repeat (first | refine JL.q (by first | (apply OQ.move; exact rfl) | (apply OQ.assign; exact rfl) | (apply OQ.len; exact rfl; exact rfl) | (apply OQ.addN; exact rfl; exact rfl; exact (by (try simp only []); omega)) | (apply OQ.lssN; exact rfl; exact rfl)) rfl ?_ | refine JC.seq ?_ | refine JC.region ?_ | refine JC.block ?_ | refine JC.skip ?_ | refine JC.exit ?_ | refine JL.nil ?_ | refine JE.next ?_ | refine JE.blk_normal ?_ | refine JE.then_exit ?_ | refine JE.blk_hit ?_ | refine JE.blk_miss rfl ?_ | refine JE.then_ret ?_ | refine JE.blk_ret ?_ | refine JC.label ?_ | refine JL.gon rfl rfl ?_ | refine JL.gskip rfl rfl rfl rfl ?_ | refine JL.gskipU rfl rfl rfl rfl ?_)
    refine JC.ret (JE.ret1 rfl (RV.tmp rfl) ?_)
    refine fun w' hw => ⟨⟨some ⟨b3, 0, none⟩, cap3, O ++ [46, 13, 10]⟩, ?_, hE.trans hw.chg, rfl, ?_⟩
    · show _ = Ending.returned (.slice _ (O ++ [46, 13, 10]).length _)
      rw [List.length_append]; rfl
    · refine ownb_ok (e := 5) (k := O.length + 1 + 2) (wr := true) hw ?_
      rw [List.map_append, List.append_assoc]
      exact .here
end Go.Proofs.Ytnopllkpfdgkkaa
