/-
  Of no statement by itself: the texts TkB, LsC, TkC, TokD, TkE, TkF, TkD, TkG, MibF, MimK, LtE, LtF, LtG, LtH, MibG, MibT, MibH, MibI, MimL in one.
  Conditions: each theorem's own.
-/
import Derived.Test.YtbbmhkdfdgnkpaaGreatDoorDd
import Derived.Shelf.Strings.OnBuilder
import Derived.Shelf.Strings.Split
set_option linter.unusedSimpArgs false
set_option linter.unusedVariables false
/-
  Of no statement by itself: what the landed token's comment and quoted give.
  Conditions: each theorem's own.
-/
namespace Go.Proofs.YtbbmhkdfdgnkpaaGreatDoor
set_option maxRecDepth 10000
open Sl Fld Tok
theorem accE_own {e : TypeId} (p : Nat × Nat) (o : List Bt) : accE e (some p) (o.map U8) = [⟨p.1, Sl.Own e 1 o.length p.2 (o.map U8), true⟩] := by
  show [(⟨p.1, Sl.Own e 1 (o.map U8).length p.2 (o.map U8), true⟩ : Ent)] = _
  rw [List.length_map]
theorem JC.scopeP {P : Program} {n : Nat} {w0 : World} {S : List Nat} {Q : Exit → Act → World → Prop} {E : Env} {M : List Ent} {ι : Type} (l : Nat) (Ei : ι → Env) (Mi : ι → List Ent) (μ : ι → Nat) (I : ι → Prop) {c rest : Code} (hf : findLabel c l = some (.seq .skip rest))
    (pass : ∀ i, I i → JC P n w0 S (Exit.jump l (Jmp n w0 S Ei Mi fun j => I j ∧ μ j < μ i) Q) rest (Ei i) (Mi i))
    (first : (∀ i, I i → JC P n w0 S (Exit.jump l (Jmp n w0 S Ei Mi I) Q) rest (Ei i) (Mi i)) → JC P n w0 S (Exit.jump l (Jmp n w0 S Ei Mi I) Q) c E M) : JC P n w0 S Q (.scope c) E M :=
  JC.scope l Ei Mi μ I hf (first fun i hi => (pass i hi).mono fun e a w hq => by
    cases e with
    | goto l' => exact ⟨hq.1, let ⟨j, h1, h2⟩ := hq.2; ⟨j, h1.1, h2⟩⟩
    | _ => exact hq) fun i hi => JC.seq (JC.skip (JE.next (pass i hi)))
/-! ### comments -/
def cmV (o : Except Nat Nat) : Value := match o with
  | .ok m => .tuple #[N m, N 0]
  | .error e => .tuple #[N 0, N e]
set_option maxHeartbeats 16000000 in
theorem comment_any (r : List Bt) (w : World) (hl : r.length < 9223372036854770000) : Calls Tryz.prog 121 [Z (40 :: r)].toArray w fun e w' => e = .returned (cmV (commR (40 :: r) 0 0)) ∧ Ext w w' := by
  refine enter (n := 32) Tryz.func121 rfl rfl rfl (Holds.start w []) ?_
  generalize hs : 40 :: r = s
  have hsl : s.length < 9223372036854770001 := by rw [← hs, List.length_cons]; omega
  have hs0 : s.getD 0 0 = 40 := by rw [← hs]; rfl
  clear hs
  repeat (refine JL.q (by fail) rfl ?_)
  refine JC.seq (JC.region ?_)
  repeat (refine JL.q (by (apply OQ.assign; exact rfl)) rfl ?_)
  refine JL.nil (JE.next ?_)
  refine JC.scopeP (ι := Nat × Nat) 0 (fun i => [(0, Z s), (4, N i.1), (5, N i.2)]) (fun _ => []) (fun i => s.length + 1 - i.1) (fun i => i.1 ≤ s.length + 1 ∧ i.2 ≤ 9 ∧ (0 < i.2 ∨ i.1 = 0) ∧ commR (s.drop i.1) i.2 i.1 = commR s 0 0) rfl ?_ ?_
  · rintro ⟨k, d⟩ ⟨hk, hd, h0, hc⟩
    dsimp only at hk hd h0 hc ⊢
    repeat (first | refine JL.q (by first | (apply OQ.lenS; exact Tryz.underlying9; exact rfl) | (apply OQ.move; exact rfl) | (apply OQ.geqN; exact rfl; exact rfl)) rfl ?_ | refine JC.seq ?_ | refine JC.region ?_ | refine JL.nil ?_ | refine JE.next ?_)
    refine JC.cond rfl (fun h => ?_) (fun h => ?_)
    · have hk' : s.length ≤ k := of_decide_eq_true h
      rw [List.drop_eq_nil_of_le hk', comm_e] at hc
      rw [← hc]
      repeat (first | refine JL.q (by (apply OQ.assign; exact rfl)) rfl ?_ | refine JC.seq ?_ | refine JC.region ?_ | refine JL.nil ?_ | refine JE.next ?_)
      refine JC.ret (JE.then_ret (JE.jump_ret ?_))
      exact JE.ret2 rfl (RV.tmp rfl) (RV.tmp rfl) fun w' hw => ⟨rfl, hw.chg⟩
    · have hk' : k < s.length := by have := of_decide_eq_false h; omega
      clear h hk
      have hdr : s.drop k = s.getD k 0 :: s.drop (k + 1) := by rw [List.drop_eq_getElem_cons hk', List.getD_eq_getElem?_getD, List.getElem?_eq_getElem hk']; rfl
      have h0' : 0 < d ∨ s.getD k 0 = 40 := h0.imp id fun h => by rw [h]; exact hs0
      clear h0
      rw [hdr] at hc
      have i0 := fun {n : Nat} {E : Env} {C : World → Prop} {dst : Option Tmp} {ty : TypeId} {pos : String} {aft : Array Edge} {g : Option (Nat × Bool)} {x y : Operand} => idxAt10 hk' (n := n) (E := E) (C := C) (dst := dst) (ty := ty) (pos := pos) (aft := aft) (g := g) (x := x) (y := y)
      generalize s.getD k 0 = c at hc i0 h0'
      cases h40 : decide (c = 40)
      · cases h41 : decide (c = 41)
        · cases h92 : decide (c = 92)
          · rw [comm_c (of_decide_eq_false h40) (of_decide_eq_false h41) (of_decide_eq_false h92)] at hc
            have hd0 : 0 < d := h0'.resolve_right (of_decide_eq_false h40)
            repeat (first | refine JL.q (by first | (apply i0; exact rfl; exact rfl) | (apply OQ.eq8T (b := 40); exact rfl; exact rfl; exact h40) | (apply OQ.move; exact rfl) | (apply OQ.assign; exact rfl)) rfl ?_ | refine JC.seq ?_ | refine JC.region ?_ | refine JC.block ?_ | refine JC.skip ?_ | refine JL.nil ?_ | refine JE.next ?_)
            refine JC.cond rfl (fun h => by cases h) (fun _ => ?_)
            repeat (first | refine JL.q (by first | (apply OQ.eq8T (b := 41); exact rfl; exact rfl; exact h41) | (apply OQ.assign; exact rfl)) rfl ?_ | refine JC.seq ?_ | refine JC.region ?_ | refine JL.nil ?_ | refine JE.next ?_)
            refine JC.cond rfl (fun h => by cases h) (fun _ => ?_)
            repeat (first | refine JL.q (by first | (apply OQ.eq8T (b := 92); exact rfl; exact rfl; exact h92) | (apply OQ.assign; exact rfl)) rfl ?_ | refine JC.seq ?_ | refine JC.region ?_ | refine JL.nil ?_ | refine JE.next ?_)
            refine JC.cond rfl (fun h => by cases h) (fun _ => ?_)
            repeat (first | refine JL.q (by first | (apply OQ.move; exact rfl) | (apply OQ.assign; exact rfl) | (apply OQ.addN; exact rfl; exact rfl; exact (by (try simp only []); omega)) | (apply OQ.gtrN; exact rfl; exact rfl)) rfl ?_ | refine JC.seq ?_ | refine JC.region ?_ | refine JC.skip ?_ | refine JL.nil ?_ | refine JE.next ?_ | refine JE.blk_normal ?_)
            refine JC.cond rfl (fun _ => JC.goto (JE.then_goto ?_)) (fun h => absurd hd0 (of_decide_eq_false h))
            exact JE.jump_to (k + 1, d) ⟨⟨by dsimp only; omega, hd, Or.inl hd0, hc⟩, by dsimp only; omega⟩ (by repeat (first | exact SubE.nil | refine SubE.cons _ _ _ rfl ?_)) (Less.refl _)
          · rw [of_decide_eq_true h92] at hc
            have hd0 : 0 < d := h0'.resolve_right (of_decide_eq_false h40)
            have hc' : commR (s.drop (k + 2)) d (k + 2) = commR s 0 0 := by
              by_cases he : k + 1 < s.length
              · have hdr' : s.drop (k + 1) = s.getD (k + 1) 0 :: s.drop (k + 2) := by rw [List.drop_eq_getElem_cons he, List.getD_eq_getElem?_getD, List.getElem?_eq_getElem he]; rfl
                rw [hdr', comm_92] at hc
                exact hc
              · rw [List.drop_eq_nil_of_le (by omega), comm_92e] at hc
                rw [List.drop_eq_nil_of_le (by omega), comm_e]
                exact hc
            repeat (first | refine JL.q (by first | (apply i0; exact rfl; exact rfl) | (apply OQ.eq8T (b := 40); exact rfl; exact rfl; exact h40) | (apply OQ.move; exact rfl) | (apply OQ.assign; exact rfl)) rfl ?_ | refine JC.seq ?_ | refine JC.region ?_ | refine JC.block ?_ | refine JC.skip ?_ | refine JL.nil ?_ | refine JE.next ?_)
            refine JC.cond rfl (fun h => by cases h) (fun _ => ?_)
            repeat (first | refine JL.q (by first | (apply OQ.eq8T (b := 41); exact rfl; exact rfl; exact h41) | (apply OQ.assign; exact rfl)) rfl ?_ | refine JC.seq ?_ | refine JC.region ?_ | refine JL.nil ?_ | refine JE.next ?_)
            refine JC.cond rfl (fun h => by cases h) (fun _ => ?_)
            repeat (first | refine JL.q (by first | (apply OQ.eq8T (b := 92); exact rfl; exact rfl; exact h92) | (apply OQ.assign; exact rfl)) rfl ?_ | refine JC.seq ?_ | refine JC.region ?_ | refine JL.nil ?_ | refine JE.next ?_)
            refine JC.cond rfl (fun _ => ?_) (fun h => by cases h)
            repeat (first | refine JL.q (by first | (apply OQ.move; exact rfl) | (apply OQ.assign; exact rfl) | (apply OQ.addN; exact rfl; exact rfl; exact (by (try simp only []); omega)) | (apply OQ.gtrN; exact rfl; exact rfl)) rfl ?_ | refine JC.seq ?_ | refine JC.region ?_ | refine JL.nil ?_ | refine JE.next ?_ | refine JE.blk_normal ?_)
            refine JC.cond rfl (fun _ => JC.goto (JE.then_goto ?_)) (fun h => absurd hd0 (of_decide_eq_false h))
            exact JE.jump_to (k + 2, d) ⟨⟨by dsimp only; omega, hd, Or.inl hd0, hc'⟩, by dsimp only; omega⟩ (by repeat (first | exact SubE.nil | refine SubE.cons _ _ _ rfl ?_)) (Less.refl _)
        · have h40' : ¬ c = 40 := of_decide_eq_false h40
          rw [of_decide_eq_true h41, comm_41] at hc
          have hd0 : 0 < d := h0'.resolve_right h40'
          repeat (first | refine JL.q (by first | (apply i0; exact rfl; exact rfl) | (apply OQ.eq8T (b := 40); exact rfl; exact rfl; exact h40) | (apply OQ.move; exact rfl) | (apply OQ.assign; exact rfl)) rfl ?_ | refine JC.seq ?_ | refine JC.region ?_ | refine JC.block ?_ | refine JC.skip ?_ | refine JL.nil ?_ | refine JE.next ?_)
          refine JC.cond rfl (fun h => by cases h) (fun _ => ?_)
          repeat (first | refine JL.q (by first | (apply OQ.eq8T (b := 41); exact rfl; exact rfl; exact h41) | (apply OQ.assign; exact rfl)) rfl ?_ | refine JC.seq ?_ | refine JC.region ?_ | refine JL.nil ?_ | refine JE.next ?_)
          refine JC.cond rfl (fun _ => ?_) (fun h => by cases h)
          repeat (first | refine JL.q (by first | (apply OQ.move; exact rfl) | (apply OQ.assign; exact rfl) | (apply OQ.addN; exact rfl; exact rfl; exact (by (try simp only []); omega)) | (apply OQ.subN; exact rfl; exact rfl; exact (by (try simp only []); omega); exact (by (try simp only []); omega)) | (apply OQ.gtrN; exact rfl; exact rfl)) rfl ?_ | refine JC.seq ?_ | refine JC.region ?_ | refine JL.nil ?_ | refine JE.next ?_ | refine JE.blk_normal ?_)
          refine JC.cond rfl (fun h => ?_) (fun h => ?_)
          · have hd1 : 0 < d - 1 := of_decide_eq_true h
            rw [if_neg (by omega)] at hc
            refine JC.goto (JE.then_goto ?_)
            exact JE.jump_to (k + 1, d - 1) ⟨⟨by dsimp only; omega, by dsimp only; omega, Or.inl hd1, hc⟩, by dsimp only; omega⟩ (by repeat (first | exact SubE.nil | refine SubE.cons _ _ _ rfl ?_)) (Less.refl _)
          · have hd1 : ¬ 0 < d - 1 := of_decide_eq_false h
            rw [if_pos (by omega)] at hc
            rw [← hc]
            repeat (first | refine JL.q (by first | (apply OQ.move; exact rfl) | (apply OQ.assign; exact rfl)) rfl ?_ | refine JC.seq ?_ | refine JC.region ?_ | refine JC.skip ?_ | refine JL.nil ?_ | refine JE.next ?_)
            refine JC.ret (JE.jump_ret ?_)
            exact JE.ret2 rfl (RV.tmp rfl) (RV.tmp rfl) fun w' hw => ⟨rfl, hw.chg⟩
      · rw [of_decide_eq_true h40, comm_40] at hc
        clear h0'
        by_cases h8 : 8 < d
        · rw [if_pos h8] at hc
          rw [← hc]
          repeat (first | refine JL.q (by first | (apply i0; exact rfl; exact rfl) | (apply OQ.eq8T (b := 40); exact rfl; exact rfl; exact h40) | (apply OQ.move; exact rfl) | (apply OQ.assign; exact rfl)) rfl ?_ | refine JC.seq ?_ | refine JC.region ?_ | refine JC.block ?_ | refine JC.skip ?_ | refine JL.nil ?_ | refine JE.next ?_)
          refine JC.cond rfl (fun _ => ?_) (fun h => by cases h)
          repeat (first | refine JL.q (by first | (apply OQ.move; exact rfl) | (apply OQ.gtrN; exact rfl; exact rfl)) rfl ?_ | refine JC.seq ?_ | refine JC.region ?_ | refine JL.nil ?_ | refine JE.next ?_)
          refine JC.cond rfl (fun _ => ?_) (fun h => absurd h8 (of_decide_eq_false h))
          repeat (first | refine JL.q (by (apply OQ.assign; exact rfl)) rfl ?_ | refine JC.seq ?_ | refine JC.region ?_ | refine JL.nil ?_ | refine JE.next ?_)
          refine JC.ret ?_
          repeat (first | refine JE.then_ret ?_ | refine JE.blk_ret ?_)
          refine JE.jump_ret ?_
          exact JE.ret2 rfl (RV.tmp rfl) (RV.tmp rfl) fun w' hw => ⟨rfl, hw.chg⟩
        · rw [if_neg h8] at hc
          repeat (first | refine JL.q (by first | (apply i0; exact rfl; exact rfl) | (apply OQ.eq8T (b := 40); exact rfl; exact rfl; exact h40) | (apply OQ.move; exact rfl) | (apply OQ.assign; exact rfl)) rfl ?_ | refine JC.seq ?_ | refine JC.region ?_ | refine JC.block ?_ | refine JC.skip ?_ | refine JL.nil ?_ | refine JE.next ?_)
          refine JC.cond rfl (fun _ => ?_) (fun h => by cases h)
          repeat (first | refine JL.q (by first | (apply OQ.move; exact rfl) | (apply OQ.gtrN; exact rfl; exact rfl)) rfl ?_ | refine JC.seq ?_ | refine JC.region ?_ | refine JL.nil ?_ | refine JE.next ?_)
          refine JC.cond rfl (fun h => absurd (of_decide_eq_true h) h8) (fun _ => ?_)
          repeat (first | refine JL.q (by first | (apply OQ.move; exact rfl) | (apply OQ.assign; exact rfl) | (apply OQ.addN; exact rfl; exact rfl; exact (by (try simp only []); omega)) | (apply OQ.gtrN; exact rfl; exact rfl)) rfl ?_ | refine JC.seq ?_ | refine JC.region ?_ | refine JC.skip ?_ | refine JL.nil ?_ | refine JE.next ?_ | refine JE.blk_normal ?_)
          refine JC.cond rfl (fun _ => JC.goto (JE.then_goto ?_)) (fun h => absurd (Nat.succ_pos d) (of_decide_eq_false h))
          exact JE.jump_to (k + 1, d + 1) ⟨⟨by dsimp only; omega, by dsimp only; omega, Or.inl (Nat.succ_pos d), hc⟩, by dsimp only; omega⟩ (by repeat (first | exact SubE.nil | refine SubE.cons _ _ _ rfl ?_)) (Less.refl _)
  · intro hp
    refine JC.seq (JC.region ?_)
    repeat (refine JL.q (by (apply OQ.assign; exact rfl)) rfl ?_)
    refine JL.nil (JE.next ?_)
    refine JC.seq (JC.region ?_)
    repeat (refine JL.q (by (apply OQ.assign; exact rfl)) rfl ?_)
    refine JL.nil (JE.next ?_)
    refine JC.seq (JC.label (JE.next ?_))
    exact (hp (0, 0) ⟨Nat.zero_le _, Nat.zero_le _, Or.inr rfl, rfl⟩).weak (by repeat (first | exact SubE.nil | refine SubE.cons _ _ _ rfl ?_)) (Less.refl _)
/-! ### quoted texts -/
set_option maxHeartbeats 16000000 in
theorem quoted_any (c0 : Bt) (r : List Bt) (w : World) (hl : r.length < 9223372036854770000) : Calls Tryz.prog 122 [Z (c0 :: r)].toArray w fun e w' => e = .returned (N (quotR r 1)) ∧ Ext w w' := by
  refine enter (n := 21) Tryz.func122 rfl rfl rfl (Holds.start w []) ?_
  rw [show quotR r 1 = quotR ((c0 :: r).drop 1) 1 from rfl]
  generalize hs : c0 :: r = s
  have hsl : s.length < 9223372036854770001 := by rw [← hs, List.length_cons]; omega
  clear hs
  repeat (first | refine JL.q (by (apply OQ.assign; exact rfl)) rfl ?_ | refine JC.seq ?_ | refine JC.region ?_ | refine JC.block ?_ | refine JL.nil ?_ | refine JE.next ?_)
  refine JC.loop (fun k : Nat => [(0, Z s), (3, N k)]) (fun _ => []) (fun k => s.length + 1 - k) (fun k => k ≤ s.length + 1 ∧ quotR (s.drop k) k = quotR (s.drop 1) 1) 1 ⟨by omega, rfl⟩ (by repeat (first | exact SubE.nil | refine SubE.cons _ _ _ rfl ?_)) (Less.refl _) ?_
  rintro k ⟨hk, hc⟩
  repeat (first | refine JL.q (by first | (apply OQ.lenS; exact Tryz.underlying9; exact rfl) | (apply OQ.move; exact rfl) | (apply OQ.lssN; exact rfl; exact rfl)) rfl ?_ | refine JC.seq ?_ | refine JC.region ?_ | refine JL.nil ?_ | refine JE.next ?_)
  refine JC.cond rfl (fun h => ?_) (fun h => ?_)
  · have hk' : k < s.length := of_decide_eq_true h
    clear h hk
    have hdr : s.drop k = s.getD k 0 :: s.drop (k + 1) := by rw [List.drop_eq_getElem_cons hk', List.getD_eq_getElem?_getD, List.getElem?_eq_getElem hk']; rfl
    rw [hdr] at hc
    have i0 := fun {n : Nat} {E : Env} {C : World → Prop} {dst : Option Tmp} {ty : TypeId} {pos : String} {aft : Array Edge} {g : Option (Nat × Bool)} {x y : Operand} => idxAt10 hk' (n := n) (E := E) (C := C) (dst := dst) (ty := ty) (pos := pos) (aft := aft) (g := g) (x := x) (y := y)
    generalize s.getD k 0 = c at hc i0
    cases h92 : decide (c = 92)
    · cases h34 : decide (c = 34)
      · rw [quot_c (of_decide_eq_false h34) (of_decide_eq_false h92)] at hc
        repeat (first | refine JL.q (by first | (apply i0; exact rfl; exact rfl) | (apply OQ.eq8T (b := 92); exact rfl; exact rfl; exact h92) | (apply OQ.move; exact rfl) | (apply OQ.assign; exact rfl)) rfl ?_ | refine JC.seq ?_ | refine JC.region ?_ | refine JC.block ?_ | refine JC.skip ?_ | refine JL.nil ?_ | refine JE.next ?_)
        refine JC.cond rfl (fun h => by cases h) (fun _ => ?_)
        repeat (first | refine JL.q (by first | (apply OQ.eq8T (b := 34); exact rfl; exact rfl; exact h34) | (apply OQ.assign; exact rfl)) rfl ?_ | refine JC.seq ?_ | refine JC.region ?_ | refine JL.nil ?_ | refine JE.next ?_)
        refine JC.cond rfl (fun h => by cases h) (fun _ => ?_)
        repeat (first | refine JL.q (by first | (apply OQ.move; exact rfl) | (apply OQ.assign; exact rfl) | (apply OQ.addN; exact rfl; exact rfl; exact (by (try simp only []); omega))) rfl ?_ | refine JC.region ?_ | refine JC.skip ?_ | refine JL.nil ?_ | refine JE.next ?_ | refine JE.blk_normal ?_)
        exact JE.again (i := k) (k + 1) ⟨by omega, hc⟩ (by omega) (by repeat (first | exact SubE.nil | refine SubE.cons _ _ _ rfl ?_)) (Less.refl _)
      · rw [of_decide_eq_true h34, quot_34] at hc
        rw [← hc]
        repeat (first | refine JL.q (by first | (apply i0; exact rfl; exact rfl) | (apply OQ.eq8T (b := 92); exact rfl; exact rfl; exact h92) | (apply OQ.move; exact rfl) | (apply OQ.assign; exact rfl)) rfl ?_ | refine JC.seq ?_ | refine JC.region ?_ | refine JC.block ?_ | refine JC.skip ?_ | refine JL.nil ?_ | refine JE.next ?_)
        refine JC.cond rfl (fun h => by cases h) (fun _ => ?_)
        repeat (first | refine JL.q (by first | (apply OQ.eq8T (b := 34); exact rfl; exact rfl; exact h34) | (apply OQ.assign; exact rfl)) rfl ?_ | refine JC.seq ?_ | refine JC.region ?_ | refine JL.nil ?_ | refine JE.next ?_)
        refine JC.cond rfl (fun _ => ?_) (fun h => by cases h)
        repeat (first | refine JL.q (by first | (apply OQ.move; exact rfl) | (apply OQ.assign; exact rfl) | (apply OQ.addN; exact rfl; exact rfl; exact (by (try simp only []); omega))) rfl ?_ | refine JC.seq ?_ | refine JC.region ?_ | refine JL.nil ?_ | refine JE.next ?_)
        refine JC.ret ?_
        repeat (first | refine JE.then_ret ?_ | refine JE.blk_ret ?_)
        exact JE.ret1 rfl (RV.tmp rfl) fun w' hw => ⟨rfl, hw.chg⟩
    · rw [of_decide_eq_true h92] at hc
      have hc' : quotR (s.drop (k + 2)) (k + 2) = quotR (s.drop 1) 1 := by
        by_cases he : k + 1 < s.length
        · have hdr' : s.drop (k + 1) = s.getD (k + 1) 0 :: s.drop (k + 2) := by rw [List.drop_eq_getElem_cons he, List.getD_eq_getElem?_getD, List.getElem?_eq_getElem he]; rfl
          rw [hdr', quot_92] at hc
          exact hc
        · rw [List.drop_eq_nil_of_le (by omega), quot_92e] at hc
          rw [List.drop_eq_nil_of_le (by omega), quot_e]
          exact hc
      repeat (first | refine JL.q (by first | (apply i0; exact rfl; exact rfl) | (apply OQ.eq8T (b := 92); exact rfl; exact rfl; exact h92) | (apply OQ.move; exact rfl) | (apply OQ.assign; exact rfl)) rfl ?_ | refine JC.seq ?_ | refine JC.region ?_ | refine JC.block ?_ | refine JC.skip ?_ | refine JL.nil ?_ | refine JE.next ?_)
      refine JC.cond rfl (fun _ => ?_) (fun h => by cases h)
      repeat (first | refine JL.q (by first | (apply OQ.move; exact rfl) | (apply OQ.assign; exact rfl) | (apply OQ.addN; exact rfl; exact rfl; exact (by (try simp only []); omega))) rfl ?_ | refine JC.region ?_ | refine JL.nil ?_ | refine JE.next ?_ | refine JE.blk_normal ?_)
      exact JE.again (i := k) (k + 2) ⟨by omega, hc'⟩ (by omega) (by repeat (first | exact SubE.nil | refine SubE.cons _ _ _ rfl ?_)) (Less.refl _)
  · have hk' : s.length ≤ k := by have := of_decide_eq_false h; omega
    rw [List.drop_eq_nil_of_le hk', quot_e] at hc
    rw [← hc]
    repeat (first | refine JL.q (by (apply OQ.assign; exact rfl)) rfl ?_ | refine JC.seq ?_ | refine JC.region ?_ | refine JC.exit ?_ | refine JL.nil ?_ | refine JE.next ?_ | refine JE.then_exit ?_ | refine JE.blk_hit ?_)
    refine JC.ret ?_
    exact JE.ret1 rfl (RV.tmp rfl) fun w' hw => ⟨rfl, hw.chg⟩
/-! ### Bare -/
def needBa : Nat → List (Nat × Nat)
  | 2 => [(0, 25), (1, 26)]
  | 5 => [(3, 28), (4, 29)]
  | 6 => [(2, 27)]
  | 7 => [(5, 30)]
  | _ => []
def inpBa : Nat → List Nat
  | 2 => [8, 1]
  | _ => []
def eatBa : Nat → List Nat
  | 2 => [8]
  | _ => []
def srcBa : Nat → Option Nat
  | 6 => some 2
  | _ => none
def needBb : Nat → List (Nat × Nat)
  | 3 => [(1, 40), (2, 41)]
  | 4 => [(0, 39), (3, 42)]
  | 7 => [(5, 44), (6, 45)]
  | 8 => [(4, 43)]
  | 9 => [(7, 46)]
  | _ => []
def inpBb : Nat → List Nat
  | 4 => [10]
  | _ => []
def eatBb : Nat → List Nat
  | 4 => [10]
  | _ => []
def srcBb : Nat → Option Nat
  | 8 => some 4
  | _ => none
theorem comm_err : ∀ (n : Nat) (r : List Fld.By) (d k e : Nat), r.length ≤ n → commR r d k = .error e → decide ((e : Int) = 0) = false := by
  intro n
  induction n with
  | zero =>
    intro r d k e h hc
    obtain rfl : r = [] := List.eq_nil_of_length_eq_zero (by omega)
    rw [comm_e] at hc
    cases hc
    rfl
  | succ n ih =>
    intro r d k e h hc
    match r, h with
    | [], _ =>
      rw [comm_e] at hc
      cases hc
      rfl
    | c :: r, h =>
      simp only [List.length_cons] at h
      by_cases h40 : c = 40
      · rw [h40, comm_40] at hc
        split at hc
        · cases hc
          rfl
        · exact ih _ _ _ _ (by omega) hc
      by_cases h41 : c = 41
      · rw [h41, comm_41] at hc
        split at hc
        · cases hc
        · exact ih _ _ _ _ (by omega) hc
      by_cases h92 : c = 92
      · rw [h92] at hc
        match r, h with
        | [], _ =>
          rw [comm_92e] at hc
          cases hc
          rfl
        | c2 :: r, h =>
          rw [comm_92] at hc
          simp only [List.length_cons] at h
          exact ih _ _ _ _ (by omega) hc
      · rw [comm_c h40 h41 h92] at hc
        exact ih _ _ _ _ (by omega) hc
structure BaS where
  r : List Bt
  o : List Bt
  b : Nat
  cap : Nat
set_option maxHeartbeats 32000000 in
theorem bareA_any (s : List Bt) (w : World) (hl : s.length < 140000000) : Calls Tryz.prog 90 [Z s].toArray w fun e w' => e = .returned (.tuple #[Z (bareB s).1, N (bareB s).2]) ∧ Ext w w' := by
  refine enter (n := 49) Tryz.func90 rfl rfl rfl (Holds.start w []) ?_
  repeat (first | refine JL.q (by first | (apply OQ.lenS; exact Tryz.underlying9; exact rfl) | (apply OQ.move; exact rfl) | (apply OQ.assign; exact rfl)) rfl ?_ | refine JC.seq ?_ | refine JC.region ?_ | refine JL.nil ?_ | refine JE.next ?_)
  refine JL.make0 (c := s.length) Tryz.underlying22 u8e rfl rfl (by omega) rfl fun b0 _ => ?_
  repeat (first | refine JL.q (by (apply OQ.assign; exact rfl)) rfl ?_ | refine JC.seq ?_ | refine JC.block ?_ | refine JL.nil ?_ | refine JE.next ?_)
  refine JC.loop (fun z : BaS => [(0, Z z.r), (4, .slice (some ⟨z.b, 0, none⟩) z.o.length z.cap)]) (fun z => [⟨z.b, Sl.Own 5 1 z.o.length z.cap (z.o.map U8), true⟩]) (fun z => z.r.length) (fun z => z.r.length + z.o.length ≤ s.length ∧ bareB s = bareR z.r 0 false z.o) ⟨s, [], b0, s.length⟩ ⟨Nat.le_refl _, rfl⟩ (by repeat (first | exact SubE.nil | refine SubE.cons _ _ _ rfl ?_)) (Less.refl _) ?_
  rintro ⟨r, o, b, cap⟩ ⟨hlen, hc⟩
  dsimp only at hlen hc ⊢
  cases hr0 : decide (r = [])
  · obtain ⟨c, r, rfl⟩ : ∃ c r', r = c :: r' := by
      cases r with
      | nil => cases hr0
      | cons c r => exact ⟨c, r, rfl⟩
    have hrl : r.length + 1 + o.length ≤ s.length := by rw [List.length_cons] at hlen; exact hlen
    have i0 := fun {n : Nat} {E : Env} {C : World → Prop} {dst : Option Tmp} {ty : TypeId} {pos : String} {aft : Array Edge} {g : Option (Nat × Bool)} {x y : Operand} => idxAt10 (s := c :: r) (i := 0) (Nat.succ_pos _) (n := n) (E := E) (C := C) (dst := dst) (ty := ty) (pos := pos) (aft := aft) (g := g) (x := x) (y := y)
    rw [List.getD_cons_zero] at i0
    repeat (first | refine JL.q (by first | (apply OQ.neSB (r := []); exact rfl; exact rfl; exact hr0) | (apply OQ.move; exact rfl)) rfl ?_ | refine JC.seq ?_ | refine JC.region ?_ | refine JL.nil ?_ | refine JE.next ?_)
    refine JC.cond rfl (fun _ => ?_) (fun h => by cases h)
    cases h40 : decide (c = 40)
    · cases h41 : decide (c = 41)
      · cases h34 : decide (c = 34)
        · rw [bare_0 (of_decide_eq_false h40) (of_decide_eq_false h41), show (c == 34) = false from beq_eq_false_iff_ne.2 (of_decide_eq_false h34)] at hc
          replace hc : bareB s = bareR ((c :: r).drop 1) 0 false (o ++ (c :: r).take 1) := hc
          repeat (first | refine JL.q (by first | (apply i0; exact rfl; exact rfl) | (apply OQ.eq8T (b := 40); exact rfl; exact rfl; exact h40) | (apply OQ.move; exact rfl) | (apply OQ.assign; exact rfl)) rfl ?_ | refine JC.seq ?_ | refine JC.region ?_ | refine JC.block ?_ | refine JC.skip ?_ | refine JL.nil ?_ | refine JE.next ?_)
          refine JC.cond rfl (fun h => by cases h) (fun _ => ?_)
          repeat (first | refine JL.q (by first | (apply OQ.eq8T (b := 41); exact rfl; exact rfl; exact h41) | (apply OQ.assign; exact rfl)) rfl ?_ | refine JC.seq ?_ | refine JC.region ?_ | refine JL.nil ?_ | refine JE.next ?_)
          refine JC.cond rfl (fun h => by cases h) (fun _ => ?_)
          repeat (first | refine JL.q (by first | (apply OQ.eq8T (b := 34); exact rfl; exact rfl; exact h34) | (apply OQ.assign; exact rfl)) rfl ?_ | refine JC.seq ?_ | refine JC.region ?_ | refine JL.nil ?_ | refine JE.next ?_)
          refine JC.cond rfl (fun h => by cases h) (fun _ => ?_)
          repeat (first | refine JC.skip ?_ | refine JE.next ?_ | refine JE.blk_normal ?_)
          have hml : ((c :: r).take 1).length = 1 := by rw [List.length_take, List.length_cons]; omega
          have hdl : ((c :: r).drop 1).length = r.length + 1 - 1 := by rw [List.length_drop, List.length_cons]
          have hne : (c :: r).take 1 ≠ [] := fun h => by rw [h] at hml; rw [List.length_nil] at hml; omega
          have hlm : 1 ≤ (c :: r).length := by rw [List.length_cons]; omega
          let vs : Nat → X → Value := fun j x => match j with
            | 0 => .slice (some ⟨b, 0, none⟩) o.length cap
            | 1 => Z (c :: r)
            | 2 => N 1
            | 3 => Z ((c :: r).take 1)
            | 5 => Z (c :: r)
            | 6 => N 1
            | 7 => Z ((c :: r).drop 1)
            | 9 => Z ((c :: r).drop 1)
            | _ => .slice (some ⟨x.1, 0, none⟩) (o ++ (c :: r).take 1).length x.2
          let Ms : Nat → X → List Ent := fun j x => match j with
            | 4 => [⟨x.1, Sl.Own 5 1 (o ++ (c :: r).take 1).length x.2 ((o ++ (c :: r).take 1).map U8), true⟩]
            | 10 => [⟨b, Sl.Own 5 1 o.length cap (o.map U8), true⟩]
            | _ => []
          refine JC.growO (g := ⟨[(5, N 1)], 11, vs, Ms, needBb, inpBb, eatBb, srcBb, fun j => match j with | 0 => [(4, .slice (some ⟨b, 0, none⟩) o.length cap)] | 1 => [(0, Z (c :: r))] | 5 => [(0, Z (c :: r))] | _ => []⟩) [(8, 4), (9, 0)] [4] mixT (by repeat (first | exact SubE.nil | refine SubE.cons _ _ _ rfl ?_)) (fun j _ => match j with | 0 => (by repeat (first | exact SubE.nil | refine SubE.cons _ _ _ rfl ?_)) | 1 => (by repeat (first | exact SubE.nil | refine SubE.cons _ _ _ rfl ?_)) | 2 => .nil | 3 => .nil | 4 => .nil | 5 => (by repeat (first | exact SubE.nil | refine SubE.cons _ _ _ rfl ?_)) | _ + 6 => .nil) (Less.refl _) (by kernel_rfl) (by kernel_rfl) (by kernel_rfl) ?_ ?_
          · refine ⟨?_, ?_, ?_, ?_, ?_, ?_, ?_, ?_, ?_, ?_, trivial⟩
            iterate 4 (focus (intro x EF MF Q kk; (try refine JL.gon rfl rfl ?_); exact JL.q (by first | (apply OQ.subS_hi; exact Tryz.underlying9; exact rfl; exact rfl; exact hlm) | (apply OQ.move; exact rfl)) rfl (JL.nil (kk default nofun))))
            · intro x EF MF Q kk
              refine JL.lessM (M' := accE 5 (some (b, cap)) (o.map U8) ++ MF) ?_ (by show Less ([⟨b, Sl.Own 5 1 (o.map U8).length cap (o.map U8), true⟩] ++ MF) _; rw [List.length_map]; exact Less.refl _)
              refine JL.appendZ (r := (c :: r).take 1) (xs := o.map U8) (M := MF) (some (b, cap)) Tryz.underlying22 Tryz.underlying9 u8e (fun h => by cases h) (by rw [List.length_map]; rfl) rfl hne (by rw [List.length_map]; omega) rfl fun p => JL.nil ?_
              rw [← List.map_append, List.length_map, accE_own]
              exact kk p (fun k h => by cases h)
            iterate 3 (focus (intro x EF MF Q kk; (try refine JL.gon rfl rfl ?_); exact JL.q (by first | (apply OQ.subS_lo; exact Tryz.underlying9; exact rfl; exact rfl; exact hlm) | (apply OQ.move; exact rfl)) rfl (JL.nil (kk default nofun))))
            · intro x EF MF Q kk
              exact JL.q (OQ.assign rfl) rfl (JL.nil (kk (x 4) (fun k h => by cases h; rfl)))
            · (intro x EF MF Q kk; (try refine JL.gon rfl rfl ?_); exact JL.q (by (apply OQ.assign; exact rfl)) rfl (JL.nil (kk default nofun)))
          · intro x hx'
            have h84 := hx' 8 4 (by decide) rfl
            show JE _ _ _ _ _ [(4, .slice (some ⟨(x 8).1, 0, none⟩) (o ++ (c :: r).take 1).length (x 8).2), (0, Z ((c :: r).drop 1)), (5, N 1)] [⟨(x 4).1, Sl.Own 5 1 (o ++ (c :: r).take 1).length (x 4).2 ((o ++ (c :: r).take 1).map U8), true⟩]
            rw [h84]
            obtain ⟨b', cap'⟩ := x 4
            clear hx' h84 x vs Ms
            dsimp only
            repeat (refine JE.blk_normal ?_)
            exact JE.again (i := BaS.mk (c :: r) o b cap) (BaS.mk ((c :: r).drop 1) (o ++ (c :: r).take 1) b' cap') ⟨by dsimp only; rw [List.length_append]; omega, hc⟩ (by dsimp only; rw [List.length_cons]; omega) (by repeat (first | exact SubE.nil | refine SubE.cons _ _ _ rfl ?_)) (Less.refl _)
        · obtain rfl : c = 34 := of_decide_eq_true h34
          have cQ := fun w' => quoted_any 34 r w' (by omega)
          cases hq : decide ((quotR r 1 : Int) = 0)
          · have hqn : quotR r 1 ≠ 0 := by have := of_decide_eq_false hq; omega
            obtain ⟨m0, m1, hb⟩ := step_quot_ok o hqn
            rw [hb] at hc
            generalize quotR r 1 = m at cQ hq m0 m1 hc
            clear hb hqn
            repeat (first | refine JL.q (by first | (apply i0; exact rfl; exact rfl) | (apply OQ.eq8T (b := 40); exact rfl; exact rfl; exact h40) | (apply OQ.move; exact rfl) | (apply OQ.assign; exact rfl)) rfl ?_ | refine JC.seq ?_ | refine JC.region ?_ | refine JC.block ?_ | refine JC.skip ?_ | refine JL.nil ?_ | refine JE.next ?_)
            refine JC.cond rfl (fun h => by cases h) (fun _ => ?_)
            repeat (first | refine JL.q (by first | (apply OQ.eq8T (b := 41); exact rfl; exact rfl; exact h41) | (apply OQ.assign; exact rfl)) rfl ?_ | refine JC.seq ?_ | refine JC.region ?_ | refine JL.nil ?_ | refine JE.next ?_)
            refine JC.cond rfl (fun h => by cases h) (fun _ => ?_)
            repeat (first | refine JL.q (by first | (apply OQ.eq8T (b := 34); exact rfl; exact rfl; exact h34) | (apply OQ.assign; exact rfl)) rfl ?_ | refine JC.seq ?_ | refine JC.region ?_ | refine JL.nil ?_ | refine JE.next ?_)
            refine JC.cond rfl (fun _ => ?_) (fun h => by cases h)
            repeat (first | refine JL.q (by first | (apply OQ.callx (vs := [Z (34 :: r)]); exact goes_quoted; exact rfl; exact (fun w' _ => cQ w')) | (apply OQ.eqB (b := 0); exact rfl; exact rfl; exact hq) | (apply OQ.move; exact rfl) | (apply OQ.assign; exact rfl)) rfl ?_ | refine JC.seq ?_ | refine JC.region ?_ | refine JL.nil ?_ | refine JE.next ?_)
            refine JC.cond rfl (fun h => by cases h) (fun _ => ?_)
            repeat (first | refine JC.skip ?_ | refine JE.next ?_ | refine JE.blk_normal ?_)
            have hml : ((34 :: r).take m).length = m := by rw [List.length_take, List.length_cons]; omega
            have hdl : ((34 :: r).drop m).length = r.length + 1 - m := by rw [List.length_drop, List.length_cons]
            have hne : (34 :: r).take m ≠ [] := fun h => by rw [h] at hml; rw [List.length_nil] at hml; omega
            have hlm : m ≤ (34 :: r).length := by rw [List.length_cons]; omega
            let vs : Nat → X → Value := fun j x => match j with
              | 0 => .slice (some ⟨b, 0, none⟩) o.length cap
              | 1 => Z (34 :: r)
              | 2 => N m
              | 3 => Z ((34 :: r).take m)
              | 5 => Z (34 :: r)
              | 6 => N m
              | 7 => Z ((34 :: r).drop m)
              | 9 => Z ((34 :: r).drop m)
              | _ => .slice (some ⟨x.1, 0, none⟩) (o ++ (34 :: r).take m).length x.2
            let Ms : Nat → X → List Ent := fun j x => match j with
              | 4 => [⟨x.1, Sl.Own 5 1 (o ++ (34 :: r).take m).length x.2 ((o ++ (34 :: r).take m).map U8), true⟩]
              | 10 => [⟨b, Sl.Own 5 1 o.length cap (o.map U8), true⟩]
              | _ => []
            refine JC.growO (g := ⟨[(5, N m)], 11, vs, Ms, needBb, inpBb, eatBb, srcBb, fun j => match j with | 0 => [(4, .slice (some ⟨b, 0, none⟩) o.length cap)] | 1 => [(0, Z (34 :: r))] | 5 => [(0, Z (34 :: r))] | _ => []⟩) [(8, 4), (9, 0)] [4] mixT (by repeat (first | exact SubE.nil | refine SubE.cons _ _ _ rfl ?_)) (fun j _ => match j with | 0 => (by repeat (first | exact SubE.nil | refine SubE.cons _ _ _ rfl ?_)) | 1 => (by repeat (first | exact SubE.nil | refine SubE.cons _ _ _ rfl ?_)) | 2 => .nil | 3 => .nil | 4 => .nil | 5 => (by repeat (first | exact SubE.nil | refine SubE.cons _ _ _ rfl ?_)) | _ + 6 => .nil) (Less.refl _) (by kernel_rfl) (by kernel_rfl) (by kernel_rfl) ?_ ?_
            · refine ⟨?_, ?_, ?_, ?_, ?_, ?_, ?_, ?_, ?_, ?_, trivial⟩
              iterate 4 (focus (intro x EF MF Q kk; (try refine JL.gon rfl rfl ?_); exact JL.q (by first | (apply OQ.subS_hi; exact Tryz.underlying9; exact rfl; exact rfl; exact hlm) | (apply OQ.move; exact rfl)) rfl (JL.nil (kk default nofun))))
              · intro x EF MF Q kk
                refine JL.lessM (M' := accE 5 (some (b, cap)) (o.map U8) ++ MF) ?_ (by show Less ([⟨b, Sl.Own 5 1 (o.map U8).length cap (o.map U8), true⟩] ++ MF) _; rw [List.length_map]; exact Less.refl _)
                refine JL.appendZ (r := (34 :: r).take m) (xs := o.map U8) (M := MF) (some (b, cap)) Tryz.underlying22 Tryz.underlying9 u8e (fun h => by cases h) (by rw [List.length_map]; rfl) rfl hne (by rw [List.length_map]; omega) rfl fun p => JL.nil ?_
                rw [← List.map_append, List.length_map, accE_own]
                exact kk p (fun k h => by cases h)
              iterate 3 (focus (intro x EF MF Q kk; (try refine JL.gon rfl rfl ?_); exact JL.q (by first | (apply OQ.subS_lo; exact Tryz.underlying9; exact rfl; exact rfl; exact hlm) | (apply OQ.move; exact rfl)) rfl (JL.nil (kk default nofun))))
              · intro x EF MF Q kk
                exact JL.q (OQ.assign rfl) rfl (JL.nil (kk (x 4) (fun k h => by cases h; rfl)))
              · (intro x EF MF Q kk; (try refine JL.gon rfl rfl ?_); exact JL.q (by (apply OQ.assign; exact rfl)) rfl (JL.nil (kk default nofun)))
            · intro x hx'
              have h84 := hx' 8 4 (by decide) rfl
              show JE _ _ _ _ _ [(4, .slice (some ⟨(x 8).1, 0, none⟩) (o ++ (34 :: r).take m).length (x 8).2), (0, Z ((34 :: r).drop m)), (5, N m)] [⟨(x 4).1, Sl.Own 5 1 (o ++ (34 :: r).take m).length (x 4).2 ((o ++ (34 :: r).take m).map U8), true⟩]
              rw [h84]
              obtain ⟨b', cap'⟩ := x 4
              clear hx' h84 x vs Ms
              dsimp only
              repeat (refine JE.blk_normal ?_)
              exact JE.again (i := BaS.mk (34 :: r) o b cap) (BaS.mk ((34 :: r).drop m) (o ++ (34 :: r).take m) b' cap') ⟨by dsimp only; rw [List.length_append]; omega, hc⟩ (by dsimp only; rw [List.length_cons]; omega) (by repeat (first | exact SubE.nil | refine SubE.cons _ _ _ rfl ?_)) (Less.refl _)
          · rw [step_quot o (by have := of_decide_eq_true hq; omega)] at hc
            rw [hc]
            generalize quotR r 1 = m at cQ hq
            repeat (first | refine JL.q (by first | (apply i0; exact rfl; exact rfl) | (apply OQ.eq8T (b := 40); exact rfl; exact rfl; exact h40) | (apply OQ.move; exact rfl) | (apply OQ.assign; exact rfl)) rfl ?_ | refine JC.seq ?_ | refine JC.region ?_ | refine JC.block ?_ | refine JC.skip ?_ | refine JL.nil ?_ | refine JE.next ?_)
            refine JC.cond rfl (fun h => by cases h) (fun _ => ?_)
            repeat (first | refine JL.q (by first | (apply OQ.eq8T (b := 41); exact rfl; exact rfl; exact h41) | (apply OQ.assign; exact rfl)) rfl ?_ | refine JC.seq ?_ | refine JC.region ?_ | refine JL.nil ?_ | refine JE.next ?_)
            refine JC.cond rfl (fun h => by cases h) (fun _ => ?_)
            repeat (first | refine JL.q (by first | (apply OQ.eq8T (b := 34); exact rfl; exact rfl; exact h34) | (apply OQ.assign; exact rfl)) rfl ?_ | refine JC.seq ?_ | refine JC.region ?_ | refine JL.nil ?_ | refine JE.next ?_)
            refine JC.cond rfl (fun _ => ?_) (fun h => by cases h)
            repeat (first | refine JL.q (by first | (apply OQ.callx (vs := [Z (34 :: r)]); exact goes_quoted; exact rfl; exact (fun w' _ => cQ w')) | (apply OQ.eqB (b := 0); exact rfl; exact rfl; exact hq) | (apply OQ.move; exact rfl) | (apply OQ.assign; exact rfl)) rfl ?_ | refine JC.seq ?_ | refine JC.region ?_ | refine JL.nil ?_ | refine JE.next ?_)
            refine JC.cond rfl (fun _ => ?_) (fun h => by cases h)
            repeat (first | refine JL.q (by (apply OQ.assign; exact rfl)) rfl ?_ | refine JC.seq ?_ | refine JC.region ?_ | refine JL.nil ?_ | refine JE.next ?_)
            refine JC.ret ?_
            repeat (first | refine JE.then_ret ?_ | refine JE.blk_ret ?_)
            exact JE.ret2 rfl (RV.tmp rfl) (RV.tmp rfl) fun w' hw => ⟨rfl, hw.chg⟩
      · rw [of_decide_eq_true h41, bare_41, if_pos rfl] at hc
        rw [hc]
        repeat (first | refine JL.q (by first | (apply i0; exact rfl; exact rfl) | (apply OQ.eq8T (b := 40); exact rfl; exact rfl; exact h40) | (apply OQ.move; exact rfl) | (apply OQ.assign; exact rfl)) rfl ?_ | refine JC.seq ?_ | refine JC.region ?_ | refine JC.block ?_ | refine JC.skip ?_ | refine JL.nil ?_ | refine JE.next ?_)
        refine JC.cond rfl (fun h => by cases h) (fun _ => ?_)
        repeat (first | refine JL.q (by first | (apply OQ.eq8T (b := 41); exact rfl; exact rfl; exact h41) | (apply OQ.assign; exact rfl)) rfl ?_ | refine JC.seq ?_ | refine JC.region ?_ | refine JL.nil ?_ | refine JE.next ?_)
        refine JC.cond rfl (fun _ => ?_) (fun h => by cases h)
        repeat (first | refine JL.q (by (apply OQ.assign; exact rfl)) rfl ?_ | refine JC.seq ?_ | refine JC.region ?_ | refine JL.nil ?_ | refine JE.next ?_)
        refine JC.ret ?_
        repeat (first | refine JE.then_ret ?_ | refine JE.blk_ret ?_)
        exact JE.ret2 rfl (RV.tmp rfl) (RV.tmp rfl) fun w' hw => ⟨rfl, hw.chg⟩
    · obtain rfl : c = 40 := of_decide_eq_true h40
      have cC := fun w' => comment_any r w' (by omega)
      cases hcm : commR (40 :: r) 0 0 with
      | error e =>
        rw [hcm] at cC
        have he := comm_err _ _ _ _ _ (Nat.le_refl _) hcm
        rw [step_comm o hcm] at hc
        rw [hc]
        repeat (first | refine JL.q (by first | (apply i0; exact rfl; exact rfl) | (apply OQ.eq8T (b := 40); exact rfl; exact rfl; exact h40) | (apply OQ.move; exact rfl) | (apply OQ.assign; exact rfl)) rfl ?_ | refine JC.seq ?_ | refine JC.region ?_ | refine JC.block ?_ | refine JC.skip ?_ | refine JL.nil ?_ | refine JE.next ?_)
        refine JC.cond rfl (fun _ => ?_) (fun h => by cases h)
        repeat (first | refine JL.q (by first | (apply OQ.callx (vs := [Z (40 :: r)]); exact goes_comment; exact rfl; exact (fun w' _ => cC w')) | (apply OQ.extract; exact rfl; exact rfl) | (apply OQ.neB (b := 0); exact rfl; exact rfl; exact he) | (apply OQ.move; exact rfl) | (apply OQ.assign; exact rfl)) rfl ?_ | refine JC.seq ?_ | refine JC.region ?_ | refine JL.nil ?_ | refine JE.next ?_)
        refine JC.cond rfl (fun _ => ?_) (fun h => by cases h)
        repeat (first | refine JL.q (by first | (apply OQ.move; exact rfl) | (apply OQ.assign; exact rfl)) rfl ?_ | refine JC.seq ?_ | refine JC.region ?_ | refine JL.nil ?_ | refine JE.next ?_)
        refine JC.ret ?_
        repeat (first | refine JE.then_ret ?_ | refine JE.blk_ret ?_)
        exact JE.ret2 rfl (RV.tmp rfl) (RV.tmp rfl) fun w' hw => ⟨rfl, hw.chg⟩
      | ok m =>
        rw [hcm] at cC
        obtain ⟨m0, m1, hb⟩ := step_comm_ok o hcm
        rw [hb] at hc
        repeat (first | refine JL.q (by first | (apply i0; exact rfl; exact rfl) | (apply OQ.eq8T (b := 40); exact rfl; exact rfl; exact h40) | (apply OQ.move; exact rfl) | (apply OQ.assign; exact rfl)) rfl ?_ | refine JC.seq ?_ | refine JC.region ?_ | refine JC.block ?_ | refine JC.skip ?_ | refine JL.nil ?_ | refine JE.next ?_)
        refine JC.cond rfl (fun _ => ?_) (fun h => by cases h)
        repeat (first | refine JL.q (by first | (apply OQ.callx (vs := [Z (40 :: r)]); exact goes_comment; exact rfl; exact (fun w' _ => cC w')) | (apply OQ.extract; exact rfl; exact rfl) | (apply OQ.neB (b := 0) (c := true); exact rfl; exact rfl; exact rfl) | (apply OQ.move; exact rfl) | (apply OQ.assign; exact rfl)) rfl ?_ | refine JC.seq ?_ | refine JC.region ?_ | refine JL.nil ?_ | refine JE.next ?_)
        refine JC.cond rfl (fun h => by cases h) (fun _ => ?_)
        repeat (first | refine JC.seq ?_ | refine JC.skip ?_ | refine JE.next ?_)
        have hdl : ((40 :: r).drop m).length = r.length + 1 - m := by rw [List.length_drop, List.length_cons]
        have hlm : m ≤ (40 :: r).length := by rw [List.length_cons]; omega
        let vs : Nat → X → Value := fun j x => match j with
          | 0 => .slice (some ⟨b, 0, none⟩) o.length cap
          | 1 => .slice (some ⟨x.1, 0, none⟩) 1 1
          | 3 => Z (40 :: r)
          | 4 => N m
          | 5 => Z ((40 :: r).drop m)
          | 7 => Z ((40 :: r).drop m)
          | _ => .slice (some ⟨x.1, 0, none⟩) (o ++ [32]).length x.2
        let Ms : Nat → X → List Ent := fun j x => match j with
          | 1 => [⟨x.1, Row 5 [U8 32], true⟩]
          | 2 => [⟨x.1, Sl.Own 5 1 (o ++ [32]).length x.2 ((o ++ [32]).map U8), true⟩]
          | 8 => [⟨b, Sl.Own 5 1 o.length cap (o.map U8), true⟩]
          | _ => []
        refine JC.growO (g := ⟨[(6, N m)], 9, vs, Ms, needBa, inpBa, eatBa, srcBa, fun j => match j with | 0 => [(4, .slice (some ⟨b, 0, none⟩) o.length cap)] | 3 => [(0, Z (40 :: r))] | _ => []⟩) [(6, 4), (7, 0)] [2] mixT (by repeat (first | exact SubE.nil | refine SubE.cons _ _ _ rfl ?_)) (fun j _ => match j with | 0 => (by repeat (first | exact SubE.nil | refine SubE.cons _ _ _ rfl ?_)) | 1 => .nil | 2 => .nil | 3 => (by repeat (first | exact SubE.nil | refine SubE.cons _ _ _ rfl ?_)) | _ + 4 => .nil) (Less.refl _) (by kernel_rfl) (by kernel_rfl) (by kernel_rfl) ?_ ?_
        · refine ⟨?_, ?_, ?_, ?_, ?_, ?_, ?_, ?_, trivial⟩
          · (intro x EF MF Q kk; (try refine JL.gon rfl rfl ?_); exact JL.q (by (apply OQ.move; exact rfl)) rfl (JL.nil (kk default nofun)))
          · intro x EF MF Q kk
            exact JL.lit1 Tryz.underlying22 u8e rfl rfl rfl rfl fun b _ => JL.nil (kk (b, 0) nofun)
          · intro x EF MF Q kk
            refine JL.lessM (M' := accE 5 (some (b, cap)) (o.map U8) ++ ⟨(x 1).1, Row 5 [U8 32], true⟩ :: MF) ?_ (by show Less ([⟨b, Sl.Own 5 1 (o.map U8).length cap (o.map U8), true⟩] ++ ⟨(x 1).1, Row 5 [U8 32], true⟩ :: MF) _; rw [List.length_map]; exact Less.refl _)
            refine JL.appendQ (cs := [U8 32]) (m := 1) (ad := some ⟨(x 1).1, 0, none⟩) (sc := 1) (xs := o.map U8) (M := ⟨(x 1).1, Row 5 [U8 32], true⟩ :: MF) (some (b, cap)) Tryz.underlying22 u8e (fun h => by cases h) (by rw [List.length_map]; rfl) rfl rfl (fun w' hw' => ?_) (fun v hv => by rw [List.mem_singleton.1 hv]; rfl) rfl (by rw [List.length_map]; omega) (by rw [List.length_map]; omega) rfl fun q' hq' => JL.nil ?_
            · have hw' : Holds _ _ (⟨b, Sl.Own 5 1 (o.map U8).length cap (o.map U8), true⟩ :: ⟨(x 1).1, Row 5 [U8 32], true⟩ :: MF) w' := hw'
              obtain ⟨o', ho, hA⟩ := hw'.get (.there .here)
              exact Reads.block ho (Row.all _ hA)
            · cases q' with
              | none => exact absurd (hq' rfl) (by simp)
              | some p =>
                rw [show o.map U8 ++ [U8 32] = (o ++ [32]).map U8 by rw [List.map_append]; rfl, List.length_map, accE_own]
                exact kk p (fun k h => by cases h)
          iterate 3 (focus (intro x EF MF Q kk; (try refine JL.gon rfl rfl ?_); exact JL.q (by first | (apply OQ.subS_lo; exact Tryz.underlying9; exact rfl; exact rfl; exact hlm) | (apply OQ.move; exact rfl)) rfl (JL.nil (kk default nofun))))
          · intro x EF MF Q kk
            exact JL.q (OQ.assign rfl) rfl (JL.nil (kk (x 2) (fun k h => by cases h; rfl)))
          · (intro x EF MF Q kk; (try refine JL.gon rfl rfl ?_); exact JL.q (by (apply OQ.assign; exact rfl)) rfl (JL.nil (kk default nofun)))
        · intro x hx'
          have h84 := hx' 6 2 (by decide) rfl
          show JE _ _ _ _ _ [(4, .slice (some ⟨(x 6).1, 0, none⟩) (o ++ [32]).length (x 6).2), (0, Z ((40 :: r).drop m)), (6, N m)] [⟨(x 2).1, Sl.Own 5 1 (o ++ [32]).length (x 2).2 ((o ++ [32]).map U8), true⟩]
          rw [h84]
          obtain ⟨b', cap'⟩ := x 2
          clear hx' h84 x vs Ms
          dsimp only
          repeat (first | refine JC.exit ?_ | refine JE.next ?_ | refine JE.then_exit ?_ | refine JE.blk_hit ?_ | refine JE.blk_miss rfl ?_)
          exact JE.again (i := BaS.mk (40 :: r) o b cap) (BaS.mk ((40 :: r).drop m) (o ++ [32]) b' cap') ⟨by dsimp only; rw [List.length_append, List.length_singleton]; omega, hc⟩ (by dsimp only; rw [List.length_cons]; omega) (by repeat (first | exact SubE.nil | refine SubE.cons _ _ _ rfl ?_)) (Less.refl _)
  · obtain rfl : r = [] := of_decide_eq_true hr0
    rw [bare_end, if_neg (by decide)] at hc
    rw [hc]
    repeat (first | refine JL.q (by first | (apply OQ.neSB (r := []); exact rfl; exact rfl; exact hr0) | (apply OQ.move; exact rfl)) rfl ?_ | refine JC.seq ?_ | refine JC.region ?_ | refine JL.nil ?_ | refine JE.next ?_)
    refine JC.cond rfl (fun h => by cases h) (fun _ => ?_)
    repeat (first | refine JL.q (by first | (apply OQ.b2s (s := ⟨some ⟨b, 0, none⟩, cap, o⟩); exact Tryz.underlying22; exact Tryz.underlying5; exact Tryz.underlying9; exact rfl; exact (fun w' hw' => ownb_ok hw' .here)) | (apply OQ.move; exact rfl) | (apply OQ.assign; exact rfl)) rfl ?_ | refine JC.seq ?_ | refine JC.region ?_ | refine JC.exit ?_ | refine JL.nil ?_ | refine JE.next ?_ | refine JE.then_exit ?_ | refine JE.blk_hit ?_)
    refine JC.ret ?_
    exact JE.ret2 rfl (RV.tmp rfl) (RV.tmp rfl) fun w' hw => ⟨rfl, hw.chg⟩
end Go.Proofs.YtbbmhkdfdgnkpaaGreatDoor

/-
  Of no statement by itself: strings.ToLower of bytes below 128 and Split at one byte, by the library's contracts over any program; strings.CutPrefix, CutSuffix and LastIndexByte at one byte by their bodies.
  Conditions: each theorem's own.
-/
namespace Go.Proofs.YtbbmhkdfdgnkpaaGreatDoor
set_option maxRecDepth 10000
open Sl Fld Go.Shelf
/-! ### small letters -/
def lowLaysRen : Ren := ⟨fun | 159 => 94 | 165 => 126 | 166 => 127 | 167 => 128 | 169 => 129 | 230 => 130 | 204 => 131 | 240 => 150 | 241 => 151 | 197 => 137 | 118 => 152 | 168 => 153 | 270 => 154 | 262 => 155 | 276 => 164 | 277 => 165 | 260 => 158 | 242 => 166 | 313 => 167 | 278 => 172 | 274 => 173 | 275 => 174 | n => n,
  fun | 9 => 9 | 4 => 4 | 3 => 3 | 5 => 5 | 72 => 149 | 0 => 0 | 76 => 153 | 75 => 152 | 107 => 158 | 70 => 147 | 20 => 20 | 37 => 22 | 127 => 174 | 21 => 21 | 105 => 92 | 164 => 185 | 162 => 191 | 203 => 189 | 119 => 167 | 46 => 141 | 139 => 170 | 138 => 169 | 51 => 173 | 160 => 196 | 208 => 202 | 206 => 200 | 80 => 156 | n => n,
  fun | 13 => 4 | 3 => 2 | 4 => 3 | n => n⟩
theorem lowLays : Lays.n159 Tryz.prog lowLaysRen := {
  mixed := by kernel_rfl
  f118 := Tryz.func152.trans (congrArg some (by kernel_rfl))
  f159 := Tryz.func94.trans (congrArg some (by kernel_rfl))
  f165 := Tryz.func126.trans (congrArg some (by kernel_rfl))
  f166 := Tryz.func127.trans (congrArg some (by kernel_rfl))
  f167 := Tryz.func128.trans (congrArg some (by kernel_rfl))
  f168 := Tryz.func153.trans (congrArg some (by kernel_rfl))
  f169 := Tryz.func129.trans (congrArg some (by kernel_rfl))
  f197 := Tryz.func137.trans (congrArg some (by kernel_rfl))
  f204 := Tryz.func131.trans (congrArg some (by kernel_rfl))
  f230 := Tryz.func130.trans (congrArg some (by kernel_rfl))
  f240 := Tryz.func150.trans (congrArg some (by kernel_rfl))
  f241 := Tryz.func151.trans (congrArg some (by kernel_rfl))
  f242 := Tryz.func166.trans (congrArg some (by kernel_rfl))
  f260 := Tryz.func158.trans (congrArg some (by kernel_rfl))
  f262 := Tryz.func155.trans (congrArg some (by kernel_rfl))
  f270 := Tryz.func154.trans (congrArg some (by kernel_rfl))
  f274 := Tryz.func173.trans (congrArg some (by kernel_rfl))
  f275 := Tryz.func174.trans (congrArg some (by kernel_rfl))
  f276 := Tryz.func164.trans (congrArg some (by kernel_rfl))
  f277 := Tryz.func165.trans (congrArg some (by kernel_rfl))
  f278 := Tryz.func172.trans (congrArg some (by kernel_rfl))
  f313 := Tryz.func167.trans (congrArg some (by kernel_rfl))
  t0 := Tryz.underlying0
  a0 := Tryz.isAgg0
  z0 := Tryz.sizeOf0
  v0 := Tryz.zeroValue0
  t3 := Tryz.underlying3
  a3 := Tryz.isAgg3
  z3 := Tryz.sizeOf3
  v3 := Tryz.zeroValue3
  t4 := Tryz.underlying4
  a4 := Tryz.isAgg4
  z4 := Tryz.sizeOf4
  v4 := Tryz.zeroValue4
  t5 := Tryz.underlying5
  a5 := Tryz.isAgg5
  z5 := Tryz.sizeOf5
  v5 := Tryz.zeroValue5
  t9 := Tryz.underlying9
  a9 := Tryz.isAgg9
  z9 := Tryz.sizeOf9
  v9 := Tryz.zeroValue9
  t20 := Tryz.underlying20
  a20 := Tryz.isAgg20
  z20 := Tryz.sizeOf20
  v20 := Tryz.zeroValue20
  t21 := Tryz.underlying21
  a21 := Tryz.isAgg21
  z21 := Tryz.sizeOf21
  v21 := Tryz.zeroValue21
  t37 := Tryz.underlying22
  a37 := Tryz.isAgg22
  z37 := Tryz.sizeOf22
  v37 := Tryz.zeroValue22
  t46 := Tryz.underlying141
  a46 := Tryz.isAgg141
  z46 := Tryz.sizeOf141
  v46 := Tryz.zeroValue141
  t51 := Tryz.underlying173
  a51 := Tryz.isAgg173
  z51 := Tryz.sizeOf173
  v51 := Tryz.zeroValue173
  t70 := Tryz.underlying147
  a70 := Tryz.isAgg147
  z70 := Tryz.sizeOf147
  v70 := Tryz.zeroValue147
  t72 := Tryz.underlying149
  a72 := Tryz.isAgg149
  z72 := Tryz.sizeOf149
  v72 := Tryz.zeroValue149
  t75 := Tryz.underlying152
  a75 := Tryz.isAgg152
  z75 := Tryz.sizeOf152
  v75 := Tryz.zeroValue152
  t76 := Tryz.underlying153
  a76 := Tryz.isAgg153
  z76 := Tryz.sizeOf153
  v76 := Tryz.zeroValue153
  t105 := Tryz.underlying92
  a105 := Tryz.isAgg92
  z105 := Tryz.sizeOf92
  v105 := Tryz.zeroValue92
  t107 := Tryz.underlying158
  a107 := Tryz.isAgg158
  z107 := Tryz.sizeOf158
  v107 := Tryz.zeroValue158
  t119 := Tryz.underlying167
  a119 := Tryz.isAgg167
  z119 := Tryz.sizeOf167
  t127 := Tryz.underlying174
  a127 := Tryz.isAgg174
  z127 := Tryz.sizeOf174
  v127 := Tryz.zeroValue174
  t138 := Tryz.underlying169
  a138 := Tryz.isAgg169
  z138 := Tryz.sizeOf169
  v138 := Tryz.zeroValue169
  t139 := Tryz.underlying170
  a139 := Tryz.isAgg170
  z139 := Tryz.sizeOf170
  v139 := Tryz.zeroValue170
  t160 := Tryz.underlying196
  a160 := Tryz.isAgg196
  z160 := Tryz.sizeOf196
  v160 := Tryz.zeroValue196
  t162 := Tryz.underlying191
  a162 := Tryz.isAgg191
  z162 := Tryz.sizeOf191
  v162 := Tryz.zeroValue191
  t164 := Tryz.underlying185
  a164 := Tryz.isAgg185
  z164 := Tryz.sizeOf185
  v164 := Tryz.zeroValue185
  t203 := Tryz.underlying189
  a203 := Tryz.isAgg189
  z203 := Tryz.sizeOf189
  v203 := Tryz.zeroValue189
  t206 := Tryz.underlying200
  a206 := Tryz.isAgg200
  z206 := Tryz.sizeOf200
  v206 := Tryz.zeroValue200
  t208 := Tryz.underlying202
  a208 := Tryz.isAgg202
  z208 := Tryz.sizeOf202
  v208 := Tryz.zeroValue202
  g3 := by kernel_rfl
  g4 := by kernel_rfl
  g13 := by kernel_rfl }
theorem lowX : Builder.Extra Tryz.prog lowLaysRen := {
  sizeBuilder := by kernel_rfl
  liesBuilder := by kernel_rfl
  t5 := Tryz.underlying5
  a5 := Tryz.isAgg5
  z5 := Tryz.sizeOf5
  v5 := Tryz.zeroValue5
  infoByte := by kernel_rfl
  cellsByte := by kernel_rfl
  sizeByte := by kernel_rfl
  neB5 := by decide }
theorem low_u8 (l : List Fld.By) : Go.Lib.toLowerA (Fld.u8s l) = Fld.u8s (l.map small) := by
  have h : ∀ c : Fin 256, Go.Lib.lowerB (UInt8.ofBitVec (BitVec.ofNat 8 c.val)) = UInt8.ofBitVec (small (BitVec.ofNat 8 c.val)) := by decide +kernel
  unfold Go.Lib.toLowerA Fld.u8s
  rw [List.map_map, List.map_map]
  refine List.map_congr_left fun c _ => ?_
  simpa using h ⟨c.toNat, c.isLt⟩
theorem goes_lower : Goes Tryz.prog 94 := ⟨_, Tryz.func94, rfl, by kernel_rfl⟩
theorem lower_any (s : List Bt) (w : World) (hl : s.length ≤ 140737488355328) (hs : ∀ c ∈ s, c.toNat < 128) : Calls Tryz.prog 94 [Z s].toArray w fun e w' => e = .returned (Z (s.map small)) ∧ Ext w w' :=
  (Any.strings_ToLower_ascii lowLays lowX (strB s) w (by rw [strB_size]; exact hl) (fun j b hb => by
    rw [strB_list] at hb
    obtain ⟨c, hc, rfl⟩ := List.mem_map.1 (List.mem_of_getElem? hb)
    exact hs c hc)).mono fun e w' ⟨h1, h2⟩ => ⟨by rw [h1, strB_list, low_u8, u8s_str], below_ext h2⟩
/-! ### texts parted at a byte -/
namespace Fld
end Fld
/-! ### one byte at an end -/
theorem goes_shp : Goes Tryz.prog 80 := ⟨_, Tryz.func80, rfl, by kernel_rfl⟩
theorem goes_scp : Goes Tryz.prog 148 := ⟨_, Tryz.func148, rfl, by kernel_rfl⟩
theorem goes_cpw : Goes Tryz.prog 124 := ⟨_, Tryz.func124, rfl, by kernel_rfl⟩
theorem head_is (s : List Fld.By) (c : Fld.By) : decide (s.head? = some c) = (decide ((1 : Int) ≤ (s.length : Int)) && decide (s.take 1 = [c])) := by
  cases s with
  | nil => simp
  | cons d r =>
    simp
    intro _
    omega
set_option maxHeartbeats 2000000 in
theorem shp_any (s : List Bt) (c : Bt) (w : World) : Calls Tryz.prog 80 [Z s, Z [c]].toArray w fun e w' => e = .returned (.bool (decide (s.head? = some c))) ∧ Ext w w' := by
  refine enter (n := 18) Tryz.func80 rfl rfl rfl (Holds.start w []) ?_
  rw [head_is]
  cases h1 : decide ((1 : Int) ≤ (s.length : Int))
  · repeat (first | refine JL.q (by first | (apply OQ.lenS; exact Tryz.underlying9; exact rfl) | (apply OQ.geqB (b := 1); exact rfl; exact rfl; exact h1) | (apply OQ.pick_f; exact rfl; exact rfl) | (apply OQ.move; exact rfl) | (apply OQ.assign; exact rfl)) rfl ?_ | refine JC.seq ?_ | refine JC.region ?_ | refine JL.nil ?_ | refine JE.next ?_ | refine JL.gskip rfl rfl rfl rfl ?_)
    exact JC.ret (JE.ret1 rfl (RV.tmp rfl) fun w' hw => ⟨rfl, hw.chg⟩)
  · have hle : 1 ≤ s.length := by have := of_decide_eq_true h1; omega
    cases h2 : decide (s.take 1 = [c])
    all_goals (repeat (first | refine JL.q (by first | (apply OQ.lenS; exact Tryz.underlying9; exact rfl) | (apply OQ.geqB (b := 1); exact rfl; exact rfl; exact h1) | (apply OQ.subS_hi (j := 1); exact Tryz.underlying9; exact rfl; exact rfl; exact hle) | (apply OQ.eqSB; exact rfl; exact rfl; exact h2) | (apply OQ.pick_t; exact rfl; exact rfl) | (apply OQ.move; exact rfl) | (apply OQ.assign; exact rfl)) rfl ?_ | refine JC.seq ?_ | refine JC.region ?_ | refine JL.nil ?_ | refine JE.next ?_ | refine JL.gon rfl rfl ?_))
    all_goals exact JC.ret (JE.ret1 rfl (RV.tmp rfl) fun w' hw => ⟨rfl, hw.chg⟩)
def cpV (c : Bt) (s : List Bt) : Value := if s.head? = some c then .tuple #[Z s.tail, .bool true] else .tuple #[Z s, .bool false]
theorem scp_any (s : List Bt) (c : Bt) (w : World) : Calls Tryz.prog 148 [Z s, Z [c]].toArray w fun e w' => e = .returned (cpV c s) ∧ Ext w w' := by
  refine enter (n := 15) Tryz.func148 rfl rfl rfl (Holds.start w []) ?_
  have hq := fun w' => shp_any s c w'
  unfold cpV
  by_cases h : s.head? = some c
  · simp only [h, decide_true, if_true] at hq ⊢
    have hle : 1 ≤ s.length := by
      cases s with
      | nil => cases h
      | cons d r => simp
    repeat (first | refine JL.q (by first | (apply OQ.callx (vs := [Z s, Z [c]]); exact goes_shp; exact rfl; exact (fun w' _ => hq w')) | (apply OQ.not; exact rfl) | (apply OQ.move; exact rfl) | (apply OQ.assign; exact rfl)) rfl ?_ | refine JC.seq ?_ | refine JC.region ?_ | refine JL.nil ?_ | refine JE.next ?_)
    refine JC.cond rfl (fun h => by cases h) (fun _ => ?_)
    repeat (first | refine JL.q (by first | (apply OQ.lenS; exact Tryz.underlying9; exact rfl) | (apply OQ.subS_lo (i := 1); exact Tryz.underlying9; exact rfl; exact rfl; exact hle) | (apply OQ.move; exact rfl) | (apply OQ.assign; exact rfl)) rfl ?_ | refine JC.seq ?_ | refine JC.region ?_ | refine JC.skip ?_ | refine JL.nil ?_ | refine JE.next ?_)
    refine JC.ret ?_
    skip
    refine JE.ret2 rfl (RV.tmp rfl) (RV.tmp rfl) fun w' hw => ⟨?_, hw.chg⟩
    rw [List.drop_one]
  · simp only [h, decide_false, if_false] at hq ⊢
    repeat (first | refine JL.q (by first | (apply OQ.callx (vs := [Z s, Z [c]]); exact goes_shp; exact rfl; exact (fun w' _ => hq w')) | (apply OQ.not; exact rfl) | (apply OQ.move; exact rfl) | (apply OQ.assign; exact rfl)) rfl ?_ | refine JC.seq ?_ | refine JC.region ?_ | refine JL.nil ?_ | refine JE.next ?_)
    refine JC.cond rfl (fun _ => ?_) (fun h => by cases h)
    repeat (first | refine JL.q (by first | (apply OQ.move; exact rfl) | (apply OQ.assign; exact rfl)) rfl ?_ | refine JC.seq ?_ | refine JC.region ?_ | refine JL.nil ?_ | refine JE.next ?_)
    refine JC.ret ?_
    repeat (refine JE.then_ret ?_)
    exact JE.ret2 rfl (RV.tmp rfl) (RV.tmp rfl) fun w' hw => ⟨rfl, hw.chg⟩
theorem cpw_any (s : List Bt) (c : Bt) (w : World) : Calls Tryz.prog 124 [Z s, Z [c]].toArray w fun e w' => e = .returned (cpV c s) ∧ Ext w w' := by
  refine enter (n := 11) Tryz.func124 rfl rfl rfl (Holds.start w []) ?_
  have hq := fun w' => scp_any s c w'
  unfold cpV at hq ⊢
  by_cases h : s.head? = some c
  · simp only [h, if_true] at hq ⊢
    repeat (first | refine JL.q (by first | (apply OQ.callx (vs := [Z s, Z [c]]); exact goes_scp; exact rfl; exact (fun w' _ => hq w')) | (apply OQ.extract; exact rfl; exact rfl) | (apply OQ.move; exact rfl) | (apply OQ.assign; exact rfl)) rfl ?_ | refine JC.seq ?_ | refine JC.region ?_ | refine JL.nil ?_ | refine JE.next ?_)
    exact JC.ret (JE.ret2 rfl (RV.tmp rfl) (RV.tmp rfl) fun w' hw => ⟨rfl, hw.chg⟩)
  · simp only [h, if_false] at hq ⊢
    repeat (first | refine JL.q (by first | (apply OQ.callx (vs := [Z s, Z [c]]); exact goes_scp; exact rfl; exact (fun w' _ => hq w')) | (apply OQ.extract; exact rfl; exact rfl) | (apply OQ.move; exact rfl) | (apply OQ.assign; exact rfl)) rfl ?_ | refine JC.seq ?_ | refine JC.region ?_ | refine JL.nil ?_ | refine JE.next ?_)
    exact JC.ret (JE.ret2 rfl (RV.tmp rfl) (RV.tmp rfl) fun w' hw => ⟨rfl, hw.chg⟩)
/-! ### a byte's last place -/
end Go.Proofs.YtbbmhkdfdgnkpaaGreatDoor

/-
  Of no statement by itself: what the landed token's dotted and Address give.
  Conditions: each theorem's own.
-/
namespace Go.Proofs.YtbbmhkdfdgnkpaaGreatDoor
set_option maxRecDepth 10000
open Sl Fld Tok
/-! ### dotted atoms -/
/-! ### addresses -/
theorem plain_low {c : Fld.By} (h : plainB c = true) : c.toNat < 128 := by
  simp only [plainB, Bool.and_eq_true, decide_eq_true_eq] at h
  omega
end Go.Proofs.YtbbmhkdfdgnkpaaGreatDoor

/-
  Of no statement by itself: how the landed token reads parameters, from left to right, is what the reference's parts give; pure; no program stands here.
  Conditions: none but each lemma's own.
-/
namespace Go.Proofs.YtbbmhkdfdgnkpaaGreatDoor
namespace Tok
open Fld
/-! ### what stands between quotes -/
inductive Inn : List Fld.By → List Fld.By → Prop
  | nil : Inn [] []
  | esc (c : Fld.By) {i t : List Fld.By} (h : Inn i t) : Inn (92 :: c :: i) (c :: t)
  | chr {c : Fld.By} (h1 : ¬ c = 34) (h2 : ¬ c = 92) {i t : List Fld.By} (h : Inn i t) : Inn (c :: i) (c :: t)
theorem Inn.unq {i t : List Fld.By} (h : Inn i t) (r : List Fld.By) : ∀ o, unqR (i ++ 34 :: r) o = (o ++ t, 34 :: r) := by
  induction h with
  | nil => intro o; rw [List.nil_append, unq_34, List.append_nil]
  | esc c _ ih => intro o; rw [List.cons_append, List.cons_append, unq_92, ih, List.append_assoc]; rfl
  | chr h1 h2 _ ih => intro o; rw [List.cons_append, unq_c h1 h2, ih, List.append_assoc]; rfl
theorem Inn.quot {i t : List Fld.By} (h : Inn i t) (r : List Fld.By) : ∀ k, quotR (i ++ 34 :: r) k = k + i.length + 1 := by
  induction h with
  | nil => intro k; rw [List.nil_append, quot_34]; rfl
  | esc c _ ih => intro k; rw [List.cons_append, List.cons_append, quot_92, ih]; simp only [List.length_cons]; omega
  | chr h1 h2 _ ih => intro k; rw [List.cons_append, quot_c h1 h2, ih]; simp only [List.length_cons]; omega
theorem Inn.sem {i t : List Fld.By} (h : Inn i t) (r : List Fld.By) : ∀ x, semR (i ++ 34 :: r) true x = semR r false (x ++ i ++ [34]) := by
  induction h with
  | nil =>
    intro x
    rw [List.nil_append, sem_cons _ _ _ _ (by rintro ⟨_, k⟩; revert k; decide), if_pos rfl, List.append_nil]
    rfl
  | esc c _ ih =>
    intro x
    rw [List.cons_append, List.cons_append, sem_q92, ih]
    congr 1
    simp
  | chr h1 h2 _ ih =>
    intro x
    rw [List.cons_append, sem_cons _ _ _ _ (fun k => h2 k.2), if_neg h1, if_neg (by rintro ⟨_, k⟩; cases k), ih]
    congr 1
    simp
theorem Inn.sok {i t : List Fld.By} (h : Inn i t) : i.all Fld.sok = t.all Fld.sok := by
  induction h with
  | nil => rfl
  | esc c _ ih => rw [List.all_cons, List.all_cons, List.all_cons, ih, show Fld.sok 92 = true by decide, Bool.true_and]
  | chr _ _ _ ih => rw [List.all_cons, List.all_cons, ih]
theorem inn_of_unq : ∀ (n : Nat) (w o v : List Fld.By), w.length ≤ n → unqR w o = (v, [34]) → ∃ i t, w = i ++ [34] ∧ Inn i t ∧ v = o ++ t := by
  intro n
  induction n with
  | zero =>
    intro w o v hl h
    obtain rfl : w = [] := List.eq_nil_of_length_eq_zero (by omega)
    rw [unq_e] at h
    cases h
  | succ n ih =>
    intro w o v hl h
    match w, hl with
    | [], _ => rw [unq_e] at h; cases h
    | c :: r, hl =>
      simp only [List.length_cons] at hl
      by_cases h34 : c = 34
      · subst h34
        rw [unq_34] at h
        obtain ⟨rfl, h2⟩ := Prod.mk.inj h
        obtain ⟨_, rfl⟩ := List.cons.inj h2
        exact ⟨[], [], rfl, .nil, by simp⟩
      by_cases h92 : c = 92
      · subst h92
        match r, hl with
        | [], _ => rw [unq_92e] at h; cases h
        | c2 :: r, hl =>
          simp only [List.length_cons] at hl
          rw [unq_92] at h
          obtain ⟨i, t, rfl, h2, h3⟩ := ih r _ _ (by omega) h
          exact ⟨92 :: c2 :: i, c2 :: t, rfl, .esc c2 h2, by rw [h3]; simp⟩
      · rw [unq_c h34 h92] at h
        obtain ⟨i, t, rfl, h2, h3⟩ := ih r _ _ (by omega) h
        exact ⟨c :: i, c :: t, rfl, .chr h34 h92 h2, by rw [h3]; simp⟩
theorem inn_of_quot : ∀ (n : Nat) (w : List Fld.By) (k : Nat), w.length ≤ n → quotR w k ≠ 0 → ∃ i t r, w = i ++ 34 :: r ∧ Inn i t := by
  intro n
  induction n with
  | zero =>
    intro w k hl h
    obtain rfl : w = [] := List.eq_nil_of_length_eq_zero (by omega)
    exact absurd (quot_e k) h
  | succ n ih =>
    intro w k hl h
    match w, hl with
    | [], _ => exact absurd (quot_e k) h
    | c :: r, hl =>
      simp only [List.length_cons] at hl
      by_cases h34 : c = 34
      · subst h34
        exact ⟨[], [], r, rfl, .nil⟩
      by_cases h92 : c = 92
      · subst h92
        match r, hl with
        | [], _ => exact absurd (quot_92e k) h
        | c2 :: r, hl =>
          simp only [List.length_cons] at hl
          rw [quot_92] at h
          obtain ⟨i, t, r', rfl, h2⟩ := ih r _ (by omega) h
          exact ⟨92 :: c2 :: i, c2 :: t, r', rfl, .esc c2 h2⟩
      · rw [quot_c h34 h92] at h
        obtain ⟨i, t, r', rfl, h2⟩ := ih r _ (by omega) h
        exact ⟨c :: i, c :: t, r', rfl, .chr h34 h92 h2⟩
/-! ### from left to right -/
def partL (p : Fld.By → Bool) (s : List Fld.By) : List Fld.By × List Fld.By := ((trimL s).takeWhile p, trimL ((trimL s).dropWhile p))
def valL (s : List Fld.By) : List Fld.By × List Fld.By × Bool :=
  if (partL looseB s).1 ≠ [] then ((partL looseB s).1, (partL looseB s).2, true)
  else if (partL looseB s).2.head? = some 34 ∧ quotR (partL looseB s).2.tail 1 ≠ 0 then
    ((unqR (partL looseB s).2.tail []).1, trimL ((partL looseB s).2.drop (quotR (partL looseB s).2.tail 1)), ((unqR (partL looseB s).2.tail []).1).all sok)
  else ([], [], false)
def paramL (s : List Fld.By) : Option ((List Fld.By × List Fld.By) × List Fld.By) :=
  if s.head? = some 59 ∧ (partL plainB s.tail).1 ≠ [] ∧ (partL plainB s.tail).2.head? = some 61 ∧ (valL (partL plainB s.tail).2.tail).2.2 = true then
    some (((partL plainB s.tail).1.map small, (valL (partL plainB s.tail).2.tail).1), (valL (partL plainB s.tail).2.tail).2.1)
  else none
/-! ### what a part is -/
def VAL (V v : List Fld.By) : Prop := (simpleB V = true ∧ v = V) ∨ ∃ i, V = 34 :: (i ++ [34]) ∧ Inn i v ∧ v.all sok = true
def bls (b : List Fld.By) : Prop := ∀ c ∈ b, bl c = true
def Canon (x : List Fld.By) (p : List Fld.By × List Fld.By) : Prop :=
  ∃ b1 n b2 b3 V b4 v, x = b1 ++ (n ++ (b2 ++ 61 :: (b3 ++ (V ++ b4)))) ∧ bls b1 ∧ bls b2 ∧ bls b3 ∧ bls b4 ∧ atomB n = true ∧ VAL V v ∧ p = (n.map small, v)
theorem blank_no {c : Fld.By} (h : bl c = true) : ¬ c = 34 ∧ ¬ c = 59 ∧ ¬ c = 61 ∧ plainB c = false ∧ looseB c = false ∧ (plainB c || c == 47) = false := by
  have := byte_all (fun c => !bl c || (!decide (c = 34) && (!decide (c = 59) && (!decide (c = 61) && (!plainB c && (!looseB c && !(plainB c || c == 47))))))) (by decide +kernel) c
  rw [h] at this
  simpa using this
theorem bls_split (u : List Fld.By) : ∃ p, u = p ++ trimL u ∧ bls p := by
  refine ⟨u.takeWhile bl, (List.takeWhile_append_dropWhile).symm, fun c hc => ?_⟩
  exact List.all_eq_true.1 List.all_takeWhile c hc
theorem bls_trim (s : List Fld.By) : ∃ b1 b2, s = b1 ++ (trim s ++ b2) ∧ bls b1 ∧ bls b2 := by
  obtain ⟨p, h1, h2⟩ := bls_split s
  obtain ⟨q, h3, h4⟩ := bls_split (trimL s).reverse
  refine ⟨p, q.reverse, ?_, h2, fun c hc => h4 c (List.mem_reverse.1 hc)⟩
  have : trimL s = trim s ++ q.reverse := by
    unfold trim
    rw [← List.reverse_append, ← h3, List.reverse_reverse]
  rw [← this]
  exact h1
theorem val_ne {V v : List Fld.By} (h : VAL V v) : V ≠ [] := by
  rintro rfl
  rcases h with ⟨h, _⟩ | ⟨i, h, _⟩
  · revert h; decide
  · cases h
theorem val_hd {V v : List Fld.By} (h : VAL V v) : ∀ c ∈ V.head?, bl c = false := by
  intro c hc
  rcases h with ⟨h, _⟩ | ⟨i, rfl, _⟩
  · exact (loose_no (simple_all h c (List.mem_of_mem_head? hc))).2.2
  · cases hc; rfl
theorem val_last {V v : List Fld.By} (h : VAL V v) : ∀ c ∈ V.reverse.head?, bl c = false := by
  intro c hc
  rcases h with ⟨h, _⟩ | ⟨i, rfl, _⟩
  · exact (loose_no (simple_all h c (List.mem_reverse.1 (List.mem_of_mem_head? hc)))).2.2
  · simp at hc; subst hc; rfl
theorem atom_hd {n : List Fld.By} (h : atomB n = true) : n ≠ [] ∧ (∀ c ∈ n.head?, bl c = false) ∧ ∀ c ∈ n.reverse.head?, bl c = false :=
  ⟨by rintro rfl; revert h; decide, fun c hc => (plain_no (atom_all h c (List.mem_of_mem_head? hc))).2.2.2.2, fun c hc => (plain_no (atom_all h c (List.mem_reverse.1 (List.mem_of_mem_head? hc)))).2.2.2.2⟩
/-! ### A1 -/
theorem fst_split {c : Fld.By} {s : List Fld.By} (h : ¬ fst c s = s.length) : s = s.take (fst c s) ++ c :: s.drop (fst c s + 1) := by
  have hle : fst c s ≤ s.length := (List.takeWhile_sublist _).length_le
  have hat : ∀ s : List Fld.By, fst c s < s.length → s.drop (fst c s) = c :: s.drop (fst c s + 1) := by
    intro s
    induction s with
    | nil => intro h; simp at h
    | cons d r ih =>
      intro h
      by_cases e : d = c
      · have : fst c (d :: r) = 0 := by simp [fst, e]
        rw [this, e]; rfl
      · have : fst c (d :: r) = fst c r + 1 := by simp [fst, e]
        rw [this] at h ⊢
        simp only [List.length_cons, List.drop_succ_cons] at h ⊢
        exact ih (by omega)
  rw [← hat s (by omega), List.take_append_drop]
theorem canon_of {x : List Fld.By} {p : List Fld.By × List Fld.By} (h : partB x = some p) : Canon x p := by
  unfold partB at h
  split at h
  · cases h
  next h0 =>
  split at h
  · cases h
  next h1 =>
  have hx := fst_split h0
  obtain ⟨b1, b2, e1, k1, k2⟩ := bls_trim (x.take (fst 61 x))
  obtain ⟨b3, b4, e2, k3, k4⟩ := bls_trim (x.drop (fst 61 x + 1))
  generalize trim (x.take (fst 61 x)) = n at *
  generalize trim (x.drop (fst 61 x + 1)) = V at *
  have h1' : atomB n = true := by simpa using h1
  have hxx : x = b1 ++ (n ++ (b2 ++ 61 :: (b3 ++ (V ++ b4)))) := by
    rw [hx, e1, e2]
    simp
  split at h
  · next hs =>
    cases h
    exact ⟨b1, n, b2, b3, V, b4, V, hxx, k1, k2, k3, k4, h1', .inl ⟨hs, rfl⟩, rfl⟩
  split at h
  · cases h
  next h2 =>
  split at h
  · next h3 =>
    cases h
    match V, h2 with
    | [], h2 => exact absurd (.inl (by decide)) h2
    | c :: w, h2 =>
      have hc : c = 34 := by
        by_cases e : c = 34
        · exact e
        · exact absurd (.inr (by rw [List.getD_cons_zero]; exact e)) h2
      subst hc
      rw [List.tail_cons] at h3 ⊢
      obtain ⟨i, t, rfl, hi, hv⟩ := inn_of_unq _ w [] (unqR w []).1 (Nat.le_refl _) (Prod.ext rfl h3.1)
      rw [List.nil_append] at hv
      rw [hv] at h3 ⊢
      exact ⟨b1, n, b2, b3, _, b4, t, hxx, k1, k2, k3, k4, h1', .inr ⟨i, rfl, hi, h3.2⟩, rfl⟩
  · cases h
/-! ### A2 -/
theorem canon_part {x : List Fld.By} {p : List Fld.By × List Fld.By} (h : Canon x p) : partB x = some p := by
  obtain ⟨b1, n, b2, b3, V, b4, v, rfl, k1, k2, k3, k4, hn, hV, rfl⟩ := h
  have hx : b1 ++ (n ++ (b2 ++ 61 :: (b3 ++ (V ++ b4)))) = (b1 ++ n ++ b2) ++ 61 :: (b3 ++ V ++ b4) := by simp
  have h61 : ∀ d ∈ b1 ++ n ++ b2, ¬ d = 61 := by
    intro d hd
    rcases List.mem_append.1 hd with hd | hd
    · rcases List.mem_append.1 hd with hd | hd
      · exact (blank_no (k1 d hd)).2.2.1
      · exact (plain_no (atom_all hn d hd)).2.2.1
    · exact (blank_no (k2 d hd)).2.2.1
  have hf := fst_app (b1 ++ n ++ b2) (b3 ++ V ++ b4) h61
  have ht : ((b1 ++ n ++ b2) ++ 61 :: (b3 ++ V ++ b4)).take (b1 ++ n ++ b2).length = b1 ++ n ++ b2 := List.take_left
  have hd : ((b1 ++ n ++ b2) ++ 61 :: (b3 ++ V ++ b4)).drop ((b1 ++ n ++ b2).length + 1) = b3 ++ V ++ b4 := by
    rw [← List.drop_drop, List.drop_left]; rfl
  obtain ⟨n0, n1, n2⟩ := atom_hd hn
  have tn : trim (b1 ++ n ++ b2) = n := trim_mid k1 k2 n0 n1 n2
  have tV : trim (b3 ++ V ++ b4) = V := trim_mid k3 k4 (val_ne hV) (val_hd hV) (val_last hV)
  rw [hx]
  unfold partB
  rw [hf, ht, hd, tn, tV, if_neg (by simp only [List.length_append, List.length_cons]; omega), if_neg (by rw [hn]; decide)]
  rcases hV with ⟨hs, rfl⟩ | ⟨i, rfl, hi, hs⟩
  · rw [if_pos hs]
  · have hns : ¬ simpleB (34 :: (i ++ [34])) = true := by
      unfold simpleB
      rw [List.all_cons, show looseB 34 = false by decide, Bool.false_and, Bool.false_and]
      decide
    have hu := hi.unq [] []
    rw [if_neg hns, if_neg (fun k => k.elim (fun k => absurd k (by simp only [List.length_cons, List.length_append]; omega)) fun k => k rfl), List.tail_cons, hu, List.nil_append, if_pos ⟨rfl, hs⟩]
/-! ### A3 -/
theorem tw_app {q : Fld.By → Bool} {a b : List Fld.By} (ha : ∀ c ∈ a, q c = true) (hb : ∀ c ∈ b.head?, q c = false) : (a ++ b).takeWhile q = a ∧ (a ++ b).dropWhile q = b := by
  induction a with
  | nil =>
    cases b with
    | nil => exact ⟨rfl, rfl⟩
    | cons c r => rw [List.nil_append, List.takeWhile_cons, List.dropWhile_cons, if_neg (by rw [hb c rfl]; decide), if_neg (by rw [hb c rfl]; decide)]; exact ⟨rfl, rfl⟩
  | cons c r ih =>
    obtain ⟨i1, i2⟩ := ih fun d hd => ha d (by simp [hd])
    rw [List.cons_append, List.takeWhile_cons, List.dropWhile_cons, if_pos (ha c (by simp)), if_pos (ha c (by simp)), i1, i2]
    exact ⟨rfl, rfl⟩
theorem hd_app {q : Fld.By → Bool} {a b : List Fld.By} (ha : ∀ c ∈ a, q c = false) (hb : ∀ c ∈ b.head?, q c = false) : ∀ c ∈ (a ++ b).head?, q c = false := by
  cases a with
  | nil => exact hb
  | cons d r => intro c hc; cases hc; exact ha d (by simp)
theorem partL_app {q : Fld.By → Bool} {b n b2 z : List Fld.By} (k1 : bls b) (hn : ∀ c ∈ n, q c = true) (h0 : n ≠ []) (hh : ∀ c ∈ n.head?, bl c = false) (k2 : bls b2) (hq : ∀ c, bl c = true → q c = false) (hz : ∀ c ∈ z.head?, bl c = false) (hz2 : ∀ c ∈ z.head?, q c = false) : partL q (b ++ (n ++ (b2 ++ z))) = (n, z) := by
  have e1 : trimL (b ++ (n ++ (b2 ++ z))) = n ++ (b2 ++ z) := by
    rw [trimL_pre b _ k1, trimL_hd]
    intro c hc
    cases n with
    | nil => exact absurd rfl h0
    | cons d r => exact hh c hc
  obtain ⟨t1, t2⟩ := tw_app hn (hd_app (fun c hc => hq c (k2 c hc)) hz2)
  unfold partL
  rw [e1, t1, t2, trimL_pre b2 _ k2, trimL_hd hz]
theorem partL_none {q : Fld.By → Bool} {b z : List Fld.By} (k1 : bls b) (hz : ∀ c ∈ z.head?, bl c = false) (hz2 : ∀ c ∈ z.head?, q c = false) : partL q (b ++ z) = ([], z) := by
  obtain ⟨t1, t2⟩ := tw_app (a := []) (fun _ h => nomatch h) hz2
  unfold partL
  rw [trimL_pre b _ k1, trimL_hd hz]
  rw [List.nil_append] at t1 t2
  rw [t1, t2, trimL_hd hz]
/-- the end, or a ; -/
def tok (z : List Fld.By) : Prop := z = [] ∨ z.head? = some 59
theorem tok_hd {z : List Fld.By} (h : tok z) {q : Fld.By → Bool} (hq : q 59 = false) : ∀ c ∈ z.head?, q c = false := by
  intro c hc
  rcases h with rfl | h
  · cases hc
  · rw [h] at hc; cases hc; exact hq
theorem val_canon {V v b3 b4 z : List Fld.By} (hV : VAL V v) (k3 : bls b3) (k4 : bls b4) (hz : tok z) : valL (b3 ++ (V ++ (b4 ++ z))) = (v, z, true) := by
  have hz1 := tok_hd hz (q := bl) (by decide)
  have hz2 := tok_hd hz (q := looseB) (by decide)
  rcases hV with ⟨hs, rfl⟩ | ⟨i, rfl, hi, hs⟩
  · have hv : VAL v v := .inl ⟨hs, rfl⟩
    have e := partL_app (q := looseB) k3 (simple_all hs) (val_ne hv) (val_hd hv) k4 (fun c hc => (blank_no hc).2.2.2.2.1) hz1 hz2
    unfold valL
    rw [e, if_pos (val_ne hv)]
  · have e := partL_none (q := looseB) (b := b3) (z := 34 :: (i ++ 34 :: (b4 ++ z))) k3 (fun c hc => by cases hc; rfl) (fun c hc => by cases hc; decide)
    have ex : b3 ++ (34 :: (i ++ [34]) ++ (b4 ++ z)) = b3 ++ 34 :: (i ++ 34 :: (b4 ++ z)) := by simp
    have eq := hi.quot (b4 ++ z) 1
    have eu := hi.unq (b4 ++ z) []
    have ed : (34 :: (i ++ 34 :: (b4 ++ z))).drop (1 + i.length + 1) = b4 ++ z := by
      rw [show 1 + i.length + 1 = (i.length + 1) + 1 by omega, List.drop_succ_cons, ← List.drop_drop, List.drop_left]; rfl
    rw [ex]
    unfold valL
    rw [e, if_neg (by simp), List.head?_cons, List.tail_cons, eq, eu, ed, List.nil_append, if_pos ⟨rfl, by omega⟩, trimL_pre b4 _ k4, trimL_hd hz1, hs]
theorem canon_left {x z : List Fld.By} {p : List Fld.By × List Fld.By} (h : Canon x p) (hz : tok z) : paramL (59 :: (x ++ z)) = some (p, z) := by
  obtain ⟨b1, n, b2, b3, V, b4, v, rfl, k1, k2, k3, k4, hn, hV, rfl⟩ := h
  have ex : b1 ++ (n ++ (b2 ++ 61 :: (b3 ++ (V ++ b4)))) ++ z = b1 ++ (n ++ (b2 ++ 61 :: (b3 ++ (V ++ (b4 ++ z))))) := by simp
  obtain ⟨n0, n1, _⟩ := atom_hd hn
  have e := partL_app (q := plainB) (z := 61 :: (b3 ++ (V ++ (b4 ++ z)))) k1 (atom_all hn) n0 n1 k2 (fun c hc => (blank_no hc).2.2.2.1) (fun c hc => by cases hc; rfl) (fun c hc => by cases hc; decide)
  unfold paramL
  rw [List.tail_cons, ex, e, List.tail_cons, val_canon hV k3 k4 hz, if_pos ⟨rfl, n0, rfl, rfl⟩]
/-! ### A4 -/
theorem partL_split (q : Fld.By → Bool) (s : List Fld.By) : ∃ b1 b2, s = b1 ++ ((partL q s).1 ++ (b2 ++ (partL q s).2)) ∧ bls b1 ∧ bls b2 ∧ (∀ c ∈ (partL q s).1, q c = true) := by
  obtain ⟨b1, e1, k1⟩ := bls_split s
  obtain ⟨b2, e2, k2⟩ := bls_split ((trimL s).dropWhile q)
  refine ⟨b1, b2, ?_, k1, k2, fun c hc => List.all_eq_true.1 List.all_takeWhile c hc⟩
  show s = b1 ++ ((trimL s).takeWhile q ++ (b2 ++ trimL ((trimL s).dropWhile q)))
  rw [← e2, List.takeWhile_append_dropWhile, ← e1]
theorem val_of {s v z : List Fld.By} (h : valL s = (v, z, true)) : ∃ b3 V b4, s = b3 ++ (V ++ (b4 ++ z)) ∧ bls b3 ∧ bls b4 ∧ VAL V v := by
  obtain ⟨b1, b2, e1, k1, k2, hq⟩ := partL_split looseB s
  unfold valL at h
  generalize (partL looseB s).1 = V at *
  generalize (partL looseB s).2 = r at *
  split at h
  · next h0 =>
    obtain ⟨rfl, h2⟩ := Prod.mk.inj h
    obtain ⟨rfl, _⟩ := Prod.mk.inj h2
    refine ⟨b1, V, b2, e1, k1, k2, .inl ⟨?_, rfl⟩⟩
    unfold simpleB
    rw [Bool.and_eq_true, List.all_eq_true, decide_eq_true_eq]
    exact ⟨hq, List.length_pos_iff.2 h0⟩
  · next h0 =>
    obtain rfl : V = [] := Classical.not_not.1 h0
    split at h
    · next h1 =>
      obtain ⟨h34, hn⟩ := h1
      obtain ⟨w, rfl⟩ : ∃ w, r = 34 :: w := by
        cases r with
        | nil => cases h34
        | cons c w => cases h34; exact ⟨w, rfl⟩
      rw [List.tail_cons] at *
      obtain ⟨i, t, r', rfl, hi⟩ := inn_of_quot _ w 1 (Nat.le_refl _) hn
      have ed : (34 :: (i ++ 34 :: r')).drop (1 + i.length + 1) = r' := by
        rw [show 1 + i.length + 1 = (i.length + 1) + 1 by omega, List.drop_succ_cons, ← List.drop_drop, List.drop_left]; rfl
      rw [hi.unq, hi.quot, ed, List.nil_append] at h
      obtain ⟨rfl, h2⟩ := Prod.mk.inj h
      obtain ⟨rfl, h3⟩ := Prod.mk.inj h2
      obtain ⟨b5, e5, k5⟩ := bls_split r'
      refine ⟨b1 ++ b2, 34 :: (i ++ [34]), b5, ?_, fun c hc => (List.mem_append.1 hc).elim (k1 c) (k2 c), k5, .inr ⟨i, rfl, hi, h3⟩⟩
      rw [e1]
      conv => lhs; rw [e5]
      simp
    · cases h
theorem left_canon {s z : List Fld.By} {p : List Fld.By × List Fld.By} (h : paramL s = some (p, z)) : ∃ x, s = 59 :: (x ++ z) ∧ Canon x p := by
  unfold paramL at h
  split at h
  · next hc =>
    obtain ⟨h59, hn, h61, hv⟩ := hc
    obtain ⟨r, rfl⟩ : ∃ r, s = 59 :: r := by
      cases s with
      | nil => cases h59
      | cons c w => cases h59; exact ⟨w, rfl⟩
    rw [List.tail_cons] at *
    obtain ⟨b1, b2, e1, k1, k2, hq⟩ := partL_split plainB r
    generalize (partL plainB r).1 = n at *
    generalize (partL plainB r).2 = u at *
    obtain ⟨u, rfl⟩ : ∃ w, u = 61 :: w := by
      cases u with
      | nil => cases h61
      | cons c w => cases h61; exact ⟨w, rfl⟩
    rw [List.tail_cons] at *
    obtain ⟨v, rest, b, hvl⟩ : ∃ v rest b, valL u = (v, rest, b) := ⟨_, _, _, rfl⟩
    rw [hvl] at h hv
    dsimp only at h hv
    subst hv
    obtain ⟨b3, V, b4, e3, k3, k4, hV⟩ := val_of hvl
    obtain ⟨rfl, rfl⟩ := Prod.mk.inj (Option.some.inj h)
    refine ⟨b1 ++ (n ++ (b2 ++ 61 :: (b3 ++ (V ++ b4)))), ?_, b1, n, b2, b3, V, b4, v, rfl, k1, k2, k3, k4, ?_, hV, rfl⟩
    · rw [e1, e3]
      simp
    · unfold atomB
      rw [Bool.and_eq_true, List.all_eq_true, decide_eq_true_eq]
      exact ⟨hq, List.length_pos_iff.2 hn⟩
  · cases h
/-! ### A5, A6 -/
theorem canon_sem {x : List Fld.By} {p : List Fld.By × List Fld.By} (h : Canon x p) (r y : List Fld.By) : semR (x ++ r) false y = semR r false (y ++ x) := by
  obtain ⟨b1, n, b2, b3, V, b4, v, rfl, k1, k2, k3, k4, hn, hV, rfl⟩ := h
  have s1 : ∀ b, bls b → ∀ r y, semR (b ++ r) false y = semR r false (y ++ b) := fun b hb r y => sem_run b r y fun c hc => ⟨(blank_no (hb c hc)).1, (blank_no (hb c hc)).2.1⟩
  have s2 : ∀ r y, semR (V ++ r) false y = semR r false (y ++ V) := by
    intro r y
    rcases hV with ⟨hs, rfl⟩ | ⟨i, rfl, hi, hs⟩
    · exact sem_run _ r y fun c hc => ⟨(loose_no (simple_all hs c hc)).1, (loose_no (simple_all hs c hc)).2.1⟩
    · rw [List.cons_append, sem_cons _ _ _ _ (by rintro ⟨k, _⟩; cases k), if_pos rfl, List.append_assoc, List.singleton_append]
      show semR (i ++ 34 :: r) true _ = _
      rw [hi.sem]
      congr 1
      simp
  simp only [List.append_assoc, List.cons_append]
  rw [s1 b1 k1, sem_run n _ _ fun c hc => ⟨(plain_no (atom_all hn c hc)).1, (plain_no (atom_all hn c hc)).2.1⟩, s1 b2 k2, sem_cons _ _ _ _ (by rintro ⟨k, _⟩; cases k), if_neg (by decide), if_neg (by rintro ⟨k, _⟩; revert k; decide), s1 b3 k3, s2, s1 b4 k4]
  congr 1
  simp
theorem sem_parts : ∀ (n : Nat) (s : List Fld.By) (q : Bool) (y : List Fld.By), s.length ≤ n → ∃ a z L, semR s q y = (y ++ a) :: L ∧ s = a ++ z ∧ ((z = [] ∧ L = []) ∨ ∃ r, z = 59 :: r ∧ L = semR r false []) := by
  intro n
  induction n with
  | zero =>
    intro s q y hl
    obtain rfl : s = [] := List.eq_nil_of_length_eq_zero (by omega)
    exact ⟨[], [], [], by rw [semR.eq_def, List.append_nil], rfl, .inl ⟨rfl, rfl⟩⟩
  | succ n ih =>
    intro s q y hl
    match s, hl with
    | [], _ => exact ⟨[], [], [], by rw [semR.eq_def, List.append_nil], rfl, .inl ⟨rfl, rfl⟩⟩
    | c :: r, hl =>
      simp only [List.length_cons] at hl
      by_cases h92 : q = true ∧ c = 92
      · obtain ⟨rfl, rfl⟩ := h92
        match r, hl with
        | [], _ => exact ⟨[92], [], [], by rw [semR.eq_def]; rfl, rfl, .inl ⟨rfl, rfl⟩⟩
        | c2 :: r, hl =>
          simp only [List.length_cons] at hl
          obtain ⟨a, z, L, e1, e2, e3⟩ := ih r true (y ++ [92, c2]) (by omega)
          exact ⟨92 :: c2 :: a, z, L, by rw [sem_q92, e1]; simp, by rw [e2]; simp, e3⟩
      · rw [sem_cons _ _ _ _ h92]
        by_cases h34 : c = 34
        · obtain ⟨a, z, L, e1, e2, e3⟩ := ih r (!q) (y ++ [c]) (by omega)
          exact ⟨c :: a, z, L, by rw [if_pos h34, e1]; simp, by rw [e2]; simp, e3⟩
        · by_cases h59 : c = 59 ∧ q = false
          · obtain ⟨rfl, rfl⟩ := h59
            exact ⟨[], 59 :: r, _, by rw [if_neg h34, if_pos ⟨rfl, rfl⟩, List.append_nil], rfl, .inr ⟨r, rfl, rfl⟩⟩
          · obtain ⟨a, z, L, e1, e2, e3⟩ := ih r q (y ++ [c]) (by omega)
            exact ⟨c :: a, z, L, by rw [if_neg h34, if_neg h59, e1]; simp, by rw [e2]; simp, e3⟩
theorem semB_parts (s : List Fld.By) : ∃ a z L, semB s = a :: L ∧ s = a ++ z ∧ ((z = [] ∧ L = []) ∨ ∃ r, z = 59 :: r ∧ L = semB r) := by
  obtain ⟨a, z, L, e1, e2, e3⟩ := sem_parts _ s false [] (Nat.le_refl _)
  exact ⟨a, z, L, e1, e2, e3⟩
/-! ### all parameters -/
theorem paramL_len {s z : List Fld.By} {p : List Fld.By × List Fld.By} (h : paramL s = some (p, z)) : z.length < s.length := by
  obtain ⟨x, rfl, _⟩ := left_canon h
  simp only [List.length_cons, List.length_append]
  omega
def listL (s : List Fld.By) : Option (List (List Fld.By × List Fld.By)) :=
  if s = [] then some [] else
  match h : paramL s with
  | none => none
  | some (p, z) => (listL z).map (p :: ·)
termination_by s.length
decreasing_by exact paramL_len h
theorem listL_nil : listL [] = some [] := by rw [listL, if_pos rfl]
theorem listL_none {s : List Fld.By} (h0 : s ≠ []) (h : paramL s = none) : listL s = none := by
  rw [listL, if_neg h0]
  split
  · rfl
  · next h' => rw [h] at h'; cases h'
theorem listL_some {s z : List Fld.By} {p : List Fld.By × List Fld.By} (h : paramL s = some (p, z)) : listL s = (listL z).map (p :: ·) := by
  rw [listL, if_neg (by rintro rfl; have := paramL_len h; simp at this)]
  split
  · next h' => rw [h] at h'; cases h'
  · next h' =>
    rw [h] at h'
    cases h'
    rfl
theorem listL_bad {s : List Fld.By} (h : ¬ tok s) : listL s = none := by
  refine listL_none (fun k => h (.inl k)) ?_
  unfold paramL
  rw [if_neg]
  rintro ⟨k, _⟩
  exact h (.inr k)
theorem listL_is : ∀ (n : Nat) (r : List Fld.By), r.length ≤ n → listL (59 :: r) = (semB r).mapM partB := by
  intro n
  induction n with
  | zero =>
    intro r hl
    obtain rfl : r = [] := List.eq_nil_of_length_eq_zero (by omega)
    decide +kernel
  | succ n ih =>
    intro r hl
    obtain ⟨y, z, L, e1, e2, e3⟩ := semB_parts r
    have hz : tok z := by
      rcases e3 with ⟨rfl, _⟩ | ⟨r', rfl, _⟩
      · exact .inl rfl
      · exact .inr rfl
    rw [e1]
    cases hp : partB y with
    | none =>
      rw [List.mapM_cons, hp]
      show _ = none
      cases hq : paramL (59 :: r) with
      | none => exact listL_none (by simp) hq
      | some pz =>
        obtain ⟨p, z'⟩ := pz
        rw [listL_some hq]
        obtain ⟨x, ex, hx⟩ := left_canon hq
        obtain ⟨_, ex⟩ := List.cons.inj ex
        by_cases ht : tok z'
        · exfalso
          have hs : ∃ L', semB r = x :: L' := by
            unfold semB
            rw [ex, canon_sem hx, List.nil_append]
            rcases ht with rfl | ht
            · exact ⟨[], by rw [semR.eq_def]⟩
            · cases z' with
              | nil => cases ht
              | cons c w =>
                cases ht
                exact ⟨_, by rw [sem_cons _ _ _ _ (by rintro ⟨k, _⟩; cases k), if_neg (by decide), if_pos ⟨rfl, rfl⟩]⟩
          obtain ⟨L', hs⟩ := hs
          rw [e1] at hs
          obtain ⟨rfl, _⟩ := List.cons.inj hs
          rw [canon_part hx] at hp
          cases hp
        · rw [listL_bad ht]; rfl
    | some p =>
      have hc := canon_left (canon_of hp) hz
      rw [← e2] at hc
      rw [listL_some hc, List.mapM_cons, hp]
      rcases e3 with ⟨rfl, rfl⟩ | ⟨r', rfl, rfl⟩
      · rw [listL_nil]; rfl
      · have hl' : r'.length ≤ n := by
          have := congrArg List.length e2
          simp only [List.length_append, List.length_cons] at this
          omega
        rw [ih r' hl']
        cases (semB r').mapM partB <;> rfl
/-! ### kind and parameters -/
def kiB (c : Fld.By) : Bool := plainB c || c == 47
def paramsL (t : List Fld.By) : List Fld.By × List (List Fld.By × List Fld.By) × Nat :=
  if kindB (partL kiB t).1 = false then ([], [], 3)
  else match listL (partL kiB t).2 with
    | none => ([], [], 3)
    | some l => ((partL kiB t).1.map small, l, 0)
theorem kind_all {k : List Fld.By} (h : kindB k = true) : (∀ c ∈ k, kiB c = true) ∧ k ≠ [] := by
  obtain ⟨a, b, rfl, ha, hb⟩ := kind_is h
  refine ⟨fun c hc => ?_, by simp⟩
  unfold kiB
  rcases List.mem_append.1 hc with hc | hc
  · rw [atom_all ha c hc]; rfl
  · rcases List.mem_cons.1 hc with rfl | hc
    · simp
    · rw [atom_all hb c hc]; rfl
theorem ki_no {c : Fld.By} (h : kiB c = true) : ¬ c = 34 ∧ ¬ c = 59 ∧ bl c = false := by
  have := byte_all (fun c => !kiB c || (!decide (c = 34) && (!decide (c = 59) && !bl c))) (by decide +kernel) c
  rw [h] at this
  simpa using this
theorem kind_left {b1 k b2 z : List Fld.By} (hk : kindB k = true) (k1 : bls b1) (k2 : bls b2) (hz : tok z) : partL kiB (b1 ++ (k ++ (b2 ++ z))) = (k, z) := by
  obtain ⟨ka, k0⟩ := kind_all hk
  exact partL_app k1 ka k0 (fun c hc => (ki_no (ka c (List.mem_of_mem_head? hc))).2.2) k2 (fun c hc => (blank_no hc).2.2.2.2.2) (tok_hd hz (by decide)) (tok_hd hz (by decide))
theorem kind_sem {b1 k b2 : List Fld.By} (hk : kindB k = true) (k1 : bls b1) (k2 : bls b2) (r : List Fld.By) : semR (b1 ++ (k ++ (b2 ++ r))) false [] = semR r false (b1 ++ (k ++ b2)) := by
  obtain ⟨ka, _⟩ := kind_all hk
  have s1 : ∀ b, bls b → ∀ r y, semR (b ++ r) false y = semR r false (y ++ b) := fun b hb r y => sem_run b r y fun c hc => ⟨(blank_no (hb c hc)).1, (blank_no (hb c hc)).2.1⟩
  rw [s1 b1 k1, sem_run k _ _ fun c hc => ⟨(ki_no (ka c hc)).1, (ki_no (ka c hc)).2.1⟩, s1 b2 k2]
  congr 1
  simp
theorem kind_trim {b1 k b2 : List Fld.By} (hk : kindB k = true) (k1 : bls b1) (k2 : bls b2) : trim (b1 ++ (k ++ b2)) = k := by
  obtain ⟨ka, k0⟩ := kind_all hk
  rw [← List.append_assoc]
  exact trim_mid k1 k2 k0 (fun c hc => (ki_no (ka c (List.mem_of_mem_head? hc))).2.2) (fun c hc => (ki_no (ka c (List.mem_reverse.1 (List.mem_of_mem_head? hc)))).2.2)
theorem params_is (t : List Fld.By) : paramsT t = paramsL t := by
  obtain ⟨y, z, L, e1, e2, e3⟩ := semB_parts t
  have hz : tok z := by
    rcases e3 with ⟨rfl, _⟩ | ⟨r', rfl, _⟩
    · exact .inl rfl
    · exact .inr rfl
  unfold paramsT paramsL
  rw [e1, List.headD_cons, List.tail_cons]
  cases hk : kindB (trim y) with
  | true =>
    obtain ⟨b1, b2, ey, k1, k2⟩ := bls_trim y
    have et : t = b1 ++ (trim y ++ (b2 ++ z)) := by
      rw [e2]
      conv => lhs; rw [ey]
      simp
    have hl : partL kiB t = (trim y, z) := by
      conv => lhs; rw [et]
      exact kind_left hk k1 k2 hz
    have hL : listL z = L.mapM partB := by
      rcases e3 with ⟨rfl, rfl⟩ | ⟨r', rfl, rfl⟩
      · rw [listL_nil]; rfl
      · exact listL_is _ r' (Nat.le_refl _)
    rw [hl]
    dsimp only
    rw [hk, hL]
    cases L.mapM partB <;> rfl
  | false =>
    rw [if_pos rfl]
    cases hq : kindB (partL kiB t).1 with
    | false => rw [if_pos rfl]
    | true =>
      rw [if_neg (by decide)]
      have hb : ¬ tok (partL kiB t).2 := by
        intro ht
        obtain ⟨b1, b2, et, k1, k2, _⟩ := partL_split kiB t
        generalize (partL kiB t).1 = k at *
        generalize (partL kiB t).2 = w at *
        have hs : ∃ L', semB t = (b1 ++ (k ++ b2)) :: L' := by
          unfold semB
          rw [et, kind_sem hq k1 k2]
          rcases ht with rfl | ht
          · exact ⟨[], by rw [semR.eq_def]⟩
          · cases w with
            | nil => cases ht
            | cons c w =>
              cases ht
              exact ⟨_, by rw [sem_cons _ _ _ _ (by rintro ⟨k, _⟩; cases k), if_neg (by decide), if_pos ⟨rfl, rfl⟩]⟩
        obtain ⟨L', hs⟩ := hs
        rw [e1] at hs
        obtain ⟨rfl, _⟩ := List.cons.inj hs
        rw [kind_trim hq k1 k2, hq] at hk
        cases hk
      rw [listL_bad hb]
end Tok
end Go.Proofs.YtbbmhkdfdgnkpaaGreatDoor

/-
  Of no statement by itself: what the landed token's isKind, noBig, mayBeQuoted, part, unquoted and readValue give.
  Conditions: each theorem's own.
-/
namespace Go.Proofs.YtbbmhkdfdgnkpaaGreatDoor
set_option maxRecDepth 10000
open Sl Fld Tok
theorem goes_isKind : Goes Tryz.prog 53 := ⟨_, Tryz.func53, rfl, by kernel_rfl⟩
theorem goes_may : Goes Tryz.prog 56 := ⟨_, Tryz.func56, rfl, by kernel_rfl⟩
theorem goes_may1 : Goes Tryz.prog 79 := ⟨_, Tryz.func79, rfl, by kernel_rfl⟩
theorem goes_partA : Goes Tryz.prog 91 := ⟨_, Tryz.func91, rfl, by kernel_rfl⟩
theorem goes_unqA : Goes Tryz.prog 149 := ⟨_, Tryz.func149, rfl, by kernel_rfl⟩
theorem goes_readV : Goes Tryz.prog 125 := ⟨_, Tryz.func125, rfl, by kernel_rfl⟩
set_option maxHeartbeats 8000000 in
theorem isKind_any (s : List Bt) (w : World) (hl : s.length < 9223372036854775807) : Calls Tryz.prog 53 [Z s].toArray w fun e w' => e = .returned (.bool (kindB s)) ∧ Ext w w' := by
  refine enter (n := 21) Tryz.func53 rfl rfl rfl (Holds.start w []) ?_
  have cC := fun w' => cutw_any s 47 w' hl
  have hfl := fi_le 47 s
  have hk : kindB s = (decide (fi 47 s < s.length) && (atomB (s.take (fi 47 s)) && atomB (s.drop (fi 47 s + 1)))) := rfl
  rw [hk]
  unfold cutV at cC
  by_cases hf : fi 47 s < s.length
  · rw [if_pos hf] at cC
    rw [decide_eq_true hf, Bool.true_and]
    have h1 : (s.take (fi 47 s)).length ≤ s.length := by rw [List.length_take]; omega
    have h2 : (s.drop (fi 47 s + 1)).length ≤ s.length := by rw [List.length_drop]; omega
    generalize s.take (fi 47 s) = a at cC h1
    generalize s.drop (fi 47 s + 1) = b at cC h2
    have c1 := fun w' => atomA_any a w' (by omega)
    have c2 := fun w' => atomA_any b w' (by omega)
    cases d1 : atomB a <;> cases d2 : atomB b
    all_goals rw [d1] at c1
    all_goals rw [d2] at c2
    all_goals (repeat (first | refine JL.q (by first | (apply OQ.callx (vs := [Z s, Z [47]]); exact goes_cutw; exact rfl; exact (fun w' _ => cC w')) | (apply OQ.extract; exact rfl; exact rfl) | (apply OQ.pick_t; exact rfl; exact rfl) | (apply OQ.pick_f; exact rfl; exact rfl) | (apply OQ.callx (vs := [Z a]); exact goes_atomA; exact rfl; exact (fun w' _ => c1 w')) | (apply OQ.callx (vs := [Z b]); exact goes_atomA; exact rfl; exact (fun w' _ => c2 w')) | (apply OQ.move; exact rfl) | (apply OQ.assign; exact rfl)) rfl ?_ | refine JC.seq ?_ | refine JC.region ?_ | refine JL.nil ?_ | refine JE.next ?_ | refine JL.gon rfl rfl ?_ | refine JL.gskip rfl rfl rfl rfl ?_))
    all_goals exact JC.ret (JE.ret1 rfl (RV.tmp rfl) fun w' hw => ⟨rfl, hw.chg⟩)
  · rw [if_neg hf] at cC
    rw [decide_eq_false hf, Bool.false_and]
    repeat (first | refine JL.q (by first | (apply OQ.callx (vs := [Z s, Z [47]]); exact goes_cutw; exact rfl; exact (fun w' _ => cC w')) | (apply OQ.extract; exact rfl; exact rfl) | (apply OQ.pick_f; exact rfl; exact rfl) | (apply OQ.move; exact rfl) | (apply OQ.assign; exact rfl)) rfl ?_ | refine JC.seq ?_ | refine JC.region ?_ | refine JL.nil ?_ | refine JE.next ?_ | refine JL.gskip rfl rfl rfl rfl ?_)
    exact JC.ret (JE.ret1 rfl (RV.tmp rfl) fun w' hw => ⟨rfl, hw.chg⟩)
theorem sok_parts (c : Fld.By) : sok c = ((decide ((32 : Int) ≤ (c.toNat : Int)) && decide ((c.toNat : Int) ≤ 126)) || decide (c = 9)) := by
  have h : ∀ c : Fin 256, sok (BitVec.ofNat 8 c.val) = ((decide ((32 : Int) ≤ ((BitVec.ofNat 8 c.val).toNat : Int)) && decide (((BitVec.ofNat 8 c.val).toNat : Int) ≤ 126)) || decide (BitVec.ofNat 8 c.val = 9)) := by decide +kernel
  simpa using h ⟨c.toNat, c.isLt⟩
set_option maxHeartbeats 4000000 in
theorem may1_any (c : Bt) (w : World) : Calls Tryz.prog 79 [U8 c].toArray w fun e w' => e = .returned (.bool (sok c)) ∧ Ext w w' := by
  refine enter (n := 13) Tryz.func79 rfl rfl rfl (Holds.start w []) ?_
  rw [sok_parts]
  cases h1 : decide ((32 : Int) ≤ (c.toNat : Int)) <;> cases h2 : decide ((c.toNat : Int) ≤ 126) <;> cases h3 : decide (c = 9)
  all_goals (repeat (first | refine JL.q (by first | (apply OQ.geqB (b := 32); exact rfl; exact rfl; exact h1) | (apply OQ.leqB (b := 126); exact rfl; exact rfl; exact h2) | (apply OQ.eq8T (b := 9); exact rfl; exact rfl; exact h3) | (apply OQ.pick_t; exact rfl; exact rfl) | (apply OQ.pick_f; exact rfl; exact rfl) | (apply OQ.move; exact rfl) | (apply OQ.assign; exact rfl)) rfl ?_ | refine JC.seq ?_ | refine JC.region ?_ | refine JL.nil ?_ | refine JE.next ?_ | refine JL.gon rfl rfl ?_ | refine JL.gskip rfl rfl rfl rfl ?_))
  all_goals exact JC.ret (JE.ret1 rfl (RV.tmp rfl) fun w' hw => ⟨rfl, hw.chg⟩)
@[reducible] def fnV (f : FuncId) : Value := .func (.func f) #[] #[]
theorem fun_may (w : World) : Fun8 Tryz.prog w (fnV 79) sok := ⟨_, [], rfl, goes_may1, fun c w' _ => may1_any c w'⟩
theorem run_all (p : Fld.By → Bool) (s : List Fld.By) : decide ((runB p s : Int) = (s.length : Int)) = s.all p := by
  rw [Bool.eq_iff_iff, decide_eq_true_eq, ← runB_all]
  omega
set_option maxHeartbeats 4000000 in
theorem may_any (s : List Bt) (w : World) (hl : s.length < 9223372036854775808) : Calls Tryz.prog 56 [Z s].toArray w fun e w' => e = .returned (.bool (s.all sok)) ∧ Ext w w' := by
  refine enter (n := 8) Tryz.func56 rfl rfl rfl (Holds.start w []) ?_
  have hr := run_all sok s
  generalize s.all sok = b at hr
  repeat (first | refine JL.q (by first | (apply OQ.callx (vs := [Z s, fnV 79]); exact goes_run; exact rfl; exact (fun w' _ => run_any s _ sok w' (fun_may w') hl)) | (apply OQ.lenS; exact Tryz.underlying9; exact rfl) | (apply OQ.eqB; exact rfl; exact rfl; exact hr) | (apply OQ.move; exact rfl) | (apply OQ.assign; exact rfl)) rfl ?_ | refine JC.seq ?_ | refine JC.region ?_ | refine JL.nil ?_ | refine JE.next ?_)
  exact JC.ret (JE.ret1 rfl (RV.tmp rfl) fun w' hw => ⟨rfl, hw.chg⟩)
/-! ### a part -/
set_option maxHeartbeats 8000000 in
theorem partA_any (s : List Bt) (fv : Value) (p : Bt → Bool) (w : World) (hF : Fun8 Tryz.prog w fv p) (hl : s.length < 9223372036854775808) : Calls Tryz.prog 91 [Z s, fv].toArray w fun e w' => e = .returned (.tuple #[Z (partL p s).1, Z (partL p s).2]) ∧ Ext w w' := by
  refine enter (n := 19) Tryz.func91 rfl rfl rfl (Holds.start w []) ?_
  have c1 := fun w' => triml_any s w'
  unfold partL
  have htl := trimL_len s
  generalize trimL s = t at c1 htl ⊢
  have c2 := fun w' hF' => run_any t fv p w' hF' (by omega)
  have hn := runB_le p t
  rw [← runB_take, ← runB_drop]
  generalize runB p t = n at c2 hn
  have c3 := fun w' => triml_any (t.drop n) w'
  repeat (first | refine JL.q (by first | (apply OQ.callx (vs := [Z s, Z [32, 9]]); exact goes_triml; exact rfl; exact (fun w' _ => c1 w')) | (apply OQ.callx (vs := [Z t, fv]); exact goes_run; exact rfl; exact (fun w' hw' => c2 w' (hF.holds hw'))) | (apply OQ.move; exact rfl) | (apply OQ.assign; exact rfl)) rfl ?_ | refine JC.seq ?_ | refine JC.region ?_ | refine JL.nil ?_ | refine JE.next ?_)
  refine JC.quiet mixT (by kernel_rfl) ?_
  repeat (first | refine JQ.q (by first | (apply OQ.subS_hi; exact Tryz.underlying9; exact rfl; exact rfl; exact hn) | (apply OQ.subS_lo; exact Tryz.underlying9; exact rfl; exact rfl; exact hn) | (apply OQ.callx (vs := [Z (t.drop n), Z [32, 9]]); exact goes_triml; exact rfl; exact (fun w' _ => c3 w')) | (apply OQ.move; exact rfl) | (apply OQ.assign; exact rfl)) rfl ?_ | refine JQ.nil ?_ | refine JE.next ?_)
  exact JC.ret (JE.ret2 rfl (RV.tmp rfl) (RV.tmp rfl) fun w' hw => ⟨rfl, hw.chg⟩)
end Go.Proofs.YtbbmhkdfdgnkpaaGreatDoor

/-
  Of no statement by itself: what the landed token's unquoted and readValue give.
  Conditions: each theorem's own.
-/
namespace Go.Proofs.YtbbmhkdfdgnkpaaGreatDoor
set_option maxRecDepth 10000
open Sl Fld Tok
structure UqS where
  k : Nat
  o : List Bt
  u : List Bt
  b : Nat
  cap : Nat
set_option maxHeartbeats 16000000 in
theorem unqA_any {i t : List Bt} (h : Inn i t) (w : World) (hl : i.length < 1000000000) : Calls Tryz.prog 149 [Z i].toArray w fun e w' => e = .returned (Z t) ∧ Ext w w' := by
  refine enter (n := 28) Tryz.func149 rfl rfl rfl (Holds.start w []) ?_
  repeat (first | refine JL.q (by first | (apply OQ.lenS; exact Tryz.underlying9; exact rfl) | (apply OQ.move; exact rfl) | (apply OQ.assign; exact rfl)) rfl ?_ | refine JC.seq ?_ | refine JC.region ?_ | refine JL.nil ?_ | refine JE.next ?_)
  refine JL.make0 (c := i.length) Tryz.underlying22 u8e rfl rfl (by omega) rfl fun b0 _ => ?_
  repeat (first | refine JL.q (by (apply OQ.assign; exact rfl)) rfl ?_ | refine JC.seq ?_ | refine JC.region ?_ | refine JC.block ?_ | refine JL.nil ?_ | refine JE.next ?_)
  refine JC.loop (fun z : UqS => [(0, Z i), (3, .slice (some ⟨z.b, 0, none⟩) z.o.length z.cap), (4, N z.k)]) (fun z => [⟨z.b, Sl.Own 5 1 z.o.length z.cap (z.o.map U8), true⟩]) (fun z => i.length - z.k) (fun z => z.k ≤ i.length ∧ z.o.length ≤ z.k ∧ Inn (i.drop z.k) z.u ∧ t = z.o ++ z.u) ⟨0, [], t, b0, i.length⟩ ⟨Nat.zero_le _, Nat.zero_le _, h, rfl⟩ (by repeat (first | exact SubE.nil | refine SubE.cons _ _ _ rfl ?_)) (Less.refl _) ?_
  rintro ⟨k, o, u, b, cap⟩ ⟨hk, ho, hI, ht⟩
  dsimp only at hk ho hI ht ⊢
  clear h
  repeat (first | refine JL.q (by first | (apply OQ.lenS; exact Tryz.underlying9; exact rfl) | (apply OQ.move; exact rfl) | (apply OQ.lssN; exact rfl; exact rfl)) rfl ?_ | refine JC.seq ?_ | refine JC.region ?_ | refine JL.nil ?_ | refine JE.next ?_)
  refine JC.cond rfl (fun h => ?_) (fun h => ?_)
  · have hk' : k < i.length := of_decide_eq_true h
    clear h hk
    have hdr : i.drop k = i.getD k 0 :: i.drop (k + 1) := by rw [List.drop_eq_getElem_cons hk', List.getD_eq_getElem?_getD, List.getElem?_eq_getElem hk']; rfl
    rw [hdr] at hI
    have i0 := fun {n : Nat} {E : Env} {C : World → Prop} {dst : Option Tmp} {ty : TypeId} {pos : String} {aft : Array Edge} {g : Option (Nat × Bool)} {x y : Operand} => idxAt10 hk' (n := n) (E := E) (C := C) (dst := dst) (ty := ty) (pos := pos) (aft := aft) (g := g) (x := x) (y := y)
    generalize i.getD k 0 = c at hI i0
    generalize hx : i.drop (k + 1) = x at hI
    cases h92 : decide (c = 92)
    · obtain ⟨u', rfl, hI'⟩ : ∃ u', u = c :: u' ∧ Inn x u' := by
        cases hI with
        | esc d h => exact absurd rfl (of_decide_eq_false h92)
        | chr h1 h2 h => exact ⟨_, rfl, h⟩
      repeat (first | refine JL.q (by first | (apply i0; exact rfl; exact rfl) | (apply OQ.eq8T (b := 92); exact rfl; exact rfl; exact h92) | (apply OQ.move; exact rfl)) rfl ?_ | refine JC.seq ?_ | refine JC.region ?_ | refine JC.block ?_ | refine JC.skip ?_ | refine JL.nil ?_ | refine JE.next ?_)
      refine JC.cond rfl (fun h => by cases h) (fun _ => ?_)
      repeat (first | refine JL.q (by first | (apply i0; exact rfl; exact rfl) | (apply OQ.move; exact rfl)) rfl ?_ | refine JC.region ?_ | refine JC.skip ?_ | refine JE.next ?_)
      refine JL.push1 (xs := o.map U8) (fun b' cap' => [⟨b', Sl.Own 5 1 (o.length + 1) cap' (o.map U8 ++ [U8 c]), true⟩]) Tryz.underlying22 u8e rfl rfl rfl rfl (fun _ => rfl) (by intro _ _; repeat (first | exact Repl.here | apply Repl.there)) (by omega) (by omega) rfl rfl fun bl b' cap' => ?_
      repeat (first | refine JL.q (by first | (apply OQ.move; exact rfl) | (apply OQ.assign; exact rfl) | (apply OQ.addN; exact rfl; exact rfl; exact (by (try simp only []); omega))) rfl ?_ | refine JC.region ?_ | refine JL.nil ?_ | refine JE.next ?_ | refine JE.blk_normal ?_)
      refine JE.again (i := UqS.mk k o (c :: u') b cap) (UqS.mk (k + 1) (o ++ [c]) u' b' cap') ⟨hk', ?_, ?_, ?_⟩ (by dsimp only; omega) ?_ (.keep _ _ _ _ _ _ (fun o' h => ?_) (.nil _))
      · dsimp only; rw [List.length_append, List.length_singleton]; omega
      · dsimp only; rw [hx]; exact hI'
      · dsimp only; rw [ht]; simp
      · dsimp only; rw [List.length_append, List.length_singleton]; exact (by repeat (first | exact SubE.nil | refine SubE.cons _ _ _ rfl ?_))
      · dsimp only; rw [List.length_append, List.length_singleton, List.map_append]; exact h
    · obtain ⟨d, x', u', hx', rfl, hI'⟩ : ∃ d x' u', x = d :: x' ∧ u = d :: u' ∧ Inn x' u' := by
        cases hI with
        | esc d h => exact ⟨d, _, _, rfl, rfl, h⟩
        | chr h1 h2 h => exact absurd (of_decide_eq_true h92) h2
      have hk2 : k + 1 < i.length := by
        by_cases e : k + 1 < i.length
        · exact e
        · rw [List.drop_eq_nil_of_le (by omega)] at hx
          rw [← hx] at hx'
          cases hx'
      have hdr2 : i.drop (k + 1) = i.getD (k + 1) 0 :: i.drop (k + 2) := by rw [List.drop_eq_getElem_cons hk2, List.getD_eq_getElem?_getD, List.getElem?_eq_getElem hk2]; rfl
      have i1 := fun {n : Nat} {E : Env} {C : World → Prop} {dst : Option Tmp} {ty : TypeId} {pos : String} {aft : Array Edge} {g : Option (Nat × Bool)} {x y : Operand} => idxAt10 hk2 (n := n) (E := E) (C := C) (dst := dst) (ty := ty) (pos := pos) (aft := aft) (g := g) (x := x) (y := y)
      rw [hx, hx'] at hdr2
      obtain ⟨hd, hx2⟩ := List.cons.inj hdr2
      rw [← hd] at i1
      repeat (first | refine JL.q (by first | (apply i0; exact rfl; exact rfl) | (apply OQ.eq8T (b := 92); exact rfl; exact rfl; exact h92) | (apply OQ.move; exact rfl)) rfl ?_ | refine JC.seq ?_ | refine JC.region ?_ | refine JC.block ?_ | refine JC.skip ?_ | refine JL.nil ?_ | refine JE.next ?_)
      refine JC.cond rfl (fun _ => ?_) (fun h => by cases h)
      repeat (first | refine JL.q (by first | (apply i1; exact rfl; exact rfl) | (apply OQ.move; exact rfl) | (apply OQ.assign; exact rfl) | (apply OQ.addN; exact rfl; exact rfl; exact (by (try simp only []); omega))) rfl ?_ | refine JC.region ?_ | refine JL.nil ?_ | refine JE.next ?_)
      refine JL.push1 (xs := o.map U8) (fun b' cap' => [⟨b', Sl.Own 5 1 (o.length + 1) cap' (o.map U8 ++ [U8 d]), true⟩]) Tryz.underlying22 u8e rfl rfl rfl rfl (fun _ => rfl) (by intro _ _; repeat (first | exact Repl.here | apply Repl.there)) (by omega) (by omega) rfl rfl fun bl b' cap' => ?_
      repeat (first | refine JL.q (by first | (apply OQ.move; exact rfl) | (apply OQ.assign; exact rfl) | (apply OQ.addN; exact rfl; exact rfl; exact (by (try simp only []); omega))) rfl ?_ | refine JC.region ?_ | refine JL.nil ?_ | refine JE.next ?_ | refine JE.blk_normal ?_)
      refine JE.again (i := UqS.mk k o (d :: u') b cap) (UqS.mk (k + 2) (o ++ [d]) u' b' cap') ⟨by dsimp only; omega, ?_, ?_, ?_⟩ (by dsimp only; omega) ?_ (.keep _ _ _ _ _ _ (fun o' h => ?_) (.nil _))
      · dsimp only; rw [List.length_append, List.length_singleton]; omega
      · dsimp only; rw [← hx2]; exact hI'
      · dsimp only; rw [ht]; simp
      · dsimp only; rw [List.length_append, List.length_singleton]; exact (by repeat (first | exact SubE.nil | refine SubE.cons _ _ _ rfl ?_))
      · dsimp only; rw [List.length_append, List.length_singleton, List.map_append]; exact h
  · have hk' : ¬ k < i.length := of_decide_eq_false h
    obtain rfl : k = i.length := by omega
    rw [List.drop_length] at hI
    cases hI
    rw [List.append_nil] at ht
    subst ht
    repeat (first | refine JL.q (by first | (apply OQ.b2s (s := ⟨some ⟨b, 0, none⟩, cap, t⟩); exact Tryz.underlying22; exact Tryz.underlying5; exact Tryz.underlying9; exact rfl; exact (fun w' hw' => ownb_ok hw' .here)) | (apply OQ.move; exact rfl) | (apply OQ.assign; exact rfl)) rfl ?_ | refine JC.seq ?_ | refine JC.region ?_ | refine JC.exit ?_ | refine JL.nil ?_ | refine JE.next ?_ | refine JE.then_exit ?_ | refine JE.blk_hit ?_)
    exact JC.ret (JE.ret1 rfl (RV.tmp rfl) fun w' hw => ⟨rfl, hw.chg⟩)
theorem quotedN_any (r : List Bt) (w : World) (hl : r.length < 9223372036854770000) : Calls Tryz.prog 122 [Z r].toArray w fun e w' => e = .returned (N (quotR r.tail 1)) ∧ Ext w w' := by
  cases r with
  | cons c r => exact quoted_any c r w (by rw [List.length_cons] at hl; omega)
  | nil =>
    refine enter (n := 21) Tryz.func122 rfl rfl rfl (Holds.start w []) ?_
    repeat (first | refine JL.q (by (apply OQ.assign; exact rfl)) rfl ?_ | refine JC.seq ?_ | refine JC.region ?_ | refine JC.block ?_ | refine JL.nil ?_ | refine JE.next ?_)
    refine JC.loop (fun k : Nat => [(0, Z []), (3, N 1)]) (fun _ => []) (fun _ => 0) (fun _ => True) 1 trivial (by repeat (first | exact SubE.nil | refine SubE.cons _ _ _ rfl ?_)) (Less.refl _) ?_
    intro _ _
    repeat (first | refine JL.q (by first | (apply OQ.lenS; exact Tryz.underlying9; exact rfl) | (apply OQ.move; exact rfl) | (apply OQ.lssN; exact rfl; exact rfl)) rfl ?_ | refine JC.seq ?_ | refine JC.region ?_ | refine JL.nil ?_ | refine JE.next ?_)
    refine JC.cond rfl (fun h => absurd (of_decide_eq_true h) (by decide)) (fun _ => ?_)
    repeat (first | refine JL.q (by (apply OQ.assign; exact rfl)) rfl ?_ | refine JC.seq ?_ | refine JC.region ?_ | refine JC.exit ?_ | refine JL.nil ?_ | refine JE.next ?_ | refine JE.then_exit ?_ | refine JE.blk_hit ?_)
    refine JC.ret ?_
    exact JE.ret1 rfl (RV.tmp rfl) fun w' hw => ⟨rfl, hw.chg⟩
set_option maxHeartbeats 16000000 in
theorem readV_any (s : List Bt) (w : World) (hl : s.length < 1000000000) : Calls Tryz.prog 125 [Z s].toArray w fun e w' => e = .returned (.tuple #[Z (valL s).1, Z (valL s).2.1, .bool (valL s).2.2]) ∧ Ext w w' := by
  refine enter (n := 38) Tryz.func125 rfl rfl rfl (Holds.start w []) ?_
  have cP : ∀ (b : Nat) (w0 w' : World) (M : List Ent), Holds w0 [] (⟨b, Row 9 [Z notWord], true⟩ :: M) w' → Calls Tryz.prog 91 [Z s, prF b].toArray w' fun e w'' => e = .returned (.tuple #[Z (partL looseB s).1, Z (partL looseB s).2]) ∧ Ext w' w'' := fun b w0 w' M hw' => by
    have := partA_any s (prF b) (prB notWord) w' (fun_printed hw' .here) (by omega)
    rw [prB_word] at this
    exact this
  obtain ⟨b1, b2, e1, k1, k2, _⟩ := partL_split looseB s
  have hrl : (partL looseB s).2.length ≤ s.length := by
    conv => rhs; rw [e1]
    simp only [List.length_append]
    omega
  clear e1 k1 k2 b1 b2
  unfold valL
  generalize (partL looseB s).1 = V at cP hrl ⊢
  generalize (partL looseB s).2 = r at cP hrl ⊢
  repeat (first | refine JL.q (by first | (apply OQ.move; exact rfl) | (apply OQ.assign; exact rfl)) rfl ?_ | refine JC.seq ?_ | refine JC.region ?_ | refine JL.nil ?_ | refine JE.next ?_)
  refine JL.callg (ι := Nat) (vs := [Z notWord]) prF (fun b => [⟨b, Row 9 [Z notWord], true⟩]) goes_printed rfl rfl (fun b e he => by rw [List.mem_singleton.1 he]) (fun w' _ => printed_any notWord w') fun b => ?_
  cases hV : decide (V = [])
  · rw [if_pos (of_decide_eq_false hV)]
    repeat (first | refine JL.q (by first | (apply OQ.callx (vs := [Z s, prF b]); exact goes_partA; exact rfl; exact (fun w' hw' => cP b _ w' _ hw')) | (apply OQ.extract; exact rfl; exact rfl) | (apply OQ.neSB (r := []); exact rfl; exact rfl; exact hV) | (apply OQ.move; exact rfl) | (apply OQ.assign; exact rfl)) rfl ?_ | refine JC.seq ?_ | refine JC.region ?_ | refine JL.nil ?_ | refine JE.next ?_)
    refine JC.cond rfl (fun _ => ?_) (fun h => by cases h)
    repeat (first | refine JL.q (by first | (apply OQ.move; exact rfl) | (apply OQ.assign; exact rfl)) rfl ?_ | refine JC.seq ?_ | refine JC.region ?_ | refine JL.nil ?_ | refine JE.next ?_)
    refine JC.ret ?_
    repeat (refine JE.then_ret ?_)
    exact JE.ret3 rfl (RV.tmp rfl) (RV.tmp rfl) (RV.tmp rfl) fun w' hw => ⟨rfl, hw.chg⟩
  rw [if_neg (fun k => k (of_decide_eq_true hV))]
  have cQ := fun w' => quotedN_any r w' (by omega)
  cases hq : decide ((quotR r.tail 1 : Int) = 0)
  case true =>
    rw [if_neg (fun k => k.2 (by have := of_decide_eq_true hq; omega))]
    generalize quotR r.tail 1 = q at cQ hq
    repeat (first | refine JL.q (by first | (apply OQ.callx (vs := [Z s, prF b]); exact goes_partA; exact rfl; exact (fun w' hw' => cP b _ w' _ hw')) | (apply OQ.extract; exact rfl; exact rfl) | (apply OQ.neSB (r := []); exact rfl; exact rfl; exact hV) | (apply OQ.move; exact rfl) | (apply OQ.assign; exact rfl)) rfl ?_ | refine JC.seq ?_ | refine JC.region ?_ | refine JL.nil ?_ | refine JE.next ?_)
    refine JC.cond rfl (fun h => by cases h) (fun _ => ?_)
    repeat (first | refine JL.q (by first | (apply OQ.callx (vs := [Z r]); exact goes_quoted; exact rfl; exact (fun w' _ => cQ w')) | (apply OQ.eqB (b := 0); exact rfl; exact rfl; exact hq) | (apply OQ.pick_t; exact rfl; exact rfl) | (apply OQ.move; exact rfl) | (apply OQ.assign; exact rfl)) rfl ?_ | refine JC.seq ?_ | refine JC.region ?_ | refine JC.skip ?_ | refine JL.nil ?_ | refine JE.next ?_ | refine JL.gskip rfl rfl rfl rfl ?_)
    refine JC.cond rfl (fun _ => ?_) (fun h => by cases h)
    repeat (first | refine JL.q (by (apply OQ.assign; exact rfl)) rfl ?_ | refine JC.seq ?_ | refine JC.region ?_ | refine JL.nil ?_ | refine JE.next ?_)
    refine JC.ret ?_
    repeat (refine JE.then_ret ?_)
    exact JE.ret3 rfl (RV.tmp rfl) (RV.tmp rfl) (RV.tmp rfl) fun w' hw => ⟨rfl, hw.chg⟩
  have hqn : quotR r.tail 1 ≠ 0 := by have := of_decide_eq_false hq; omega
  obtain ⟨c, x, rfl⟩ : ∃ c x, r = c :: x := by
    cases r with
    | nil => exact absurd (quot_e 1) hqn
    | cons c x => exact ⟨c, x, rfl⟩
  rw [List.tail_cons] at *
  rw [List.head?_cons]
  have i0 := fun {n : Nat} {E : Env} {C : World → Prop} {dst : Option Tmp} {ty : TypeId} {pos : String} {aft : Array Edge} {g : Option (Nat × Bool)} {y z : Operand} => idxAt10 (s := c :: x) (i := 0) (Nat.succ_pos _) (n := n) (E := E) (C := C) (dst := dst) (ty := ty) (pos := pos) (aft := aft) (g := g) (x := y) (y := z)
  rw [List.getD_cons_zero] at i0
  cases h34 : decide (c = 34)
  · rw [if_neg (fun k => of_decide_eq_false h34 (Option.some.inj k.1))]
    generalize quotR x 1 = q at cQ hq
    repeat (first | refine JL.q (by first | (apply OQ.callx (vs := [Z s, prF b]); exact goes_partA; exact rfl; exact (fun w' hw' => cP b _ w' _ hw')) | (apply OQ.extract; exact rfl; exact rfl) | (apply OQ.neSB (r := []); exact rfl; exact rfl; exact hV) | (apply OQ.move; exact rfl) | (apply OQ.assign; exact rfl)) rfl ?_ | refine JC.seq ?_ | refine JC.region ?_ | refine JL.nil ?_ | refine JE.next ?_)
    refine JC.cond rfl (fun h => by cases h) (fun _ => ?_)
    repeat (first | refine JL.q (by first | (apply OQ.callx (vs := [Z (c :: x)]); exact goes_quoted; exact rfl; exact (fun w' _ => cQ w')) | (apply OQ.eqB (b := 0); exact rfl; exact rfl; exact hq) | (apply i0; exact rfl; exact rfl) | (apply OQ.ne8B (b := 34); exact rfl; exact rfl; exact h34) | (apply OQ.pick_f; exact rfl; exact rfl) | (apply OQ.move; exact rfl) | (apply OQ.assign; exact rfl)) rfl ?_ | refine JC.seq ?_ | refine JC.region ?_ | refine JC.skip ?_ | refine JL.nil ?_ | refine JE.next ?_ | refine JL.gon rfl rfl ?_)
    refine JC.cond rfl (fun _ => ?_) (fun h => by cases h)
    repeat (first | refine JL.q (by (apply OQ.assign; exact rfl)) rfl ?_ | refine JC.seq ?_ | refine JC.region ?_ | refine JL.nil ?_ | refine JE.next ?_)
    refine JC.ret ?_
    repeat (refine JE.then_ret ?_)
    exact JE.ret3 rfl (RV.tmp rfl) (RV.tmp rfl) (RV.tmp rfl) fun w' hw => ⟨rfl, hw.chg⟩
  · obtain rfl : c = 34 := of_decide_eq_true h34
    rw [if_pos ⟨rfl, hqn⟩]
    obtain ⟨i, t, z, rfl, hI⟩ := inn_of_quot _ x 1 (Nat.le_refl _) hqn
    rw [hI.unq, List.nil_append]
    have hlen : (34 :: (i ++ 34 :: z)).length = i.length + z.length + 2 := by simp only [List.length_cons, List.length_append]; omega
    have cU := fun w' => unqA_any hI w' (by omega)
    have cM := fun w' => may_any i w' (by omega)
    rw [hI.sok] at cM
    have hins : ((34 :: (i ++ 34 :: z)).take (quotR (i ++ 34 :: z) 1 - 1)).drop 1 = i := by
      rw [hI.quot, show 1 + i.length + 1 - 1 = i.length + 1 by omega, List.take_succ_cons, List.drop_succ_cons, List.drop_zero, List.take_left]
    have hql : quotR (i ++ 34 :: z) 1 = i.length + 2 := by rw [hI.quot]; omega
    generalize quotR (i ++ 34 :: z) 1 = q at *
    have h1 : 1 ≤ q - 1 := by omega
    have h2 : q - 1 ≤ (34 :: (i ++ 34 :: z)).length := by omega
    have h3 : q ≤ (34 :: (i ++ 34 :: z)).length := by omega
    have cT := fun w' => triml_any ((34 :: (i ++ 34 :: z)).drop q) w'
    generalize 34 :: (i ++ 34 :: z) = r at *
    repeat (first | refine JL.q (by first | (apply OQ.callx (vs := [Z s, prF b]); exact goes_partA; exact rfl; exact (fun w' hw' => cP b _ w' _ hw')) | (apply OQ.extract; exact rfl; exact rfl) | (apply OQ.neSB (r := []); exact rfl; exact rfl; exact hV) | (apply OQ.move; exact rfl) | (apply OQ.assign; exact rfl)) rfl ?_ | refine JC.seq ?_ | refine JC.region ?_ | refine JL.nil ?_ | refine JE.next ?_)
    refine JC.cond rfl (fun h => by cases h) (fun _ => ?_)
    repeat (first | refine JL.q (by first | (apply OQ.callx (vs := [Z r]); exact goes_quoted; exact rfl; exact (fun w' _ => cQ w')) | (apply OQ.eqB (b := 0); exact rfl; exact rfl; exact hq) | (apply i0; exact rfl; exact rfl) | (apply OQ.ne8B (b := 34); exact rfl; exact rfl; exact h34) | (apply OQ.pick_f; exact rfl; exact rfl) | (apply OQ.move; exact rfl) | (apply OQ.assign; exact rfl)) rfl ?_ | refine JC.seq ?_ | refine JC.region ?_ | refine JC.skip ?_ | refine JL.nil ?_ | refine JE.next ?_ | refine JL.gon rfl rfl ?_)
    refine JC.cond rfl (fun h => by cases h) (fun _ => ?_)
    repeat (first | refine JL.q (by first | (apply OQ.to; exact (OQ.subS Tryz.underlying9 rfl rfl rfl h1 h2); exact (congrArg Z hins)) | (apply OQ.move; exact rfl) | (apply OQ.assign; exact rfl) | (apply OQ.subN; exact rfl; exact rfl; exact (by (try simp only []); omega); exact (by (try simp only []); omega))) rfl ?_ | refine JC.seq ?_ | refine JC.region ?_ | refine JC.skip ?_ | refine JL.nil ?_ | refine JE.next ?_)
    refine JC.quiet mixT (by kernel_rfl) ?_
    repeat (first | refine JQ.q (by first | (apply OQ.callx (vs := [Z i]); exact goes_unqA; exact rfl; exact (fun w' _ => cU w')) | (apply OQ.subS_lo; exact Tryz.underlying9; exact rfl; exact rfl; exact h3) | (apply OQ.callx (vs := [Z (r.drop q), Z [32, 9]]); exact goes_triml; exact rfl; exact (fun w' _ => cT w')) | (apply OQ.callx (vs := [Z i]); exact goes_may; exact rfl; exact (fun w' _ => cM w')) | (apply OQ.move; exact rfl) | (apply OQ.assign; exact rfl)) rfl ?_ | refine JQ.nil ?_ | refine JE.next ?_)
    exact JC.ret (JE.ret3 rfl (RV.tmp rfl) (RV.tmp rfl) (RV.tmp rfl) fun w' hw => ⟨rfl, hw.chg⟩)
end Go.Proofs.YtbbmhkdfdgnkpaaGreatDoor

/-
  Of no statement by itself: what the landed token's Ids gives.
  Conditions: each theorem's own.
-/
namespace Go.Proofs.YtbbmhkdfdgnkpaaGreatDoor
set_option maxRecDepth 10000
open Sl Fld Tok
theorem cpV_parts (c : Bt) (t : List Bt) : ∃ (x : List Bt) (b : Bool), cpV c t = .tuple #[Z x, .bool b] ∧ x.length ≤ t.length ∧ (b = true → t.head? = some c ∧ x = t.tail) ∧ (b = false → ¬ t.head? = some c ∧ x = t) := by
  unfold cpV
  by_cases h : t.head? = some c
  · rw [if_pos h]
    exact ⟨_, _, rfl, by rw [List.length_tail]; omega, fun _ => ⟨h, rfl⟩, fun k => by cases k⟩
  · rw [if_neg h]
    exact ⟨_, _, rfl, Nat.le_refl _, (fun k => by cases k), fun _ => ⟨h, rfl⟩⟩
end Go.Proofs.YtbbmhkdfdgnkpaaGreatDoor

/-
  Of no statement by itself: what the landed token's param and Params give.
  Conditions: each theorem's own.
-/
namespace Go.Proofs.YtbbmhkdfdgnkpaaGreatDoor
set_option maxRecDepth 10000
open Sl Fld Tok
theorem goes_paramA : Goes Tryz.prog 93 := ⟨_, Tryz.func93, rfl, by kernel_rfl⟩
def pmV (o : Option (Pr × List Bt)) : Value := match o with
  | some (p, z) => .tuple #[.agg (pc p).toArray, Z z, .bool true]
  | none => .tuple #[.agg (pc ([], [])).toArray, Z [], .bool false]
set_option maxHeartbeats 32000000 in
theorem paramA_any (s : List Bt) (w : World) (hl : s.length < 1000000000) : Calls Tryz.prog 93 [Z s].toArray w fun e w' => e = .returned (pmV (paramL s)) ∧ Ext w w' := by
  refine enter (n := 51) Tryz.func93 rfl rfl rfl (Holds.start w []) ?_
  obtain ⟨ins, bg, e1, l1, b1, b2⟩ := cpV_parts 59 s
  have c1 := fun w' => cpw_any s 59 w'
  rw [e1] at c1
  have cP : ∀ (b : Nat) (w0 w' : World) (M : List Ent), Holds w0 [] (⟨b, Row 9 [Z notAtom], true⟩ :: M) w' → Calls Tryz.prog 91 [Z ins, prF b].toArray w' fun e w'' => e = .returned (.tuple #[Z (partL plainB ins).1, Z (partL plainB ins).2]) ∧ Ext w' w'' := fun b w0 w' M hw' => by
    have := partA_any ins (prF b) (prB notAtom) w' (fun_printed hw' .here) (by omega)
    rw [prB_atom] at this
    exact this
  obtain ⟨k1, k2, e3, q1, q2, hpl⟩ := partL_split plainB ins
  have hnl : (partL plainB ins).1.length + (partL plainB ins).2.length ≤ ins.length := by
    conv => rhs; rw [e3]
    simp only [List.length_append]
    omega
  clear e3 q1 q2 k1 k2
  have hP : paramL s = if s.head? = some 59 ∧ (partL plainB s.tail).1 ≠ [] ∧ (partL plainB s.tail).2.head? = some 61 ∧ (valL (partL plainB s.tail).2.tail).2.2 = true then
    some (((partL plainB s.tail).1.map small, (valL (partL plainB s.tail).2.tail).1), (valL (partL plainB s.tail).2.tail).2.1) else none := rfl
  have hn1 : bg = true → partL plainB s.tail = partL plainB ins := fun h => by rw [(b1 h).2]
  obtain ⟨n, u, hp⟩ : ∃ n u, partL plainB ins = (n, u) := ⟨_, _, rfl⟩
  rw [hp] at cP hpl hnl hn1
  dsimp only at cP hpl hnl
  clear hp
  obtain ⟨u2, go, e2, l2, g1, g2⟩ := cpV_parts 61 u
  have c2 := fun w' => cpw_any u 61 w'
  rw [e2] at c2
  have c3 := fun w' => readV_any u2 w' (by omega)
  have hg1 : go = true → valL u.tail = valL u2 := fun h => by rw [(g1 h).2]
  obtain ⟨v, z, ok, hv⟩ : ∃ v z ok, valL u2 = (v, z, ok) := ⟨_, _, _, rfl⟩
  rw [hv] at c3 hg1
  dsimp only at c3
  clear hv e1 e2
  repeat (first | refine JC.seq ?_ | refine JC.region ?_)
  refine JL.alloc parZ rfl fun bc _ => ?_
  cases gn : decide (n = [])
  case true =>
    have hN : paramL s = none := by
      rw [hP, if_neg]
      rintro ⟨h, hn, _⟩
      cases bg with
      | true => rw [hn1 rfl] at hn; exact hn (of_decide_eq_true gn)
      | false => exact (b2 rfl).1 h
    rw [hN]
    clear hP hn1 hg1 b1 b2 g1 g2 hN
    cases bg
    · repeat (first | refine JL.q (by first | (apply OQ.callx (vs := [Z s, Z [59]]); exact goes_cpw; exact rfl; exact (fun w' _ => c1 w')) | (apply OQ.extract; exact rfl; exact rfl) | (apply OQ.move; exact rfl) | (apply OQ.assign; exact rfl)) rfl ?_ | refine JC.seq ?_ | refine JC.region ?_ | refine JL.nil ?_ | refine JE.next ?_)
      refine JL.callg (ι := Nat) (vs := [Z notAtom]) prF (fun b => [⟨b, Row 9 [Z notAtom], true⟩]) goes_printed rfl rfl (fun b e he => by rw [List.mem_singleton.1 he]) (fun w' _ => printed_any notAtom w') fun b => ?_
      repeat (first | refine JL.q (by first | (apply OQ.callx (vs := [Z ins, prF b]); exact goes_partA; exact rfl; exact (fun w' hw' => cP b _ w' _ hw')) | (apply OQ.callx (vs := [Z u, Z [61]]); exact goes_cpw; exact rfl; exact (fun w' _ => c2 w')) | (apply OQ.callx (vs := [Z u2]); exact goes_readV; exact rfl; exact (fun w' _ => c3 w')) | (apply OQ.extract; exact rfl; exact rfl) | (apply OQ.not; exact rfl) | (apply OQ.pick_t; exact rfl; exact rfl) | (apply OQ.move; exact rfl) | (apply OQ.assign; exact rfl)) rfl ?_ | refine JC.seq ?_ | refine JC.region ?_ | refine JL.nil ?_ | refine JE.next ?_ | refine JL.gskip rfl rfl rfl rfl ?_)
      refine JC.cond rfl (fun _ => ?_) (fun h => by cases h)
      repeat (first | refine JL.q (by (apply OQ.build0)) rfl ?_ | refine JC.seq ?_ | refine JC.region ?_)
      refine JL.store_all (cs := pc ([], [])) parS rfl rfl rfl rfl (.there .here) rfl ?_
      repeat (first | refine JL.q (by (apply OQ.assign; exact rfl)) rfl ?_ | refine JL.nil ?_ | refine JE.next ?_)
      refine JC.ret ?_
      repeat (refine JE.then_ret ?_)
      exact JE.ret3 rfl (RV.cell_agg (cs := pc ([], [])) parA parS rfl (.there .here) rfl Row.all) (RV.tmp rfl) (RV.tmp rfl) fun w' hw => ⟨rfl, hw.chg⟩
    · repeat (first | refine JL.q (by first | (apply OQ.callx (vs := [Z s, Z [59]]); exact goes_cpw; exact rfl; exact (fun w' _ => c1 w')) | (apply OQ.extract; exact rfl; exact rfl) | (apply OQ.move; exact rfl) | (apply OQ.assign; exact rfl)) rfl ?_ | refine JC.seq ?_ | refine JC.region ?_ | refine JL.nil ?_ | refine JE.next ?_)
      refine JL.callg (ι := Nat) (vs := [Z notAtom]) prF (fun b => [⟨b, Row 9 [Z notAtom], true⟩]) goes_printed rfl rfl (fun b e he => by rw [List.mem_singleton.1 he]) (fun w' _ => printed_any notAtom w') fun b => ?_
      repeat (first | refine JL.q (by first | (apply OQ.callx (vs := [Z ins, prF b]); exact goes_partA; exact rfl; exact (fun w' hw' => cP b _ w' _ hw')) | (apply OQ.callx (vs := [Z u, Z [61]]); exact goes_cpw; exact rfl; exact (fun w' _ => c2 w')) | (apply OQ.callx (vs := [Z u2]); exact goes_readV; exact rfl; exact (fun w' _ => c3 w')) | (apply OQ.extract; exact rfl; exact rfl) | (apply OQ.not; exact rfl) | (apply OQ.pick_t; exact rfl; exact rfl) | (apply OQ.pick_f; exact rfl; exact rfl) | (apply OQ.eqSB (r := []); exact rfl; exact rfl; exact gn) | (apply OQ.move; exact rfl) | (apply OQ.assign; exact rfl)) rfl ?_ | refine JC.seq ?_ | refine JC.region ?_ | refine JL.nil ?_ | refine JE.next ?_ | refine JL.gon rfl rfl ?_ | refine JL.gskip rfl rfl rfl rfl ?_)
      refine JC.cond rfl (fun _ => ?_) (fun h => by cases h)
      repeat (first | refine JL.q (by (apply OQ.build0)) rfl ?_ | refine JC.seq ?_ | refine JC.region ?_)
      refine JL.store_all (cs := pc ([], [])) parS rfl rfl rfl rfl (.there .here) rfl ?_
      repeat (first | refine JL.q (by (apply OQ.assign; exact rfl)) rfl ?_ | refine JL.nil ?_ | refine JE.next ?_)
      refine JC.ret ?_
      repeat (refine JE.then_ret ?_)
      exact JE.ret3 rfl (RV.cell_agg (cs := pc ([], [])) parA parS rfl (.there .here) rfl Row.all) (RV.tmp rfl) (RV.tmp rfl) fun w' hw => ⟨rfl, hw.chg⟩
  cases bg
  · have hN : paramL s = none := by
      rw [hP, if_neg]
      rintro ⟨h, _⟩
      exact (b2 rfl).1 h
    rw [hN]
    clear hP hn1 hg1 b1 b2 g1 g2 hN
    repeat (first | refine JL.q (by first | (apply OQ.callx (vs := [Z s, Z [59]]); exact goes_cpw; exact rfl; exact (fun w' _ => c1 w')) | (apply OQ.extract; exact rfl; exact rfl) | (apply OQ.move; exact rfl) | (apply OQ.assign; exact rfl)) rfl ?_ | refine JC.seq ?_ | refine JC.region ?_ | refine JL.nil ?_ | refine JE.next ?_)
    refine JL.callg (ι := Nat) (vs := [Z notAtom]) prF (fun b => [⟨b, Row 9 [Z notAtom], true⟩]) goes_printed rfl rfl (fun b e he => by rw [List.mem_singleton.1 he]) (fun w' _ => printed_any notAtom w') fun b => ?_
    repeat (first | refine JL.q (by first | (apply OQ.callx (vs := [Z ins, prF b]); exact goes_partA; exact rfl; exact (fun w' hw' => cP b _ w' _ hw')) | (apply OQ.callx (vs := [Z u, Z [61]]); exact goes_cpw; exact rfl; exact (fun w' _ => c2 w')) | (apply OQ.callx (vs := [Z u2]); exact goes_readV; exact rfl; exact (fun w' _ => c3 w')) | (apply OQ.extract; exact rfl; exact rfl) | (apply OQ.not; exact rfl) | (apply OQ.pick_t; exact rfl; exact rfl) | (apply OQ.move; exact rfl) | (apply OQ.assign; exact rfl)) rfl ?_ | refine JC.seq ?_ | refine JC.region ?_ | refine JL.nil ?_ | refine JE.next ?_ | refine JL.gskip rfl rfl rfl rfl ?_)
    refine JC.cond rfl (fun _ => ?_) (fun h => by cases h)
    repeat (first | refine JL.q (by (apply OQ.build0)) rfl ?_ | refine JC.seq ?_ | refine JC.region ?_)
    refine JL.store_all (cs := pc ([], [])) parS rfl rfl rfl rfl (.there .here) rfl ?_
    repeat (first | refine JL.q (by (apply OQ.assign; exact rfl)) rfl ?_ | refine JL.nil ?_ | refine JE.next ?_)
    refine JC.ret ?_
    repeat (refine JE.then_ret ?_)
    exact JE.ret3 rfl (RV.cell_agg (cs := pc ([], [])) parA parS rfl (.there .here) rfl Row.all) (RV.tmp rfl) (RV.tmp rfl) fun w' hw => ⟨rfl, hw.chg⟩
  have h59 := (b1 rfl).1
  rw [hn1 rfl] at hP
  dsimp only at hP
  cases go
  · have hN : paramL s = none := by
      rw [hP, if_neg]
      rintro ⟨_, _, h, _⟩
      exact (g2 rfl).1 h
    rw [hN]
    clear hP hn1 hg1 b1 b2 g1 g2 hN
    repeat (first | refine JL.q (by first | (apply OQ.callx (vs := [Z s, Z [59]]); exact goes_cpw; exact rfl; exact (fun w' _ => c1 w')) | (apply OQ.extract; exact rfl; exact rfl) | (apply OQ.move; exact rfl) | (apply OQ.assign; exact rfl)) rfl ?_ | refine JC.seq ?_ | refine JC.region ?_ | refine JL.nil ?_ | refine JE.next ?_)
    refine JL.callg (ι := Nat) (vs := [Z notAtom]) prF (fun b => [⟨b, Row 9 [Z notAtom], true⟩]) goes_printed rfl rfl (fun b e he => by rw [List.mem_singleton.1 he]) (fun w' _ => printed_any notAtom w') fun b => ?_
    repeat (first | refine JL.q (by first | (apply OQ.callx (vs := [Z ins, prF b]); exact goes_partA; exact rfl; exact (fun w' hw' => cP b _ w' _ hw')) | (apply OQ.callx (vs := [Z u, Z [61]]); exact goes_cpw; exact rfl; exact (fun w' _ => c2 w')) | (apply OQ.callx (vs := [Z u2]); exact goes_readV; exact rfl; exact (fun w' _ => c3 w')) | (apply OQ.extract; exact rfl; exact rfl) | (apply OQ.not; exact rfl) | (apply OQ.pick_t; exact rfl; exact rfl) | (apply OQ.pick_f; exact rfl; exact rfl) | (apply OQ.eqSB (r := []); exact rfl; exact rfl; exact gn) | (apply OQ.move; exact rfl) | (apply OQ.assign; exact rfl)) rfl ?_ | refine JC.seq ?_ | refine JC.region ?_ | refine JL.nil ?_ | refine JE.next ?_ | refine JL.gon rfl rfl ?_ | refine JL.gskip rfl rfl rfl rfl ?_)
    refine JC.cond rfl (fun _ => ?_) (fun h => by cases h)
    repeat (first | refine JL.q (by (apply OQ.build0)) rfl ?_ | refine JC.seq ?_ | refine JC.region ?_)
    refine JL.store_all (cs := pc ([], [])) parS rfl rfl rfl rfl (.there .here) rfl ?_
    repeat (first | refine JL.q (by (apply OQ.assign; exact rfl)) rfl ?_ | refine JL.nil ?_ | refine JE.next ?_)
    refine JC.ret ?_
    repeat (refine JE.then_ret ?_)
    exact JE.ret3 rfl (RV.cell_agg (cs := pc ([], [])) parA parS rfl (.there .here) rfl Row.all) (RV.tmp rfl) (RV.tmp rfl) fun w' hw => ⟨rfl, hw.chg⟩
  have h61 := (g1 rfl).1
  rw [hg1 rfl] at hP
  dsimp only at hP
  cases ok
  · have hN : paramL s = none := by
      rw [hP, if_neg]
      rintro ⟨_, _, _, h⟩
      cases h
    rw [hN]
    clear hP hn1 hg1 b1 b2 g1 g2 hN
    repeat (first | refine JL.q (by first | (apply OQ.callx (vs := [Z s, Z [59]]); exact goes_cpw; exact rfl; exact (fun w' _ => c1 w')) | (apply OQ.extract; exact rfl; exact rfl) | (apply OQ.move; exact rfl) | (apply OQ.assign; exact rfl)) rfl ?_ | refine JC.seq ?_ | refine JC.region ?_ | refine JL.nil ?_ | refine JE.next ?_)
    refine JL.callg (ι := Nat) (vs := [Z notAtom]) prF (fun b => [⟨b, Row 9 [Z notAtom], true⟩]) goes_printed rfl rfl (fun b e he => by rw [List.mem_singleton.1 he]) (fun w' _ => printed_any notAtom w') fun b => ?_
    repeat (first | refine JL.q (by first | (apply OQ.callx (vs := [Z ins, prF b]); exact goes_partA; exact rfl; exact (fun w' hw' => cP b _ w' _ hw')) | (apply OQ.callx (vs := [Z u, Z [61]]); exact goes_cpw; exact rfl; exact (fun w' _ => c2 w')) | (apply OQ.callx (vs := [Z u2]); exact goes_readV; exact rfl; exact (fun w' _ => c3 w')) | (apply OQ.extract; exact rfl; exact rfl) | (apply OQ.not; exact rfl) | (apply OQ.pick_f; exact rfl; exact rfl) | (apply OQ.eqSB (r := []); exact rfl; exact rfl; exact gn) | (apply OQ.move; exact rfl) | (apply OQ.assign; exact rfl)) rfl ?_ | refine JC.seq ?_ | refine JC.region ?_ | refine JL.nil ?_ | refine JE.next ?_ | refine JL.gon rfl rfl ?_)
    refine JC.cond rfl (fun _ => ?_) (fun h => by cases h)
    repeat (first | refine JL.q (by (apply OQ.build0)) rfl ?_ | refine JC.seq ?_ | refine JC.region ?_)
    refine JL.store_all (cs := pc ([], [])) parS rfl rfl rfl rfl (.there .here) rfl ?_
    repeat (first | refine JL.q (by (apply OQ.assign; exact rfl)) rfl ?_ | refine JL.nil ?_ | refine JE.next ?_)
    refine JC.ret ?_
    repeat (refine JE.then_ret ?_)
    exact JE.ret3 rfl (RV.cell_agg (cs := pc ([], [])) parA parS rfl (.there .here) rfl Row.all) (RV.tmp rfl) (RV.tmp rfl) fun w' hw => ⟨rfl, hw.chg⟩
  rw [if_pos ⟨h59, of_decide_eq_false gn, h61, rfl⟩] at hP
  rw [hP]
  clear hP hn1 hg1 b1 b2 g1 g2
  have cL := fun w' => lower_any n w' (by omega) (fun c hc => plain_low (hpl c hc))
  repeat (first | refine JL.q (by first | (apply OQ.callx (vs := [Z s, Z [59]]); exact goes_cpw; exact rfl; exact (fun w' _ => c1 w')) | (apply OQ.extract; exact rfl; exact rfl) | (apply OQ.move; exact rfl) | (apply OQ.assign; exact rfl)) rfl ?_ | refine JC.seq ?_ | refine JC.region ?_ | refine JL.nil ?_ | refine JE.next ?_)
  refine JL.callg (ι := Nat) (vs := [Z notAtom]) prF (fun b => [⟨b, Row 9 [Z notAtom], true⟩]) goes_printed rfl rfl (fun b e he => by rw [List.mem_singleton.1 he]) (fun w' _ => printed_any notAtom w') fun b => ?_
  repeat (first | refine JL.q (by first | (apply OQ.callx (vs := [Z ins, prF b]); exact goes_partA; exact rfl; exact (fun w' hw' => cP b _ w' _ hw')) | (apply OQ.callx (vs := [Z u, Z [61]]); exact goes_cpw; exact rfl; exact (fun w' _ => c2 w')) | (apply OQ.callx (vs := [Z u2]); exact goes_readV; exact rfl; exact (fun w' _ => c3 w')) | (apply OQ.extract; exact rfl; exact rfl) | (apply OQ.not; exact rfl) | (apply OQ.pick_f; exact rfl; exact rfl) | (apply OQ.eqSB (r := []); exact rfl; exact rfl; exact gn) | (apply OQ.move; exact rfl) | (apply OQ.assign; exact rfl)) rfl ?_ | refine JC.seq ?_ | refine JC.region ?_ | refine JL.nil ?_ | refine JE.next ?_ | refine JL.gon rfl rfl ?_)
  refine JC.cond rfl (fun h => by cases h) (fun _ => ?_)
  repeat (first | refine JL.q (by first | (apply OQ.callx (vs := [Z n]); exact goes_lower; exact rfl; exact (fun w' _ => cL w')) | (apply OQ.build2 (a := n.map small) (b := v); exact rfl; exact rfl) | (apply OQ.move; exact rfl)) rfl ?_ | refine JC.seq ?_ | refine JC.region ?_ | refine JC.skip ?_ | refine JE.next ?_)
  refine JL.store_all (cs := pc (n.map small, v)) parS rfl rfl rfl rfl (.there .here) rfl ?_
  repeat (first | refine JL.q (by (apply OQ.assign; exact rfl)) rfl ?_ | refine JL.nil ?_ | refine JE.next ?_)
  refine JC.ret ?_
  exact JE.ret3 rfl (RV.cell_agg (cs := pc (n.map small, v)) parA parS rfl (.there .here) rfl Row.all) (RV.tmp rfl) (RV.tmp rfl) fun w' hw => ⟨rfl, hw.chg⟩
/-! ### Params -/
theorem goes_paramsA : Goes Tryz.prog 65 := ⟨_, Tryz.func65, rfl, by kernel_rfl⟩
theorem goes_params1 : Goes Tryz.prog 92 := ⟨_, Tryz.func92, rfl, by kernel_rfl⟩
theorem fnZ : zc Tryz.prog 60 = some [.nilFunc] := by kernel_rfl
theorem fnS : szT Tryz.prog 60 = some 1 := by kernel_rfl
theorem fnC : scal Tryz.prog 60 = true := by kernel_rfl
set_option maxHeartbeats 4000000 in
theorem params1_any (a b : Nat) (c : Bt) (w : World) (hF : Fun8 Tryz.prog w (prF b) plainB) (hc : w.cell? ⟨a, 0, none⟩ = some (prF b)) : Calls Tryz.prog 92 [U8 c, Pt a 0].toArray w fun e w' => e = .returned (.bool (kiB c)) ∧ Ext w w' := by
  refine enter (n := 12) Tryz.func92 rfl rfl rfl (Holds.start w []) ?_
  have hk : kiB c = (plainB c || decide (c = 47)) := by
    unfold kiB
    cases h : decide (c = 47) with
    | true => rw [of_decide_eq_true h]; rfl
    | false => rw [beq_eq_false_iff_ne.2 (of_decide_eq_false h)]
  rw [hk]
  cases h1 : plainB c <;> cases h2 : decide (c = 47)
  all_goals (repeat (first | refine JL.q (by first | (apply OQ.load_old; exact fnC; exact rfl; exact (block_lt_of_cell hc); exact (by simp); exact hc) | (apply OQ.callF; exact hF; exact rfl; exact rfl; exact h1) | (apply OQ.idxZ (l := [47]) (i := 0); exact Tryz.underlying9; exact rfl; exact rfl; exact (by decide)) | (apply OQ.eq8T (b := 47); exact rfl; exact rfl; exact h2) | (apply OQ.pick_t; exact rfl; exact rfl) | (apply OQ.pick_f; exact rfl; exact rfl) | (apply OQ.move; exact rfl) | (apply OQ.assign; exact rfl)) rfl ?_ | refine JC.seq ?_ | refine JC.region ?_ | refine JL.nil ?_ | refine JE.next ?_ | refine JL.gon rfl rfl ?_ | refine JL.gskip rfl rfl rfl rfl ?_))
  all_goals exact JC.ret (JE.ret1 rfl (RV.tmp rfl) fun w' hw => ⟨rfl, hw.chg⟩)
@[reducible] def kiF (a : Nat) : Value := .func (.func 92) #[] [Pt a 0].toArray
theorem fun_kind {w0 w : World} {S : List Nat} {M : List Ent} {a b : Nat} {wr wr' : Bool} (hw : Holds w0 S M w) (hM : Has M a (Row 60 [prF b]) wr) (hN : Has M b (Row 9 [Z notAtom]) wr') : Fun8 Tryz.prog w (kiF a) kiB := by
  refine ⟨_, [Pt a 0], rfl, goes_params1, fun c w' hx => params1_any a b c w' ?_ ?_⟩
  · rw [← prB_atom]
    exact (fun_printed hw hN).ext hx
  · obtain ⟨o, ho, hA⟩ := hw.get hM
    have hlt : a < w.heap.size := hw.lt hM.mem
    exact cell_of ((hx.block a hlt (by simp)).trans ho) (Row.cell rfl o hA)
theorem ki_low {c : Fld.By} (h : kiB c = true) : c.toNat < 128 := by
  unfold kiB at h
  rw [Bool.or_eq_true] at h
  rcases h with h | h
  · exact plain_low h
  · rw [eq_of_beq h]; decide
structure PaS where
  r : List Bt
  q : Acc
  L : List Pr
set_option maxHeartbeats 32000000 in
theorem paramsN_any (s : List Bt) (w : World) (hl : s.length < 1000000) : Calls Tryz.prog 65 [Z s].toArray w fun e w' => ∃ y : G2 (paramsB s).2.1, e = .returned (.tuple #[Z (paramsB s).1, y.z.v, N (paramsB s).2.2]) ∧ Holds w [] y.z.ents w' := by
  refine enter (n := 47) Tryz.func65 rfl rfl rfl (Holds.start w []) ?_
  have cB := fun w' => bareA_any s w' (by omega)
  have hbl := bareB_len s
  unfold paramsB
  rw [params_is]
  generalize (bareB s).1 = x at cB hbl ⊢
  generalize (bareB s).2 = k at cB ⊢
  cases hk : decide ((k : Int) = 0)
  · rw [if_neg (by have := of_decide_eq_false hk; omega)]
    repeat (first | refine JL.q (by first | (apply OQ.callx (vs := [Z s]); exact goes_bareA; exact rfl; exact (fun w' _ => cB w')) | (apply OQ.extract; exact rfl; exact rfl) | (apply OQ.neB (b := 0); exact rfl; exact rfl; exact hk) | (apply OQ.move; exact rfl) | (apply OQ.assign; exact rfl)) rfl ?_ | refine JC.seq ?_ | refine JC.region ?_ | refine JL.nil ?_ | refine JE.next ?_)
    refine JC.cond rfl (fun _ => ?_) (fun h => by cases h)
    repeat (first | refine JL.q (by first | (apply OQ.move; exact rfl) | (apply OQ.assign; exact rfl)) rfl ?_ | refine JC.seq ?_ | refine JC.region ?_ | refine JL.nil ?_ | refine JE.next ?_)
    refine JC.ret ?_
    repeat (refine JE.then_ret ?_)
    refine JE.ret3 rfl (RV.tmp rfl) (RV.tmp rfl) (RV.tmp rfl) ?_
    exact fun w' hw => ⟨⟨nil2, rfl, fun _ => rfl⟩, rfl, Sl.Holds.weak hw (.nil _)⟩
  rw [if_pos (by have := of_decide_eq_true hk; omega)]
  obtain ⟨k1, k2, e3, q1, q2, hpl⟩ := partL_split kiB x
  have hnl : (partL kiB x).1.length + (partL kiB x).2.length ≤ x.length := by
    conv => rhs; rw [e3]
    simp only [List.length_append]
    omega
  clear e3 q1 q2 k1 k2
  unfold paramsL
  have cP := fun (a : Nat) w' hF => partA_any x (kiF a) kiB w' hF (by omega)
  generalize (partL kiB x).1 = n at cP hpl hnl ⊢
  generalize (partL kiB x).2 = r0 at cP hpl hnl ⊢
  have cK := fun w' => isKind_any n w' (by omega)
  repeat (first | refine JL.q (by first | (apply OQ.callx (vs := [Z s]); exact goes_bareA; exact rfl; exact (fun w' _ => cB w')) | (apply OQ.extract; exact rfl; exact rfl) | (apply OQ.neB (b := 0); exact rfl; exact rfl; exact hk) | (apply OQ.move; exact rfl) | (apply OQ.assign; exact rfl)) rfl ?_ | refine JC.seq ?_ | refine JC.region ?_ | refine JL.nil ?_ | refine JE.next ?_)
  refine JC.cond rfl (fun h => by cases h) (fun _ => ?_)
  repeat (first | refine JC.seq ?_ | refine JC.region ?_ | refine JC.skip ?_ | refine JE.next ?_)
  refine JL.callg (ι := Nat) (vs := [Z notAtom]) prF (fun b => [⟨b, Row 9 [Z notAtom], true⟩]) goes_printed rfl rfl (fun b e he => by rw [List.mem_singleton.1 he]) (fun w' _ => printed_any notAtom w') fun b => ?_
  skip
  refine JL.alloc fnZ rfl fun a _ => ?_
  refine JL.store_eq (r := [.nilFunc]) (r' := [prF b]) fnS rfl rfl rfl rfl .here (by decide) rfl ?_
  repeat (first | refine JL.q (by first | (apply OQ.mkF (caps := [Pt a 0]); exact rfl) | (apply OQ.callx (vs := [Z x, kiF a]); exact goes_partA; exact rfl; exact (fun w' hw' => cP a w' (fun_kind hw' .here (.there .here)))) | (apply OQ.extract; exact rfl; exact rfl) | (apply OQ.move; exact rfl) | (apply OQ.assign; exact rfl)) rfl ?_ | refine JC.seq ?_ | refine JC.region ?_ | refine JL.nil ?_ | refine JE.next ?_)
  cases hkd : kindB n
  · rw [if_pos rfl]
    rw [hkd] at cK
    repeat (first | refine JL.q (by first | (apply OQ.callx (vs := [Z n]); exact goes_isKind; exact rfl; exact (fun w' _ => cK w')) | (apply OQ.not; exact rfl)) rfl ?_ | refine JL.nil ?_ | refine JE.next ?_)
    refine JC.cond rfl (fun _ => ?_) (fun h => by cases h)
    repeat (first | refine JL.q (by (apply OQ.assign; exact rfl)) rfl ?_ | refine JC.seq ?_ | refine JC.region ?_ | refine JL.nil ?_ | refine JE.next ?_)
    refine JC.ret ?_
    repeat (refine JE.then_ret ?_)
    refine JE.ret3 rfl (RV.tmp rfl) (RV.tmp rfl) (RV.tmp rfl) ?_
    exact fun w' hw => ⟨⟨nil2, rfl, fun _ => rfl⟩, rfl, Sl.Holds.weak hw (.nil _)⟩
  rw [if_neg (by decide)]
  rw [hkd] at cK
  repeat (first | refine JL.q (by first | (apply OQ.callx (vs := [Z n]); exact goes_isKind; exact rfl; exact (fun w' _ => cK w')) | (apply OQ.not; exact rfl)) rfl ?_ | refine JL.nil ?_ | refine JE.next ?_)
  refine JC.cond rfl (fun h => by cases h) (fun _ => ?_)
  repeat (first | refine JC.seq ?_ | refine JC.block ?_ | refine JC.skip ?_ | refine JE.next ?_)
  refine JC.loop (fun z : PaS => [(2, Z n), (3, accV z.q z.L.length), (7, Z z.r)]) (fun z => accP 38 z.q z.L ++ []) (fun z => z.r.length) (fun z => z.r.length + z.L.length ≤ s.length ∧ (z.q = none → z.L = []) ∧ listL r0 = (listL z.r).map (z.L ++ ·)) ⟨r0, none, []⟩ ⟨by dsimp only; rw [List.length_nil]; omega, fun _ => rfl, by simp⟩ (by repeat (first | exact SubE.nil | refine SubE.cons _ _ _ rfl ?_)) (.nil _) ?_
  rintro ⟨r, q, L⟩ ⟨hlen, hq, hc⟩
  dsimp only at hlen hq hc ⊢
  rw [hc]
  clear hc cP cK cB
  cases hr : decide (r = [])
  · have cA := fun w' => paramA_any r w' (by omega)
    cases hp : paramL r with
    | none =>
      rw [listL_none (of_decide_eq_false hr) hp]
      rw [hp] at cA
      repeat (first | refine JL.q (by first | (apply OQ.neSB (r := []); exact rfl; exact rfl; exact hr) | (apply OQ.move; exact rfl)) rfl ?_ | refine JC.seq ?_ | refine JC.region ?_ | refine JL.nil ?_ | refine JE.next ?_)
      refine JC.cond rfl (fun _ => ?_) (fun h => by cases h)
      repeat (first | refine JL.q (by first | (apply OQ.callx (vs := [Z r]); exact goes_paramA; exact rfl; exact (fun w' _ => cA w')) | (apply OQ.extract; exact rfl; exact rfl) | (apply OQ.move; exact rfl)) rfl ?_ | refine JC.seq ?_ | refine JC.region ?_ | refine JC.block ?_ | refine JC.skip ?_ | refine JE.next ?_)
      refine JL.alloc parZ rfl fun b8 _ => ?_
      refine JL.store_all (cs := pc ([], [])) parS rfl rfl rfl rfl .here rfl ?_
      repeat (first | refine JL.q (by first | (apply OQ.not; exact rfl) | (apply OQ.move; exact rfl) | (apply OQ.assign; exact rfl)) rfl ?_ | refine JC.seq ?_ | refine JC.region ?_ | refine JL.nil ?_ | refine JE.next ?_)
      refine JC.cond rfl (fun _ => ?_) (fun h => by cases h)
      repeat (first | refine JL.q (by (apply OQ.assign; exact rfl)) rfl ?_ | refine JC.seq ?_ | refine JC.region ?_ | refine JL.nil ?_ | refine JE.next ?_)
      refine JC.ret ?_
      repeat (first | refine JE.then_ret ?_ | refine JE.blk_ret ?_)
      refine JE.ret3 rfl (RV.tmp rfl) (RV.tmp rfl) (RV.tmp rfl) ?_
      exact fun w' hw => ⟨⟨nil2, rfl, fun _ => rfl⟩, rfl, Sl.Holds.weak hw (.nil _)⟩
    | some pz =>
      obtain ⟨p, z⟩ := pz
      rw [hp] at cA
      have hzl := paramL_len hp
      rw [listL_some hp]
      repeat (first | refine JL.q (by first | (apply OQ.neSB (r := []); exact rfl; exact rfl; exact hr) | (apply OQ.move; exact rfl)) rfl ?_ | refine JC.seq ?_ | refine JC.region ?_ | refine JL.nil ?_ | refine JE.next ?_)
      refine JC.cond rfl (fun _ => ?_) (fun h => by cases h)
      repeat (first | refine JL.q (by first | (apply OQ.callx (vs := [Z r]); exact goes_paramA; exact rfl; exact (fun w' _ => cA w')) | (apply OQ.extract; exact rfl; exact rfl) | (apply OQ.move; exact rfl)) rfl ?_ | refine JC.seq ?_ | refine JC.region ?_ | refine JC.block ?_ | refine JC.skip ?_ | refine JE.next ?_)
      refine JL.alloc parZ rfl fun b8 _ => ?_
      refine JL.store_all (cs := pc p) parS rfl rfl rfl rfl .here rfl ?_
      repeat (first | refine JL.q (by first | (apply OQ.not; exact rfl) | (apply OQ.move; exact rfl) | (apply OQ.assign; exact rfl)) rfl ?_ | refine JC.seq ?_ | refine JC.region ?_ | refine JL.nil ?_ | refine JE.next ?_)
      refine JC.cond rfl (fun h => by cases h) (fun _ => ?_)
      repeat (first | refine JL.q (by first | (apply OQ.load_agg (cs := pc p); exact parA; exact parS; exact rfl; exact .here; exact rfl; exact Row.all) | (apply OQ.move; exact rfl)) rfl ?_ | refine JC.seq ?_ | refine JC.region ?_ | refine JC.skip ?_ | refine JE.next ?_)
      refine JL.litA (cs := pc p) Tryz.underlying33 parI rfl (by decide) (by decide) rfl rfl rfl fun bl _ => ?_
      refine JL.appendP (p := p) (L := L) (M0 := []) q Tryz.underlying33 parI hq rfl rfl rfl (by omega) (by omega) rfl fun b' cap' => ?_
      repeat (first | refine JL.q (by first | (apply OQ.move; exact rfl) | (apply OQ.assign; exact rfl)) rfl ?_ | refine JC.region ?_ | refine JL.nil ?_ | refine JE.next ?_ | refine JE.blk_normal ?_)
      refine JE.again (i := PaS.mk r q L) (PaS.mk z (some (b', cap')) (L ++ [p])) ⟨?_, (fun h => by cases h), ?_⟩ hzl (by repeat (first | exact SubE.nil | refine SubE.cons _ _ _ rfl ?_)) (Less.refl _)
      · dsimp only
        rw [List.length_append, List.length_singleton]
        omega
      · dsimp only
        cases listL z with
        | none => rfl
        | some l => simp
  · obtain rfl : r = [] := of_decide_eq_true hr
    rw [listL_nil]
    have cL := fun w' => lower_any n w' (by omega) (fun c hc => ki_low (hpl c hc))
    repeat (first | refine JL.q (by first | (apply OQ.neSB (r := []); exact rfl; exact rfl; exact hr) | (apply OQ.move; exact rfl)) rfl ?_ | refine JC.seq ?_ | refine JC.region ?_ | refine JL.nil ?_ | refine JE.next ?_)
    refine JC.cond rfl (fun h => by cases h) (fun _ => ?_)
    repeat (first | refine JL.q (by first | (apply OQ.callx (vs := [Z n]); exact goes_lower; exact rfl; exact (fun w' _ => cL w')) | (apply OQ.move; exact rfl) | (apply OQ.assign; exact rfl)) rfl ?_ | refine JC.seq ?_ | refine JC.region ?_ | refine JC.exit ?_ | refine JL.nil ?_ | refine JE.next ?_ | refine JE.then_exit ?_ | refine JE.blk_hit ?_)
    refine JC.ret ?_
    refine JE.ret3 rfl (RV.tmp rfl) (RV.tmp rfl) (RV.tmp rfl) fun w' hw => ?_
    refine ⟨⟨accLp q L, ?_, fun h => ?_⟩, ?_, ?_⟩
    · rw [accLp_l hq]
      simp
    · cases q with
      | none => rfl
      | some p => cases h
    · dsimp only
      rw [accLp_v]
      rfl
    · cases q with
      | none => exact Sl.Holds.weak hw (.nil _)
      | some p => exact Sl.Holds.weak hw own2_ents
end Go.Proofs.YtbbmhkdfdgnkpaaGreatDoor

/-
  Of no statement by itself: what the landed mime's begun and readBody give.
  Conditions: each theorem's own.
-/
namespace Go.Proofs.YtbbmhkdfdgnkpaaGreatDoor
set_option maxRecDepth 10000
open Sl Fld Mim Tok
theorem goes_begun : Goes Tryz.prog 43 := ⟨_, Tryz.func43, rfl, by kernel_rfl⟩
theorem goes_rbody : Goes Tryz.prog 46 := ⟨_, Tryz.func46, rfl, by kernel_rfl⟩
theorem ltA12 : aggT Tryz.prog 41 = true := by kernel_rfl
theorem ltS12 : szT Tryz.prog 41 = some 2 := by kernel_rfl
theorem ltZ12 : zc Tryz.prog 41 = some [nil2.v, nilS.v] := by kernel_rfl
theorem bsCF : scal Tryz.prog 22 = true := by kernel_rfl
theorem OQ.build_P2 {n : Nat} {E : Env} {C : World → Prop} {dst : Option Tmp} {ty : TypeId} {pos : String} {aft : Array Edge} {g : Option (Nat × Bool)} {x y : Operand} {a : List Bt} {q : Sl2} (hx : ev E x = some (Z a)) (hy : ev E y = some q.v) : OQ Tryz.prog n E C ⟨dst, .build 36 #[(0, x), (1, y)], ty, pos, aft, g⟩ (.agg ([Z a, q.v, .int .i64 0, nilS.v, .slice none 0 0] : List Value).toArray) := by
  refine OQ.run fun k hk w _ => ?_
  have h1 := hk.eval hx
  have h2 := hk.eval hy
  have h3 := run_build (P := Tryz.prog) w 36 #[(0, Z a), (1, q.v)] ([Z a, q.v, .int .i64 0, nilS.v, .slice none 0 0] : List Value).toArray (by kernel_rfl)
  simp [execOp, h1, h2, Sem.run_bind, h3]
theorem goes_getM : Goes Tryz.prog 64 := ⟨_, Tryz.func64, rfl, by kernel_rfl⟩
set_option maxHeartbeats 16000000 in
theorem begun_any (f : Sl2) (s : Sl8) (w : World) (hf : f.ok w) (hz : small2 f) (hl : f.l.length ≤ 1000000) (hv : ∀ p ∈ f.l, sameB p.1 ctN = true → p.2.length ≤ 999999) : Calls Tryz.prog 43 [.agg #[f.v, s.v]].toArray w
    fun e w' => ∃ y : G2 (typB f.l).2.1, e = .returned (.tuple #[.agg ([Z (typB f.l).1, y.z.v, .int .i64 0, nilS.v, .slice none 0 0] : List Value).toArray, N (typB f.l).2.2]) ∧ Holds w [] y.z.ents w' := by
  refine enter (n := 27) Tryz.func43 rfl rfl rfl (Holds.start w []) ?_
  refine JC.seq (JC.region (JL.box (r := [f.v, s.v]) rfl rfl rfl fun b1 _ => ?_))
  refine JL.alloc (r := pz) ?_ ?_ fun b2 _ => ?_
  exact ptZ9
  rfl
  have cg := fun (M : List Ent) (w' : World) (hw' : Holds w [] M w') => lget_any f s ctW w' (hf.holds hw' rfl) hz hl
  rw [all_ctW] at cg
  have hlow := head_low (n := ctN) hv
  cases hA : allB ctN f.l with
  | nil =>
    have hT : typB f.l = (tpN, [], 0) := by unfold typB; rw [hA]
    rw [hA] at cg
    rw [hT]
    repeat (first | refine JL.q (by first | (apply OQ.load_agg (cs := [f.v, s.v]); exact ltA12; exact ltS12; exact rfl; exact (.there .here); exact rfl; exact Row.all) | (apply OQ.callx (vs := [.agg #[f.v, s.v], Z ctW]); exact goes_getM; exact rfl; exact (cg _)) | (apply OQ.extract; exact rfl; exact rfl) | (apply OQ.not; exact rfl) | (apply OQ.move; exact rfl) | (apply OQ.assign; exact rfl)) rfl ?_ | refine JC.seq ?_ | refine JC.region ?_ | refine JL.nil ?_ | refine JE.next ?_)
    refine JC.cond rfl (fun _ => ?_) (fun h => by cases h)
    refine JC.seq (JC.region ?_)
    refine JL.q (OQ.build_P1 (a := tpN)) rfl ?_
    refine JL.store_all (cs := [Z tpN, nil2.v, .int .i64 0, nilS.v, .slice none 0 0]) ptS rfl rfl rfl rfl .here rfl ?_
    repeat (first | refine JL.q (by (apply OQ.assign; exact rfl)) rfl ?_ | refine JL.nil ?_ | refine JE.next ?_)
    refine JC.ret ?_
    refine JE.then_ret ?_
    exact JE.ret2 rfl (RV.cell_agg ptA9 ptS rfl .here rfl Row.all) (RV.tmp rfl) fun w' hw => ⟨⟨nil2, rfl, fun _ => rfl⟩, rfl, hw.weak (.nil _)⟩
  | cons v l =>
    have hT : typB f.l = paramsB v := by unfold typB; rw [hA]
    rw [hA] at cg hlow
    rw [hT]
    have hvl : v.length < 1000000 := by have : v.length ≤ 999999 := hlow; omega
    repeat (first | refine JL.q (by first | (apply OQ.load_agg (cs := [f.v, s.v]); exact ltA12; exact ltS12; exact rfl; exact (.there .here); exact rfl; exact Row.all) | (apply OQ.callx (vs := [.agg #[f.v, s.v], Z ctW]); exact goes_getM; exact rfl; exact (cg _)) | (apply OQ.extract; exact rfl; exact rfl) | (apply OQ.not; exact rfl) | (apply OQ.move; exact rfl) | (apply OQ.assign; exact rfl)) rfl ?_ | refine JC.seq ?_ | refine JC.region ?_ | refine JL.nil ?_ | refine JE.next ?_)
    refine JC.cond rfl (fun h => by cases h) (fun _ => ?_)
    repeat (first | refine JL.q (by (apply OQ.move; exact rfl)) rfl ?_ | refine JC.seq ?_ | refine JC.region ?_ | refine JC.skip ?_ | refine JE.next ?_)
    refine JL.callg (ι := G2 (paramsB v).2.1) (vs := [Z v]) (fun y => .tuple #[Z (paramsB v).1, y.z.v, N (paramsB v).2.2]) (fun y => y.z.ents) goes_paramsA rfl rfl (fun y => y.z.ents_wr) (fun w' _ => paramsN_any v w' hvl) ?_
    intro y
    repeat (first | refine JL.q (by first | (apply OQ.extract; exact rfl; exact rfl) | (apply OQ.build_P2 (q := y.z); exact rfl; exact rfl) | (apply OQ.move; exact rfl) | (apply OQ.assign; exact rfl)) rfl ?_ | refine JC.seq ?_ | refine JC.region ?_ | refine JL.nil ?_ | refine JE.next ?_)
    refine JL.perm (M' := [⟨b2, Row 36 pz, true⟩, ⟨b1, Row 41 [f.v, s.v], true⟩] ++ y.z.ents) ?_ List.perm_append_comm
    refine JL.store_all (cs := [Z (paramsB v).1, y.z.v, .int .i64 0, nilS.v, .slice none 0 0]) ptS rfl rfl rfl rfl .here rfl ?_
    repeat (first | refine JL.q (by (apply OQ.assign; exact rfl)) rfl ?_ | refine JL.nil ?_ | refine JE.next ?_)
    refine JC.ret ?_
    exact JE.ret2 rfl (RV.cell_agg ptA9 ptS rfl .here rfl Row.all) (RV.tmp rfl) fun w' hw => ⟨y, rfl, hw.weak (.drop _ _ _ (.drop _ _ _ (Less.refl _)))⟩
/-- a leaf's bytes as an answer -/
structure RB (f : List PrB) (b : List Fld.By) where
  c : Int
  x : Sl8
  k : Nat
  nn : x.ad = none → x.l = []
  is : match codB (ceB f) with
    | none => k = 3
    | some c' => match bodyR Quo.Qd c' b with
      | .error e => k = e ∧ e ≠ 0
      | .ok y => k = 0 ∧ c = c' ∧ x.l = y
theorem cod_three {c : List Fld.By} {k : Int} (h : codB c = some k) : k = 0 ∨ k = 1 ∨ k = 2 := by
  unfold codB at h
  split at h
  · cases h; exact .inr (.inl rfl)
  · split at h
    · cases h; exact .inr (.inr rfl)
    · split at h
      · cases h; exact .inl rfl
      · cases h
set_option maxHeartbeats 32000000 in
theorem rbody_any (f : Sl2) (s : Sl8) (w : World) (hE : EncOk w) (hf : f.ok w) (hs : s.ok w) (hz : small2 f) (hl : f.l.length ≤ 1000000) (hb : s.l.length ≤ 20000) (hv : ∀ p ∈ f.l, sameB p.1 ceN = true → p.2.length ≤ 999999) : Calls Tryz.prog 46 [.agg #[f.v, s.v]].toArray w
    fun e w' => ∃ r : RB f.l s.l, e = .returned (.tuple #[.int .i64 r.c, r.x.v, N r.k]) ∧ Holds w [] r.x.ents w' := by
  refine enter (n := 44) Tryz.func46 rfl rfl rfl (Holds.start w []) ?_
  refine JC.seq (JC.region (JL.box (r := [f.v, s.v]) rfl rfl rfl fun b1 _ => ?_))
  have cg := fun (M : List Ent) (w' : World) (hw' : Holds w [] M w') => lget_any f s ceW w' (hf.holds hw' rfl) hz hl
  rw [all_ceW] at cg
  have hlow := head_low (n := ceN) hv
  have hce := ceB_head f.l
  have tl := trim_len ((allB ceN f.l).headD [])
  generalize (!(allB ceN f.l).isEmpty) = fnd at cg
  have ct := fun w' => trimw_any ((allB ceN f.l).headD []) w' (by omega)
  generalize (allB ceN f.l).headD [] = v at cg hlow hce ct tl
  have ce := fun (M : List Ent) (w' : World) (hw' : Holds w [] M w') => encof_any (trim v) w' (hE.holds hw')
  rw [← hce] at ce
  generalize trim v = tv at ce ct
  have hR : ∀ (c : Int) (x : Sl8) (k : Nat) (hn : x.ad = none → x.l = []) (h : match codB (ceB f.l) with
    | none => k = 3
    | some c' => match bodyR Quo.Qd c' s.l with
      | .error e => k = e ∧ e ≠ 0
      | .ok y => k = 0 ∧ c = c' ∧ x.l = y), ∃ r : RB f.l s.l, r.c = c ∧ r.x = x ∧ r.k = k := fun c x k hn h => ⟨⟨c, x, k, hn, h⟩, rfl, rfl, rfl⟩
  have hc3 := fun k => cod_three (c := ceB f.l) (k := k)
  cases hC : codB (ceB f.l) with
  | none =>
    rw [hC] at ce hR
    repeat (first | refine JL.q (by first | (apply OQ.load_agg (cs := [f.v, s.v]); exact ltA12; exact ltS12; exact rfl; exact .here; exact rfl; exact Row.all) | (apply OQ.callx (vs := [.agg #[f.v, s.v], Z ceW]); exact goes_getM; exact rfl; exact (cg _)) | (apply OQ.callx (vs := [Z v, Z [32, 9]]); exact goes_trimw; exact rfl; exact (fun w' _ => ct w')) | (apply OQ.callx (vs := [Z tv]); exact goes_encof; exact rfl; exact (ce _)) | (apply OQ.extract; exact rfl; exact rfl) | (apply OQ.not; exact rfl) | (apply OQ.move; exact rfl) | (apply OQ.assign; exact rfl)) rfl ?_ | refine JC.seq ?_ | refine JC.region ?_ | refine JL.nil ?_ | refine JE.next ?_)
    refine JC.cond rfl (fun _ => ?_) (fun h => by cases h)
    repeat (first | refine JL.q (by (apply OQ.assign; exact rfl)) rfl ?_ | refine JC.seq ?_ | refine JC.region ?_ | refine JL.nil ?_ | refine JE.next ?_)
    refine JC.ret ?_
    repeat (refine JE.then_ret ?_)
    refine JE.ret3 rfl (RV.tmp rfl) (RV.tmp rfl) (RV.tmp rfl) fun w' hw => ?_
    obtain ⟨r, h1, h2, h3⟩ := hR 0 nilS 3 (fun _ => rfl) rfl
    exact ⟨r, by rw [h1, h2, h3]; rfl, by rw [h2]; exact hw.weak (.nil _)⟩
  | some c =>
    have hc3 := hc3 c hC
    rw [hC] at ce hR
    repeat (first | refine JL.q (by first | (apply OQ.load_agg (cs := [f.v, s.v]); exact ltA12; exact ltS12; exact rfl; exact .here; exact rfl; exact Row.all) | (apply OQ.callx (vs := [.agg #[f.v, s.v], Z ceW]); exact goes_getM; exact rfl; exact (cg _)) | (apply OQ.callx (vs := [Z v, Z [32, 9]]); exact goes_trimw; exact rfl; exact (fun w' _ => ct w')) | (apply OQ.callx (vs := [Z tv]); exact goes_encof; exact rfl; exact (ce _)) | (apply OQ.extract; exact rfl; exact rfl) | (apply OQ.not; exact rfl) | (apply OQ.move; exact rfl) | (apply OQ.assign; exact rfl)) rfl ?_ | refine JC.seq ?_ | refine JC.region ?_ | refine JL.nil ?_ | refine JE.next ?_)
    refine JC.cond rfl (fun h => by cases h) (fun _ => ?_)
    rcases hc3 with rfl | rfl | rfl
    · have d1 : decide ((0 : Int) = 1) = false := rfl
      have d2 : decide ((0 : Int) = 2) = false := rfl
      have hbr : bodyR Quo.Qd 0 s.l = .ok s.l := rfl
      repeat (first | refine JL.q (by first | (apply OQ.eqB (a := 0) (b := 1); exact rfl; exact rfl; exact d1) | (apply OQ.move; exact rfl) | (apply OQ.assign; exact rfl)) rfl ?_ | refine JC.seq ?_ | refine JC.region ?_ | refine JC.block ?_ | refine JC.skip ?_ | refine JL.nil ?_ | refine JE.next ?_)
      refine JC.cond rfl (fun h => by cases h) (fun _ => ?_)
      repeat (first | refine JL.q (by first | (apply OQ.eqB (a := 0) (b := 2); exact rfl; exact rfl; exact d2) | (apply OQ.assign; exact rfl)) rfl ?_ | refine JC.seq ?_ | refine JC.region ?_ | refine JL.nil ?_ | refine JE.next ?_)
      refine JC.cond rfl (fun h => by cases h) (fun _ => ?_)
      repeat (first | refine JL.q (by first | (apply OQ.load; exact bsCF; exact rfl; exact .here; exact (Row.cell (v := s.v) rfl)) | (apply OQ.fld; exact rfl; exact rfl; exact rfl; exact (by decide); exact rfl)) rfl ?_ | refine JC.region ?_)
      refine JL.callg (ι := { q : Acc // q = none → s.l = [] }) (vs := [s.v]) (fun q => accV q.1 s.l.length) (fun q => accE 5 q.1 (s.l.map U8)) goes_clone rfl rfl (fun q => accE_wr _ _ _) (fun w' hw' => (clone_any s w' (hs.holds hw' rfl) (by omega)).mono fun e w2 ⟨q, h1, h2, h3⟩ => ⟨⟨q, h2⟩, h1, h3⟩) ?_
      rintro ⟨q, hq⟩
      dsimp only
      repeat (first | refine JL.q (by first | (apply OQ.move; exact rfl) | (apply OQ.assign; exact rfl)) rfl ?_ | refine JC.seq ?_ | refine JC.region ?_ | refine JL.nil ?_ | refine JE.next ?_ | refine JE.blk_normal ?_)
      refine JC.ret ?_
      refine JE.ret3 rfl (RV.tmp rfl) (RV.tmp rfl) (RV.tmp rfl) fun w' hw => ?_
      obtain ⟨r, h1, h2, h3⟩ := hR 0 (accS q s.l) 0 accS_none (by dsimp only; rw [hbr]; exact ⟨rfl, rfl, accS_l hq⟩)
      refine ⟨r, by rw [h1, h2, h3, accS_v]; rfl, ?_⟩
      rw [h2]
      exact (Sl.Holds.weak hw (less_pre _ _)).weak (accS_ents q s.l)
    · have d1 : decide ((1 : Int) = 1) = true := rfl
      have hbr : bodyR Quo.Qd 1 s.l = armR s.l := rfl
      repeat (first | refine JL.q (by first | (apply OQ.eqB (a := 1) (b := 1); exact rfl; exact rfl; exact d1) | (apply OQ.move; exact rfl) | (apply OQ.assign; exact rfl)) rfl ?_ | refine JC.seq ?_ | refine JC.region ?_ | refine JC.block ?_ | refine JC.skip ?_ | refine JL.nil ?_ | refine JE.next ?_)
      refine JC.cond rfl (fun _ => ?_) (fun h => by cases h)
      repeat (first | refine JL.q (by first | (apply OQ.load; exact bsCF; exact rfl; exact .here; exact (Row.cell (v := s.v) rfl)) | (apply OQ.fld; exact rfl; exact rfl; exact rfl; exact (by decide); exact rfl)) rfl ?_ | refine JC.region ?_)
      refine JL.callg (ι := { x : Sl8 // Ans x ((Arm.decB (Arm.bare s.l)).getD []) }) (vs := [s.v]) (fun x => .tuple #[x.1.v, N (ecode (Arm.decB (Arm.bare s.l)))]) (fun x => x.1.ents) goes_aread rfl rfl (fun x => x.1.ents_wr) (fun w' hw' => (aread_any s w' (hs.holds hw' rfl) hb).mono fun e w2 ⟨x, h1, h2, h3⟩ => ⟨⟨x, h2⟩, h1, h3⟩) ?_
      rintro ⟨x, hx⟩
      dsimp only
      repeat (first | refine JL.q (by first | (apply OQ.extract; exact rfl; exact rfl) | (apply OQ.move; exact rfl) | (apply OQ.assign; exact rfl)) rfl ?_ | refine JC.seq ?_ | refine JC.region ?_ | refine JL.nil ?_ | refine JE.next ?_ | refine JE.blk_normal ?_)
      refine JC.ret ?_
      refine JE.ret3 rfl (RV.tmp rfl) (RV.tmp rfl) (RV.tmp rfl) fun w' hw => ?_
      obtain ⟨r, h1, h2, h3⟩ := hR 1 x (ecode (Arm.decB (Arm.bare s.l))) hx.none (by
        dsimp only
        rw [hbr]
        unfold armR
        have hxl := hx.val
        cases hd : Arm.decB (Arm.bare s.l) with
        | none => exact ⟨rfl, by decide⟩
        | some y =>
          rw [hd] at hxl
          exact ⟨rfl, rfl, hxl⟩)
      refine ⟨r, by rw [h1, h2, h3]; rfl, ?_⟩
      rw [h2]
      exact Sl.Holds.weak hw (less_pre _ _)
    · have d1 : decide ((2 : Int) = 1) = false := rfl
      have d2 : decide ((2 : Int) = 2) = true := rfl
      have hbr : bodyR Quo.Qd 2 s.l = Quo.Qd s.l := rfl
      repeat (first | refine JL.q (by first | (apply OQ.eqB (a := 2) (b := 1); exact rfl; exact rfl; exact d1) | (apply OQ.move; exact rfl) | (apply OQ.assign; exact rfl)) rfl ?_ | refine JC.seq ?_ | refine JC.region ?_ | refine JC.block ?_ | refine JC.skip ?_ | refine JL.nil ?_ | refine JE.next ?_)
      refine JC.cond rfl (fun h => by cases h) (fun _ => ?_)
      repeat (first | refine JL.q (by first | (apply OQ.eqB (a := 2) (b := 2); exact rfl; exact rfl; exact d2) | (apply OQ.assign; exact rfl)) rfl ?_ | refine JC.seq ?_ | refine JC.region ?_ | refine JL.nil ?_ | refine JE.next ?_)
      refine JC.cond rfl (fun _ => ?_) (fun h => by cases h)
      repeat (first | refine JL.q (by first | (apply OQ.load; exact bsCF; exact rfl; exact .here; exact (Row.cell (v := s.v) rfl)) | (apply OQ.fld; exact rfl; exact rfl; exact rfl; exact (by decide); exact rfl)) rfl ?_ | refine JC.region ?_)
      refine JL.callg (ι := { x : Sl8 // Ans x (Quo.outQ (Quo.decQ s.l)) }) (vs := [s.v]) (fun x => .tuple #[x.1.v, N (Quo.codeQ (Quo.decQ s.l))]) (fun x => x.1.ents) goes_qdec rfl rfl (fun x => x.1.ents_wr) (fun w' hw' => (qdec_any s w' (hs.holds hw' rfl) (by omega)).mono fun e w2 ⟨x, h1, h2, h3⟩ => ⟨⟨x, h2⟩, h1, h3⟩) ?_
      rintro ⟨x, hx⟩
      dsimp only
      repeat (first | refine JL.q (by first | (apply OQ.extract; exact rfl; exact rfl) | (apply OQ.move; exact rfl) | (apply OQ.assign; exact rfl)) rfl ?_ | refine JC.seq ?_ | refine JC.region ?_ | refine JL.nil ?_ | refine JE.next ?_ | refine JE.blk_normal ?_)
      refine JC.ret ?_
      refine JE.ret3 rfl (RV.tmp rfl) (RV.tmp rfl) (RV.tmp rfl) fun w' hw => ?_
      obtain ⟨r, h1, h2, h3⟩ := hR 2 x (Quo.codeQ (Quo.decQ s.l)) hx.none (by
        dsimp only
        rw [hbr]
        unfold Quo.Qd
        have hxl := hx.val
        cases hd : Quo.decQ s.l with
        | none => exact ⟨rfl, by decide⟩
        | some y =>
          rw [hd] at hxl
          exact ⟨rfl, rfl, hxl⟩)
      refine ⟨r, by rw [h1, h2, h3]; rfl, ?_⟩
      rw [h2]
      exact Sl.Holds.weak hw (less_pre _ _)
end Go.Proofs.YtbbmhkdfdgnkpaaGreatDoor

/-
  Of no statement by itself: what mime's functions owe (MimeOk); over it: what despatchlaw12's speaks and MimeSplits give.
  Conditions: MimeOk, and each theorem's own.
-/
namespace Go.Proofs.YtbbmhkdfdgnkpaaGreatDoor
set_option maxRecDepth 10000
open Sl Fld Mim
def codeE {α : Type} : Except Nat α → Nat
  | .ok _ => 0
  | .error k => k
def fstE : Except Nat (List Pr × List Bt) → List Pr
  | .ok x => x.1
  | .error _ => []
def sndE : Except Nat (List Pr × List Bt) → List Bt
  | .ok x => x.2
  | .error _ => []
/-- what is looked at of a part that is written -/
def lowP : Nat → Part → Prop
  | 0, _ => True
  | d + 1, p => p.kind.length ≤ 1000 ∧ p.ps.length ≤ 10 ∧ (∀ q ∈ p.ps, q.1.length ≤ 1000 ∧ q.2.length ≤ 1000) ∧ 0 ≤ p.code ∧ p.code ≤ 2 ∧ p.body.length ≤ 4000 ∧ p.parts.length ≤ 5 ∧ ∀ q ∈ p.parts, lowP d q
structure MimeOk (Qd : List Fld.By → Except Nat (List Fld.By)) : Prop where
  bound : ∀ (s : List Bt) (w : World), s.length ≤ 1000 → Calls Tryz.prog 10 [Z s].toArray w fun e w' => e = .returned (.bool (boundB s)) ∧ Ext w w'
  split : ∀ (s : Sl8) (bd : List Bt) (w : World), s.ok w → s.l.length ≤ 100000 → bd.length ≤ 1000 → Calls Tryz.prog 8 [s.v, Z bd].toArray w fun e w' => ∃ q : { q : SlL // q.ls = (spltB s.l bd).1 }, e = .returned (.tuple #[q.1.v, N (spltB s.l bd).2]) ∧ Ext w w' ∧ q.1.ok w'
  read : ∀ (f : Sl2) (s : Sl8) (w : World), EncOk w → f.ok w → s.ok w → small2 f → f.l.length ≤ 60 → s.l.length ≤ 20000 → (∀ p ∈ f.l, sameB p.1 ctN = true ∨ sameB p.1 ceN = true → p.2.length ≤ 10000) → Calls Tryz.prog 14 [.agg #[f.v, s.v]].toArray w fun e w' => ∃ cs : { cs : List Value // cs.length = 5 }, e = .returned (.tuple #[.agg cs.1.toArray, N (codeE (readP Qd 8 f.l s.l))]) ∧ Ext w w' ∧ ∀ p, readP Qd 8 f.l s.l = .ok p → IsPart 10 w' p cs.1
structure MimeW : Prop where
  write : ∀ (Qe : List Fld.By → List Fld.By) (p : Part) (cs : List Value) (w : World), EncOk w → IsPart 10 w p cs → noQ 9 p → lowP 10 p → Calls Tryz.prog 13 [.agg cs.toArray].toArray w fun e w' => ∃ x : { x : Sl2 × Sl8 // x.1.l = fstE (writeP Qe 8 p) ∧ x.2.l = sndE (writeP Qe 8 p) }, e = .returned (.tuple #[.agg #[x.1.1.v, x.1.2.v], N (codeE (writeP Qe 8 p))]) ∧ Ext w w' ∧ (x.1.1.ok w' ∧ x.1.2.ok w')
theorem goes_msplit : Goes Tryz.prog 8 := ⟨_, Tryz.func8, rfl, by kernel_rfl⟩
theorem goes_mread : Goes Tryz.prog 14 := ⟨_, Tryz.func14, rfl, by kernel_rfl⟩
theorem goes_speaks12 : Goes Tryz.prog 7 := ⟨_, Tryz.func7, rfl, by kernel_rfl⟩
def egS : List Fld.By := [45, 45, 120, 10, 97, 10, 45, 45, 120, 45, 45]
theorem egS_is : spltB egS [120] = ([[97]], 0) := by
  rw [spltB_is egS (by decide)]
  have e1 : linB egS = [([45, 45, 120], [10]), ([97], [10]), ([45, 45, 120, 45, 45], [])] := by decide
  rw [e1]
  have e2 : (List.dropWhile (fun x : List Fld.By × List Fld.By => markB [120] x.1 != 1) [([45, 45, 120], [10]), ([97], [10]), ([45, 45, 120, 45, 45], [])]) = [([45, 45, 120], [10]), ([97], [10]), ([45, 45, 120, 45, 45], [])] := by decide
  rw [e2, splL_1 (by decide)]
  have e3 : colR [120] [([97], [10]), ([45, 45, 120, 45, 45], [])] [] [] = ([97], [([45, 45, 120, 45, 45], [])]) := by decide
  rw [e3, splL_2 (by decide)]
  rfl
theorem egR_is (Qd : List Fld.By → Except Nat (List Fld.By)) : readP Qd 8 [] [] = .ok (.mk tpN [] 0 [] []) := by
  rfl
theorem build_L0 {n : Nat} {E : Env} {C : World → Prop} {dst : Option Tmp} {ty : TypeId} {pos : String} {aft : Array Edge} {g : Option (Nat × Bool)} : OQ Tryz.prog n E C ⟨dst, .build 41 #[], ty, pos, aft, g⟩ (.agg #[nil2.v, nilS.v]) := by
  refine OQ.run fun k hk w _ => ?_
  have h3 := run_build (P := Tryz.prog) w 41 #[] #[nil2.v, nilS.v] (by kernel_rfl)
  simp [execOp, Sem.run_bind, h3]
theorem ptZ : zc Tryz.prog 36 = some [Z [], .slice none 0 0, .int .i64 0, .slice none 0 0, .slice none 0 0] := by kernel_rfl
set_option maxHeartbeats 16000000 in
theorem speaks12_any {Qd : List Fld.By → Except Nat (List Fld.By)} (hM : MimeOk Qd) (w : World) (hE : EncOk w) : Calls Tryz.prog 7 ([] : List Value).toArray w fun e w' => e = .returned (.bool true) ∧ Ext w w' := by
  refine enter (n := 39) Tryz.func7 rfl rfl rfl (Holds.start w []) ?_
  repeat (first | refine JL.q (by (apply OQ.assign; exact rfl)) rfl ?_ | refine JC.seq ?_ | refine JC.region ?_ | refine JL.nil ?_ | refine JE.next ?_)
  refine JL.litL (xs := egS.map fun c => .const (U8 c)) (vs := egS.map U8) Tryz.underlying22 u8e rfl rfl rfl rfl (fun v hv => by obtain ⟨c, _, rfl⟩ := List.mem_map.1 hv; rfl) rfl (by decide) (by decide) rfl fun b1 _ => ?_
  refine JL.mark (r := egS.map U8) (te := 5) Tryz.underlying22 Tryz.underlying5 rfl .here rfl ?_
  refine JL.callw (vs := [Sl8.v ⟨some ⟨b1, 0, none⟩, 11, egS⟩, Z [120]]) (S' := []) (ι := { q : SlL // q.ls = (spltB egS [120]).1 }) (fun q => .tuple #[q.1.v, N (spltB egS [120]).2]) (fun q w2 => q.1.ok w2) [] goes_msplit rfl rfl (fun w' hw' => hM.split ⟨some ⟨b1, 0, none⟩, 11, egS⟩ [120] w' ⟨(show egS.length ≤ 11 by decide), (by obtain ⟨o, ho, hA⟩ := hw'.get .here; exact Reads.block ho (Frz.all _ hA))⟩ (show egS.length ≤ 100000 by decide) (show 1 ≤ 1000 by decide)) (.nil _) nofun ?_
  rintro ⟨q, hq⟩ w1 hw1 okq
  dsimp only at hq okq ⊢
  have hx1 : Ext w w1 := hw1.chg
  clear hw1
  rw [egS_is] at hq ⊢
  dsimp only at hq ⊢
  obtain ⟨hr, hxe⟩ := ls_at (s := q) (xs := [[97]]) (f := id) (d := []) hq (i := 0) (by decide)
  have nq : q.rs.length = 1 := by rw [← List.length_map (f := Sl8.l)]; show q.ls.length = _; rw [hq]; rfl
  repeat (first | refine JL.q (by first | (apply OQ.extract; exact rfl; exact rfl) | (apply build_L0) | (apply OQ.move; exact rfl) | (apply OQ.assign; exact rfl)) rfl ?_ | refine JC.seq ?_ | refine JC.region ?_ | refine JL.nil ?_ | refine JE.next ?_)
  refine JL.callw (vs := [.agg #[nil2.v, nilS.v]]) (S' := []) (ι := { cs : List Value // cs.length = 5 }) (fun cs => .tuple #[.agg cs.1.toArray, N (codeE (readP Qd 8 [] []))]) (fun cs w2 => ∀ p, readP Qd 8 [] [] = .ok p → IsPart 10 w2 p cs.1) [] goes_mread rfl rfl (fun w' hw' => hM.read nil2 nilS w' ((hE.ext hx1).holds hw') (nil2_ok w') (nilS_ok w') nofun (by decide) (by decide) nofun) (.nil _) nofun ?_
  rintro ⟨cs, hcs⟩ w2 hw2 hP
  dsimp only at hP ⊢
  replace hx1 := hx1.trans hw2.chg
  replace okq : q.ok w2 := okq.holds hw2 rfl
  clear hw2
  obtain ⟨ps, body, ad, cap, subs, rfl, _⟩ := hP _ (egR_is Qd)
  rw [egR_is]
  obtain ⟨bL, jL, eL, lL, cL, hx⟩ := okq.at hr
  have vL : q.v = .slice (some ⟨bL, jL, none⟩) q.rs.length q.cap := by rw [← eL]; rfl
  have hxe' : (q.rs.getD 0 nilS).l = [97] := hxe
  have h1 : decide ((q.rs.length : Int) = ((1 : Nat) : Int)) = true := decide_eq_true (by omega)
  have h0 : decide (((0 : Nat) : Int) = ((0 : Nat) : Int)) = true := rfl
  repeat (refine JL.q (by first | (apply OQ.extract; exact rfl; exact rfl) | (apply OQ.move; exact rfl)) rfl ?_)
  refine JL.alloc ptZ rfl fun b3 _ => ?_
  refine JL.store_all (cs := [Z (Part.kind (.mk tpN [] 0 [] [])), ps.v, .int .i64 (Part.code (.mk tpN [] 0 [] [])), body.v, .slice ad (Part.parts (.mk tpN [] 0 [] [])).length cap]) ptS rfl rfl rfl rfl .here rfl ?_
  rw [vL]
  repeat (first | refine JL.q (by first | (apply OQ.eqB (a := ((0 : Nat) : Int)) (b := ((0 : Nat) : Int)); exact rfl; exact rfl; exact h0) | (apply OQ.len; exact Tryz.underlying24; exact rfl) | (apply OQ.eqB (a := (q.rs.length : Int)) (b := ((1 : Nat) : Int)); exact rfl; exact rfl; exact h1) | (apply OQ.idxS1; exact Tryz.underlying24; exact sleS; exact rfl; exact rfl; exact hr) | (apply OQ.load_old; exact bsC12; exact rfl; exact lL; exact (by simp); exact cL) | (apply OQ.b2s (s := q.rs.getD 0 nilS); exact Tryz.underlying22; exact Tryz.underlying5; exact Tryz.underlying9; exact rfl; exact (fun w' hw' => hx.holds hw' rfl)) | (apply OQ.eqS_t (l := (q.rs.getD 0 nilS).l) (r := [97]); exact rfl; exact rfl; exact hxe') | (apply OQ.load; exact strC; exact rfl; exact .here; exact (Row.cell (v := Z tpN) rfl)) | (apply OQ.eqS_t (l := tpN) (r := tpN); exact rfl; exact rfl; exact rfl) | (apply OQ.pick_t; exact rfl; exact rfl) | (apply OQ.move; exact rfl) | (apply OQ.assign; exact rfl) | (apply OQ.fld; exact rfl; exact rfl; exact rfl; exact (by decide); exact rfl)) rfl ?_ | refine JC.seq ?_ | refine JC.region ?_ | refine JL.nil ?_ | refine JE.next ?_ | refine JL.gon rfl rfl ?_)
  refine JC.ret (JE.ret1 rfl (RV.tmp rfl) ?_)
  exact fun w' hw => ⟨rfl, hx1.trans hw.chg⟩
end Go.Proofs.YtbbmhkdfdgnkpaaGreatDoor

/-
  Of no statement by itself: what the landed letter's Drop and Set give.
  Conditions: each theorem's own.
-/
namespace Go.Proofs.YtbbmhkdfdgnkpaaGreatDoor
set_option maxRecDepth 10000
open Sl Fld
end Go.Proofs.YtbbmhkdfdgnkpaaGreatDoor

/-
  Of no statement by itself: what the landed letter's Set gives; Drop's and Set's answers as new memory.
  Conditions: each theorem's own.
-/
namespace Go.Proofs.YtbbmhkdfdgnkpaaGreatDoor
set_option maxRecDepth 10000
open Sl Fld
theorem JC.perm {P : Program} {n : Nat} {w0 : World} {S : List Nat} {Q : Exit → Act → World → Prop} {c : Code} {E : Env} {M M' : List Ent} (h : JC P n w0 S Q c E M') (hp : M.Perm M') : JC P n w0 S Q c E M := ⟨fun a w ha hw => h.go a w ha (hw.perm' hp)⟩
theorem OQ.lenV {P : Program} {n : Nat} {E : Env} {C : World → Prop} {dst : Option Tmp} {t ty e : TypeId} {pos : String} {aft : Array Edge} {g : Option (Nat × Bool)} {x : Operand} {q : Acc} {k : Nat} (hu : P.underlying t = some (.slice e)) (hx : ev E x = some (accV q k)) (hq : q = none → k = 0) : OQ P n E C ⟨dst, .call ⟨.builtin .len, #[x], #[t]⟩, ty, pos, aft, g⟩ (N k) := by
  cases q with
  | none => rw [hq rfl]; exact OQ.len hu hx
  | some r => exact OQ.len hu hx
end Go.Proofs.YtbbmhkdfdgnkpaaGreatDoor

/-
  Of no statement by itself: what the landed letter's head and Write give; so letter's functions owe nothing (letterOk).
  Conditions: each theorem's own.
-/
namespace Go.Proofs.YtbbmhkdfdgnkpaaGreatDoor
set_option maxRecDepth 10000
open Sl Fld
namespace Fld
end Fld
structure HdT where
  i : Nat
  o : List Bt
  q : Acc
end Go.Proofs.YtbbmhkdfdgnkpaaGreatDoor

/-
  Of no statement by itself: what the landed letter's Write gives; so letter's functions owe nothing (letterOk).
  Conditions: each theorem's own.
-/
namespace Go.Proofs.YtbbmhkdfdgnkpaaGreatDoor
set_option maxRecDepth 10000
open Sl Fld
end Go.Proofs.YtbbmhkdfdgnkpaaGreatDoor

/-
  Of no statement by itself: what the landed mime's readParts gives, where read gives the parts of what stands one deeper.
  Conditions: each theorem's own.
-/
namespace Go.Proofs.YtbbmhkdfdgnkpaaGreatDoor
set_option maxRecDepth 10000
open Sl Fld Mim Tok
theorem goes_rparts : Goes Tryz.prog 44 := ⟨_, Tryz.func44, rfl, by kernel_rfl⟩
theorem goes_readU : Goes Tryz.prog 26 := ⟨_, Tryz.func26, rfl, by kernel_rfl⟩
def codeL {α : Type} : Except Nat α → Nat
  | .ok _ => 0
  | .error k => k
/-- parts as an answer -/
structure PL (d : Nat) (r : Except Nat (List Part)) where
  q : Acc
  subs : List (List Value)
  Ms : List (List Ent)
  hq : q = none → subs = []
  is : ∀ L, r = .ok L → subs.length = L.length ∧ Ms.length = L.length ∧ ∀ i, i < subs.length → PartE d (L.getD i default) (subs.getD i []) (Ms.getD i [])
  wr : ∀ M ∈ Ms, ∀ e ∈ M, e.wr = true
def PL.v {d : Nat} {r : Except Nat (List Part)} (z : PL d r) : Value := accV z.q z.subs.length
def PL.ents {d : Nat} {r : Except Nat (List Part)} (z : PL d r) : List Ent := accC 36 5 z.q z.subs ++ z.Ms.flatten
theorem PL.entsw {d : Nat} {r : Except Nat (List Part)} (z : PL d r) : ∀ e ∈ z.ents, e.wr = true := fun e he => by
  rcases List.mem_append.1 he with h | h
  · exact accC_wr _ _ _ _ e h
  · obtain ⟨M, hM, hm⟩ := List.mem_flatten.1 h
    exact z.wr M hM e hm
def PL.err {d e : Nat} : PL d (.error e) := ⟨none, [], [], fun _ => rfl, nofun, nofun⟩
theorem ptI12 : EI Tryz.prog 36 (.agg pz.toArray) 5 96 := by unfold EI; kernel_rfl
/-- what read gives of what stands in so many others -/
def ReadsAs (k others : Nat) : Prop := ∀ (f : Sl2) (s : Sl8) (w : World), EncOk w → f.ok w → s.ok w → small2 f → f.l.length ≤ 1000000 → s.l.length ≤ 20000 → (∀ p ∈ f.l, sameB p.1 ctN = true ∨ sameB p.1 ceN = true → p.2.length ≤ 999999) →
  Calls Tryz.prog 26 [.agg #[f.v, s.v], N others].toArray w fun e w' => ∃ x : PA (k + 1) (readP Quo.Qd k f.l s.l), e = .returned (.tuple #[.agg x.cs.toArray, N (codeE (readP Quo.Qd k f.l s.l))]) ∧ Holds w [] x.M w'
/-- the parts, their parts by the function one deeper -/
def subK : Nat → Option (List Fld.By → Except Nat Part)
  | 0 => none
  | k + 1 => some (subR (readP Quo.Qd k))
theorem readP_node (k : Nat) : readP Quo.Qd k = nodeR Quo.Qd (subK k) := by cases k <;> rfl
theorem qd_ne : ∀ (b : List Fld.By) (e : Nat), Quo.Qd b = .error e → e ≠ 0 := by
  intro b e h
  unfold Quo.Qd at h
  split at h
  · cases h; decide
  · cases h
theorem getD_app_l {α : Type} {l : List α} {x d : α} {j : Nat} (h : j < l.length) : (l ++ [x]).getD j d = l.getD j d := by
  rw [List.getD_eq_getElem?_getD, List.getD_eq_getElem?_getD, List.getElem?_append_left h]
theorem getD_app_r {α : Type} {l : List α} {x d : α} : (l ++ [x]).getD l.length d = x := by
  rw [List.getD_eq_getElem?_getD, List.getElem?_append_right (Nat.le_refl _), Nat.sub_self]
  rfl
theorem perm_comm3 (A B C : List Ent) : (A ++ (B ++ C)).Perm (B ++ (A ++ C)) := by
  rw [← List.append_assoc, ← List.append_assoc]
  exact List.Perm.append_right _ List.perm_append_comm
theorem goes_lreadM : Goes Tryz.prog 66 := ⟨_, Tryz.func66, rfl, by kernel_rfl⟩
structure RpZ where
  i : Nat
  q : Acc
  subs : List (List Value)
  Ms : List (List Ent)
set_option maxHeartbeats 64000000 in
theorem rparts_any (k others : Nat) (hko : k + others = 8) (ih : ∀ k', k = k' + 1 → ReadsAs k' (others + 1)) (s : Sl8) (bd : List Bt) (w : World) (hE : EncOk w) (hs : s.ok w) (hl : s.l.length ≤ 20000) (hb : bd.length < 9223372036854775808) : Calls Tryz.prog 44 [s.v, Z bd, N others].toArray w
    fun e w' => ∃ z : PL k (partsR (subK k) s.l bd), e = .returned (.tuple #[z.v, N (codeL (partsR (subK k) s.l bd))]) ∧ Holds w [] z.ents w' := by
  refine enter (n := 60) Tryz.func44 rfl rfl rfl (Holds.start w []) ?_
  have cb := fun w' => mbnd_any bd w' (by omega)
  cases hB : boundB bd
  · rw [hB] at cb
    have hP : partsR (subK k) s.l bd = .error 3 := by unfold partsR; rw [if_pos hB]
    rw [hP]
    repeat (first | refine JL.q (by first | (apply OQ.callx (vs := [Z bd]); exact goes_mbnd; exact rfl; exact (fun w' _ => cb w')) | (apply OQ.not; exact rfl) | (apply OQ.move; exact rfl) | (apply OQ.assign; exact rfl)) rfl ?_ | refine JC.seq ?_ | refine JC.region ?_ | refine JL.nil ?_ | refine JE.next ?_)
    refine JC.cond rfl (fun _ => ?_) (fun h => by cases h)
    repeat (first | refine JL.q (by (apply OQ.assign; exact rfl)) rfl ?_ | refine JC.seq ?_ | refine JC.region ?_ | refine JL.nil ?_ | refine JE.next ?_)
    refine JC.ret ?_
    repeat (refine JE.then_ret ?_)
    exact JE.ret2 rfl (RV.tmp rfl) (RV.tmp rfl) fun w' hw => ⟨PL.err, rfl, hw.weak (.nil _)⟩
  rw [hB] at cb
  repeat (first | refine JL.q (by first | (apply OQ.callx (vs := [Z bd]); exact goes_mbnd; exact rfl; exact (fun w' _ => cb w')) | (apply OQ.not; exact rfl) | (apply OQ.move; exact rfl) | (apply OQ.assign; exact rfl)) rfl ?_ | refine JC.seq ?_ | refine JC.region ?_ | refine JL.nil ?_ | refine JE.next ?_)
  refine JC.cond rfl (fun h => by cases h) (fun _ => ?_)
  cases k with
  | zero =>
    have hP : partsR (subK 0) s.l bd = .error 5 := by unfold partsR; rw [if_neg (by rw [hB]; decide)]; rfl
    rw [hP]
    have h8 : decide ((8 : Int) ≤ (others : Int)) = true := decide_eq_true (by omega)
    repeat (first | refine JL.q (by first | (apply OQ.geqB (a := (others : Int)) (b := 8); exact rfl; exact rfl; exact h8) | (apply OQ.move; exact rfl)) rfl ?_ | refine JC.seq ?_ | refine JC.region ?_ | refine JC.skip ?_ | refine JL.nil ?_ | refine JE.next ?_)
    refine JC.cond rfl (fun _ => ?_) (fun h => by cases h)
    repeat (first | refine JL.q (by (apply OQ.assign; exact rfl)) rfl ?_ | refine JC.seq ?_ | refine JC.region ?_ | refine JL.nil ?_ | refine JE.next ?_)
    refine JC.ret ?_
    repeat (refine JE.then_ret ?_)
    exact JE.ret2 rfl (RV.tmp rfl) (RV.tmp rfl) fun w' hw => ⟨PL.err, rfl, hw.weak (.nil _)⟩
  | succ k =>
  have ih := ih k rfl
  have h8 : decide ((8 : Int) ≤ (others : Int)) = false := decide_eq_false (by omega)
  have hP : partsR (subK (k + 1)) s.l bd = if (spltB s.l bd).2 ≠ 0 then .error (spltB s.l bd).2 else mapE (subR (readP Quo.Qd k)) (spltB s.l bd).1 := by unfold partsR; rw [if_neg (by rw [hB]; decide)]; rfl
  have hle := splt_le (b := s.l) (bd := bd)
  have h70 : bd.length ≤ 70 := by
    unfold boundB at hB
    rw [Bool.and_eq_true, Bool.and_eq_true] at hB
    exact of_decide_eq_true hB.2.2
  have cs := fun (M : List Ent) (w' : World) (hw' : Holds w [] M w') => msplit_any s bd w' (hs.holds hw' rfl) (by omega) (by omega)
  have hc0 : (spltB s.l bd).2 = 0 ∨ (spltB s.l bd).2 ≠ 0 := by omega
  have hnl : (spltB s.l bd).1.length ≤ 100000 := by
    have h0 := linR_sum s.l []
    have h1 := sum_drop (fun x => markB bd x.1 != 1) (linB s.l)
    unfold spltB
    rw [if_neg (by rw [hB]; decide)]
    cases ho : splL bd ((linB s.l).dropWhile fun x => markB bd x.1 != 1) [] with
    | none => exact Nat.zero_le _
    | some out =>
      obtain ⟨h2, _⟩ := splL_sum bd _ _ [] out (Nat.le_refl _) ho
      have : (linB s.l).length ≤ s.l.length + 1 := h0.2
      have e0 : ([] : List (List Fld.By)).length = 0 := rfl
      show out.length ≤ _
      omega
  generalize (spltB s.l bd).1 = ys at cs hle hP hnl
  generalize (spltB s.l bd).2 = kc at cs hP hc0
  rw [hP]
  clear hP hB cb
  repeat (first | refine JL.q (by first | (apply OQ.geqB (a := (others : Int)) (b := 8); exact rfl; exact rfl; exact h8) | (apply OQ.move; exact rfl)) rfl ?_ | refine JC.seq ?_ | refine JC.region ?_ | refine JC.skip ?_ | refine JL.nil ?_ | refine JE.next ?_)
  refine JC.cond rfl (fun h => by cases h) (fun _ => ?_)
  repeat (first | refine JL.q (by (apply OQ.move; exact rfl)) rfl ?_ | refine JC.seq ?_ | refine JC.region ?_ | refine JC.skip ?_ | refine JE.next ?_)
  refine JL.callg (ι := SpA ys) (vs := [s.v, Z bd]) (fun z => .tuple #[z.v, N kc]) (fun z => z.ents) goes_msplitL rfl rfl (fun z => z.wr) (cs _) ?_
  intro sp
  rcases hc0 with rfl | hk0
  rotate_left
  · have hne : decide ((kc : Int) = 0) = false := decide_eq_false (by omega)
    rw [if_pos hk0]
    repeat (first | refine JL.q (by first | (apply OQ.extract; exact rfl; exact rfl) | (apply OQ.neB (a := (kc : Int)) (b := 0); exact rfl; exact rfl; exact hne) | (apply OQ.move; exact rfl) | (apply OQ.assign; exact rfl)) rfl ?_ | refine JC.seq ?_ | refine JC.region ?_ | refine JL.nil ?_ | refine JE.next ?_)
    refine JC.cond rfl (fun _ => ?_) (fun h => by cases h)
    repeat (first | refine JL.q (by first | (apply OQ.move; exact rfl) | (apply OQ.assign; exact rfl)) rfl ?_ | refine JC.seq ?_ | refine JC.region ?_ | refine JL.nil ?_ | refine JE.next ?_)
    refine JC.ret ?_
    repeat (refine JE.then_ret ?_)
    exact JE.ret2 rfl (RV.tmp rfl) (RV.tmp rfl) fun w' hw => ⟨PL.err, rfl, hw.weak (.nil _)⟩
  rw [if_neg (by decide)]
  have h00 : decide (((0 : Nat) : Int) = 0) = true := rfl
  repeat (first | refine JL.q (by first | (apply OQ.extract; exact rfl; exact rfl) | (apply OQ.neB (a := ((0 : Nat) : Int)) (b := 0); exact rfl; exact rfl; exact h00) | (apply OQ.move; exact rfl) | (apply OQ.assign; exact rfl)) rfl ?_ | refine JC.seq ?_ | refine JC.region ?_ | refine JL.nil ?_ | refine JE.next ?_)
  refine JC.cond rfl (fun h => by cases h) (fun _ => ?_)
  have hrl : sp.rs.length = ys.length := by rw [← List.length_map (f := Sl8.l), sp.hrs]
  have hmv : (sp.rs.map Sl8.v).length = ys.length := by rw [List.length_map, hrl]
  have hspv : sp.v = accV sp.q ys.length := by unfold SpA.v; rw [hmv]
  have hq0 : sp.q = none → ys.length = 0 := fun h => by rw [← hrl, sp.hq h]; rfl
  rw [hspv]
  repeat (first | refine JL.q (by first | (apply OQ.lenV (q := sp.q) (k := ys.length); exact Tryz.underlying24; exact rfl; exact hq0) | (apply OQ.move; exact rfl) | (apply OQ.assign; exact rfl)) rfl ?_ | refine JC.seq ?_ | refine JC.region ?_ | refine JC.block ?_ | refine JC.skip ?_ | refine JL.nil ?_ | refine JE.next ?_)
  refine JC.loop (fun z : RpZ => [(2, N others), (10, accV z.q z.subs.length), (30, accV sp.q ys.length), (31, N ys.length), (32, N z.i)]) (fun z => accC 36 5 z.q z.subs ++ (z.Ms.flatten ++ (sp.ents ++ []))) (fun z => ys.length - z.i)
    (fun z => z.i ≤ ys.length ∧ (z.q = none → z.subs = []) ∧ (∀ M ∈ z.Ms, ∀ e ∈ M, e.wr = true) ∧ ∃ L, mapE (subR (readP Quo.Qd k)) (ys.take z.i) = .ok L ∧ z.i = L.length ∧ z.subs.length = L.length ∧ z.Ms.length = L.length ∧ ∀ j, j < z.subs.length → PartE (k + 1) (L.getD j default) (z.subs.getD j []) (z.Ms.getD j [])) ⟨0, none, [], []⟩
    ⟨Nat.zero_le _, fun _ => rfl, nofun, [], rfl, rfl, rfl, rfl, nofun⟩ (by repeat (first | exact SubE.nil | refine SubE.cons _ _ _ rfl ?_)) (Less.refl _) ?_
  rintro ⟨i, q, subs, Ms⟩ ⟨hi, hq, hwr, L, hL, hiL, hsl, hml, hsub⟩
  dsimp only at hi hq hwr hL hiL hsl hml hsub ⊢
  repeat (first | refine JL.q (by (apply OQ.lssN; exact rfl; exact rfl)) rfl ?_ | refine JC.seq ?_ | refine JC.region ?_ | refine JL.nil ?_ | refine JE.next ?_)
  refine JC.cond rfl (fun h => ?_) (fun h => ?_)
  · have hi' : i < ys.length := of_decide_eq_true h
    clear h
    have hne : sp.q ≠ none := fun h => by have := hq0 h; omega
    obtain ⟨⟨bq, cq⟩, hqs⟩ : ∃ p, sp.q = some p := Option.ne_none_iff_exists'.1 hne
    have hlt : i < sp.rs.length := by omega
    have hxl : (sp.rs.getD i nilS).l = ys.getD i [] := by
      have h1 : (sp.rs.map Sl8.l)[i]? = ys[i]? := by rw [sp.hrs]
      rw [List.getElem?_map, List.getElem?_eq_getElem hlt, List.getElem?_eq_getElem hi'] at h1
      rw [List.getD_eq_getElem?_getD, List.getD_eq_getElem?_getD, List.getElem?_eq_getElem hlt, List.getElem?_eq_getElem hi']
      exact Option.some.inj h1
    have hxm : sp.rs.getD i nilS ∈ sp.rs := by
      rw [List.getD_eq_getElem?_getD, List.getElem?_eq_getElem hlt]
      exact List.getElem_mem hlt
    have hent : sp.ents = ⟨bq, Sl.Own 22 1 (sp.rs.map Sl8.v).length cq (sp.rs.map Sl8.v), true⟩ :: flatE sp.rs := by
      unfold SpA.ents
      rw [hqs]
      rfl
    have hcell : ∀ o, Sl.Own 22 1 (sp.rs.map Sl8.v).length cq (sp.rs.map Sl8.v) o → cellAt o i = some (sp.rs.getD i nilS).v := fun o ho => by
      have := has_cell (Sl.Own.cells o ho) (k := i) (map_at Sl8.v nilS hlt)
      rwa [Nat.zero_add] at this
    have hOwn : Has (accC 36 5 q subs ++ (Ms.flatten ++ (sp.ents ++ []))) bq (Sl.Own 22 1 (sp.rs.map Sl8.v).length cq (sp.rs.map Sl8.v)) true := has_right _ (has_right _ (has_left (by rw [hent]; exact .here)))
    have okx : ∀ w', Holds w [] (accC 36 5 q subs ++ (Ms.flatten ++ (sp.ents ++ []))) w' → (sp.rs.getD i nilS).ok w' := fun w' hw' => by
      have h1 : Holds w [] sp.ents w' := Sl.Holds.weak hw' (less_app _ (less_app _ (less_nilL _)))
      rw [hent] at h1
      exact flat_ok (A := [_]) h1 sp.h0 _ hxm
    have hdrop := drop_at ([] : List Fld.By) hi'
    have hyl : ys.getD i [] ∈ ys := by
      rw [List.getD_eq_getElem?_getD, List.getElem?_eq_getElem hi']
      exact List.getElem_mem hi'
    have hx2 := hle _ hyl
    have htake : ys = ys.take i ++ ys.getD i [] :: ys.drop (i + 1) := by rw [← hdrop, List.take_append_drop]
    have htk : ys.take (i + 1) = ys.take i ++ [ys.getD i []] := by
      rw [List.take_add_one, List.getElem?_eq_getElem hi', List.getD_eq_getElem?_getD, List.getElem?_eq_getElem hi']
      rfl
    have cl := fun w' hw' => lread_any (sp.rs.getD i nilS) w' (okx w' hw') (by rw [hxl]; omega)
    rw [hxl] at cl
    have hv30 : accV sp.q ys.length = .slice (some ⟨bq, 0, none⟩) ys.length cq := by rw [hqs]; rfl
    generalize sp.rs.getD i nilS = x at hcell cl
    generalize ys.getD i [] = m at cl htake htk hx2
    clear okx hxm hxl hyl hdrop hqs hne hlt
    rw [hv30]
    have hRL : readL11 m = readL m := rfl
    rw [hRL] at cl
    repeat (first | refine JL.q (by first | (apply OQ.idxS0 (i := i); exact Tryz.underlying24; exact bsS12; exact rfl; exact rfl; exact hi') | (apply OQ.load; exact bsC8; exact rfl; exact hOwn; exact hcell) | (apply OQ.move; exact rfl) | (apply OQ.assign; exact rfl)) rfl ?_ | refine JC.seq ?_ | refine JC.region ?_ | refine JC.block ?_ | refine JC.skip ?_ | refine JL.nil ?_ | refine JE.next ?_)
    refine JL.callg (ι := L9 (readL m)) (vs := [x.v]) (fun y => .tuple #[.agg #[y.f.v, y.s.v], N (codeR (readL m))]) (fun y => y.s.ents ++ y.f.ents) goes_lreadM rfl rfl (fun y => y.wr) cl ?_
    intro y
    repeat (refine JL.q (by first | (apply OQ.extract; exact rfl; exact rfl) | (apply OQ.move; exact rfl)) rfl ?_)
    refine JL.alloc ltZ12 rfl fun b13 _ => ?_
    refine JL.store_all (cs := [y.f.v, y.s.v]) ltS12 rfl rfl rfl rfl .here rfl ?_
    have hcr : (∃ e, readL m = .error e) ∨ (∃ q, readL m = .ok q) := by
      cases readL m with
      | error e => exact .inl ⟨e, rfl⟩
      | ok q => exact .inr ⟨q, rfl⟩
    rcases hcr with ⟨e, hr⟩ | ⟨⟨f', b'⟩, hr⟩
    · have hk : codeR (readL m) = e := by rw [hr]; rfl
      rw [hk]
      have he := readL_ne hr
      have hM : mapE (subR (readP Quo.Qd k)) ys = .error e := by
        rw [htake]
        exact mapE_err hL (by unfold subR; rw [hr])
      have hne : decide ((e : Int) = 0) = false := decide_eq_false (by omega)
      rw [hM]
      repeat (first | refine JL.q (by first | (apply OQ.neB (a := (e : Int)) (b := 0); exact rfl; exact rfl; exact hne) | (apply OQ.move; exact rfl) | (apply OQ.assign; exact rfl)) rfl ?_ | refine JC.seq ?_ | refine JC.region ?_ | refine JL.nil ?_ | refine JE.next ?_)
      refine JC.cond rfl (fun _ => ?_) (fun h => by cases h)
      repeat (first | refine JL.q (by first | (apply OQ.move; exact rfl) | (apply OQ.assign; exact rfl)) rfl ?_ | refine JC.seq ?_ | refine JC.region ?_ | refine JL.nil ?_ | refine JE.next ?_)
      refine JC.ret ?_
      repeat (first | refine JE.then_ret ?_ | refine JE.blk_ret ?_)
      exact JE.ret2 rfl (RV.tmp rfl) (RV.tmp rfl) fun w' hw => ⟨PL.err, rfl, hw.weak (.nil _)⟩
    · have hk : codeR (readL m) = 0 := by rw [hr]; rfl
      rw [hk]
      obtain ⟨lb, lf, lp⟩ := readL_low hr
      have hyf : y.f.l = f' := by rw [y.hf, hr]; rfl
      have hys : y.s.l = b' := by rw [y.hs, hr]; rfl
      have h00 : decide (((0 : Nat) : Int) = 0) = true := rfl
      repeat (first | refine JL.q (by first | (apply OQ.neB (a := ((0 : Nat) : Int)) (b := 0); exact rfl; exact rfl; exact h00) | (apply OQ.move; exact rfl) | (apply OQ.assign; exact rfl)) rfl ?_ | refine JC.seq ?_ | refine JC.region ?_ | refine JL.nil ?_ | refine JE.next ?_)
      refine JC.cond rfl (fun h => by cases h) (fun _ => ?_)
      have hsm : small2 y.f := fun p hp => by
        rw [hyf] at hp
        have := lp p hp
        omega
      have cr : ∀ w', Holds w [] (⟨b13, Row 41 [y.f.v, y.s.v], true⟩ :: ((y.s.ents ++ y.f.ents) ++ (accC 36 5 q subs ++ (Ms.flatten ++ (sp.ents ++ []))))) w' → Calls Tryz.prog 26 [.agg #[y.f.v, y.s.v], N (others + 1)].toArray w' fun e w2 => ∃ x : PA (k + 1) (readP Quo.Qd k f' b'), e = .returned (.tuple #[.agg x.cs.toArray, N (codeE (readP Quo.Qd k f' b'))]) ∧ Holds w' [] x.M w2 := fun w' hw' => by
        have h1 : Holds w [] (y.s.ents ++ (y.f.ents ++ (accC 36 5 q subs ++ (Ms.flatten ++ (sp.ents ++ []))))) w' := by
          rw [← List.append_assoc]
          exact Sl.Holds.weak hw' (.drop _ _ _ (Less.refl _))
        have oks : y.s.ok w' := Sl8.ents_ok h1 y.ns
        have okf : y.f.ok w' := Sl2.ents_ok (Sl.Holds.weak h1 (less_app _ (Less.refl _))) y.nf
        have := ih y.f y.s w' (hE.holds hw') okf oks hsm (by rw [hyf]; omega) (by rw [hys]; omega) (fun p hp _ => by rw [hyf] at hp; have := lp p hp; omega)
        rw [hyf, hys] at this
        exact this
      repeat (first | refine JL.q (by first | (apply OQ.load_agg (cs := [y.f.v, y.s.v]); exact ltA12; exact ltS12; exact rfl; exact .here; exact rfl; exact Row.all) | (apply OQ.move; exact rfl) | (apply OQ.addN; exact rfl; exact rfl; exact (by (try simp only []); omega))) rfl ?_ | refine JC.seq ?_ | refine JC.region ?_ | refine JC.skip ?_ | refine JE.next ?_)
      refine JL.callg (ι := PA (k + 1) (readP Quo.Qd k f' b')) (vs := [.agg #[y.f.v, y.s.v], N (others + 1)]) (fun x => .tuple #[.agg x.cs.toArray, N (codeE (readP Quo.Qd k f' b'))]) (fun x => x.M) goes_readU rfl rfl (fun x => x.wr) cr ?_
      intro x2
      refine JL.less (M' := x2.M ++ (accC 36 5 q subs ++ (Ms.flatten ++ (sp.ents ++ [])))) (less_app2 (.drop _ _ _ (less_app _ (Less.refl _))) _) ?_
      repeat (refine JL.q (by first | (apply OQ.extract; exact rfl; exact rfl) | (apply OQ.move; exact rfl)) rfl ?_)
      refine JL.alloc (r := pz) ?_ ?_ fun b15 _ => ?_
      exact ptZ9
      rfl
      refine JL.store_all (cs := x2.cs) ptS rfl rfl x2.len x2.one .here rfl ?_
      have hcp : (∃ e, readP Quo.Qd k f' b' = .error e) ∨ (∃ p, readP Quo.Qd k f' b' = .ok p) := by
        cases readP Quo.Qd k f' b' with
        | error e => exact .inl ⟨e, rfl⟩
        | ok q => exact .inr ⟨q, rfl⟩
      rcases hcp with ⟨e, hp⟩ | ⟨p, hp⟩
      · have hk2 : codeE (readP Quo.Qd k f' b') = e := by rw [hp]; rfl
        rw [hk2]
        have he := readP_ne qd_ne k f' b' e hp
        have hM : mapE (subR (readP Quo.Qd k)) ys = .error e := by
          rw [htake]
          exact mapE_err hL (by unfold subR; rw [hr]; exact hp)
        have hne : decide ((e : Int) = 0) = false := decide_eq_false (by omega)
        rw [hM]
        repeat (first | refine JL.q (by first | (apply OQ.neB (a := (e : Int)) (b := 0); exact rfl; exact rfl; exact hne) | (apply OQ.move; exact rfl) | (apply OQ.assign; exact rfl)) rfl ?_ | refine JC.seq ?_ | refine JC.region ?_ | refine JL.nil ?_ | refine JE.next ?_)
        refine JC.cond rfl (fun _ => ?_) (fun h => by cases h)
        repeat (first | refine JL.q (by first | (apply OQ.move; exact rfl) | (apply OQ.assign; exact rfl)) rfl ?_ | refine JC.seq ?_ | refine JC.region ?_ | refine JL.nil ?_ | refine JE.next ?_)
        refine JC.ret ?_
        repeat (first | refine JE.then_ret ?_ | refine JE.blk_ret ?_)
        exact JE.ret2 rfl (RV.tmp rfl) (RV.tmp rfl) fun w' hw => ⟨PL.err, rfl, hw.weak (.nil _)⟩
      · have hk2 : codeE (readP Quo.Qd k f' b') = 0 := by rw [hp]; rfl
        rw [hk2]
        have hPE := x2.is p hp
        repeat (first | refine JL.q (by first | (apply OQ.neB (a := ((0 : Nat) : Int)) (b := 0); exact rfl; exact rfl; exact h00) | (apply OQ.move; exact rfl) | (apply OQ.assign; exact rfl)) rfl ?_ | refine JC.seq ?_ | refine JC.region ?_ | refine JL.nil ?_ | refine JE.next ?_)
        refine JC.cond rfl (fun h => by cases h) (fun _ => ?_)
        repeat (first | refine JL.q (by first | (apply OQ.load_agg (cs := x2.cs); exact ptA9; exact ptS; exact rfl; exact .here; exact x2.len; exact Row.all) | (apply OQ.move; exact rfl)) rfl ?_ | refine JC.region ?_ | refine JC.skip ?_ | refine JE.next ?_)
        refine JL.litA (cs := x2.cs) Tryz.underlying34 ptI12 rfl (by decide) (by decide) rfl x2.len rfl fun bl _ => ?_
        refine JL.less (M' := ⟨bl, Row 36 x2.cs, true⟩ :: (x2.M ++ (accC 36 5 q subs ++ (Ms.flatten ++ (sp.ents ++ []))))) (.keep _ _ _ _ _ _ (fun _ h => h) (.drop _ _ _ (Less.refl _))) ?_
        refine JL.perm (M' := ⟨bl, Row 36 x2.cs, true⟩ :: (accC 36 5 q subs ++ (x2.M ++ (Ms.flatten ++ (sp.ents ++ []))))) ?_ (List.Perm.cons _ (perm_comm3 _ _ _))
        refine JL.appendC (c := x2.cs) (L := subs) q Tryz.underlying34 ptI12 hq rfl rfl x2.len (fun v hv => List.all_eq_true.1 x2.one v hv) rfl (by decide) (by omega) (by omega) rfl fun b' cap' => ?_
        rw [← hv30]
        repeat (first | refine JL.q (by first | (apply OQ.move; exact rfl) | (apply OQ.assign; exact rfl) | (apply OQ.addN; exact rfl; exact rfl; exact (by (try simp only []); omega))) rfl ?_ | refine JC.region ?_ | refine JL.nil ?_ | refine JE.next ?_ | refine JE.blk_normal ?_)
        refine JE.perm (M' := accC 36 5 (some (b', cap')) (subs ++ [x2.cs]) ++ ((Ms ++ [x2.M]).flatten ++ (sp.ents ++ []))) (List.Perm.append_left _ ?_) ?_
        · rw [List.flatten_append, List.append_assoc]
          show (x2.M ++ _).Perm (Ms.flatten ++ ((x2.M ++ []) ++ _))
          rw [List.append_nil x2.M]
          exact perm_comm3 _ _ _
        refine JE.again (i := RpZ.mk i q subs Ms) (RpZ.mk (i + 1) (some (b', cap')) (subs ++ [x2.cs]) (Ms ++ [x2.M])) ⟨hi', nofun, fun M hM => ?_, L ++ [p], ?_, ?_, ?_, ?_, fun j hj => ?_⟩ (by show ys.length - (i + 1) < ys.length - i; omega) (by repeat (first | exact SubE.nil | refine SubE.cons _ _ _ rfl ?_)) (Less.refl _)
        · rcases List.mem_append.1 hM with h | h
          · exact hwr M h
          · rw [List.mem_singleton.1 h]; exact x2.wr
        · show mapE _ (ys.take (i + 1)) = _
          rw [htk]
          exact mapE_snoc hL (by unfold subR; rw [hr]; exact hp)
        · show i + 1 = _
          rw [List.length_append, List.length_singleton]; omega
        · show (subs ++ [x2.cs]).length = _
          rw [List.length_append, List.length_append, hsl]; rfl
        · show (Ms ++ [x2.M]).length = _
          rw [List.length_append, List.length_append, hml]; rfl
        · have hj : j < (subs ++ [x2.cs]).length := hj
          rw [List.length_append, List.length_singleton] at hj
          show PartE (k + 1) ((L ++ [p]).getD j default) ((subs ++ [x2.cs]).getD j []) ((Ms ++ [x2.M]).getD j [])
          by_cases e : j < subs.length
          · rw [getD_app_l (by omega), getD_app_l e, getD_app_l (by omega)]
            exact hsub j e
          · obtain rfl : j = subs.length := by omega
            rw [getD_app_r]
            rw [show (L ++ [p]).getD subs.length default = p by rw [hsl]; exact getD_app_r, show (Ms ++ [x2.M]).getD subs.length [] = x2.M by rw [hsl, ← hml]; exact getD_app_r]
            exact hPE
  · have hi' : ¬ i < ys.length := of_decide_eq_false h
    obtain rfl : i = ys.length := by omega
    rw [List.take_length] at hL
    rw [hL]
    repeat (first | refine JL.q (by first | (apply OQ.move; exact rfl) | (apply OQ.assign; exact rfl)) rfl ?_ | refine JC.seq ?_ | refine JC.region ?_ | refine JC.exit ?_ | refine JL.nil ?_ | refine JE.next ?_ | refine JE.then_exit ?_ | refine JE.blk_hit ?_)
    refine JC.ret ?_
    exact JE.ret2 rfl (RV.tmp rfl) (RV.tmp rfl) fun w' hw => ⟨⟨q, subs, Ms, hq, fun L' h => by cases h; exact ⟨hsl, hml, hsub⟩, hwr⟩, rfl, hw.weak (less_app2 (less_pre _ _) _)⟩
end Go.Proofs.YtbbmhkdfdgnkpaaGreatDoor

/-
  Of no statement by itself: how long a parameter's value may be.
  Conditions: none but each lemma's own.
-/
namespace Go.Proofs.YtbbmhkdfdgnkpaaGreatDoor
namespace Mim
open Fld Tok
theorem sem_low : ∀ (n : Nat) (r : List By) (q : Bool) (x : List By), r.length ≤ n → ∀ y ∈ semR r q x, y.length ≤ r.length + x.length := by
  intro n
  induction n with
  | zero =>
    intro r q x hr y hy
    obtain rfl : r = [] := List.eq_nil_of_length_eq_zero (by omega)
    rw [semV_e] at hy
    rw [List.mem_singleton.1 hy]
    omega
  | succ n ih =>
    intro r q x hr y hy
    cases r with
    | nil =>
      rw [semV_e] at hy
      rw [List.mem_singleton.1 hy]
      omega
    | cons c r =>
      simp only [List.length_cons] at hr
      by_cases h : q = true ∧ c = 92
      · obtain ⟨rfl, rfl⟩ := h
        cases r with
        | nil =>
          rw [semV_92e] at hy
          rw [List.mem_singleton.1 hy]
          simp
          omega
        | cons c2 r =>
          rw [semV_92] at hy
          have := ih r true _ (by simp only [List.length_cons] at hr; omega) y hy
          simp only [List.length_append, List.length_cons, List.length_nil] at this ⊢
          omega
      · rw [semV_cons c r q x h] at hy
        split at hy
        · have := ih r _ _ (by omega) y hy
          simp only [List.length_append, List.length_cons, List.length_nil] at this ⊢
          omega
        · split at hy
          · rcases List.mem_cons.1 hy with rfl | hy
            · simp only [List.length_cons]; omega
            · have := ih r _ _ (by omega) y hy
              simp only [List.length_nil, List.length_cons] at this ⊢
              omega
          · have := ih r _ _ (by omega) y hy
            simp only [List.length_append, List.length_cons, List.length_nil] at this ⊢
            omega
theorem unq_low : ∀ (n : Nat) (r o : List By), r.length ≤ n → (unqR r o).1.length ≤ r.length + o.length := by
  intro n
  induction n with
  | zero =>
    intro r o h
    obtain rfl : r = [] := List.eq_nil_of_length_eq_zero (by omega)
    rw [unqR.eq_def]
    simp
  | succ n ih =>
    intro r o h
    cases r with
    | nil => rw [unqR.eq_def]; simp
    | cons c r =>
      simp only [List.length_cons] at h
      rw [unqR.eq_def]
      dsimp only
      split
      · simp only [List.length_cons]; omega
      · split
        · cases r with
          | nil => simp only [List.length_cons]; omega
          | cons c2 r =>
            have := ih r (o ++ [c2]) (by simp only [List.length_cons] at h; omega)
            simp only [List.length_append, List.length_cons, List.length_nil] at this ⊢
            omega
        · have := ih r (o ++ [c]) (by omega)
          simp only [List.length_append, List.length_cons, List.length_nil] at this ⊢
          omega
theorem part_low {s : List By} {p : PrB} (h : partB s = some p) : p.2.length ≤ s.length := by
  have h1 := trim_len (s.drop (fst 61 s + 1))
  rw [List.length_drop] at h1
  unfold partB at h
  split at h
  · cases h
  · split at h
    · cases h
    · split at h
      · cases h
        show (trim _).length ≤ _
        omega
      · split at h
        · cases h
        · split at h
          · cases h
            have := unq_low _ (trim (s.drop (fst 61 s + 1))).tail [] (Nat.le_refl _)
            rw [List.length_tail] at this
            simp only [List.length_nil] at this
            show (unqR _ _).1.length ≤ _
            omega
          · cases h
theorem mapM_low {l : List (List By)} {r : List PrB} (h : l.mapM partB = some r) : r.length = l.length ∧ ∀ p ∈ r, ∃ s ∈ l, partB s = some p := by
  induction l generalizing r with
  | nil => cases h; exact ⟨rfl, nofun⟩
  | cons s l ih =>
    rw [List.mapM_cons] at h
    cases e1 : partB s with
    | none => rw [e1] at h; cases h
    | some p =>
      rw [e1] at h
      cases e2 : l.mapM partB with
      | none => rw [e2] at h; cases h
      | some r' =>
        rw [e2] at h
        cases h
        obtain ⟨h1, h2⟩ := ih e2
        refine ⟨by simp [h1], fun q hq => ?_⟩
        rcases List.mem_cons.1 hq with rfl | hq
        · exact ⟨s, by simp, e1⟩
        · obtain ⟨t, ht, e⟩ := h2 q hq
          exact ⟨t, by simp [ht], e⟩
theorem params_low (v : List By) : (paramsB v).2.1.length ≤ v.length + 1 ∧ ∀ p ∈ (paramsB v).2.1, p.2.length ≤ v.length := by
  have hb := bareB_len v
  unfold paramsB
  split
  · unfold paramsT
    split
    · exact ⟨Nat.zero_le _, nofun⟩
    · have h1 := semV_len _ (bareB v).1 false [] (Nat.le_refl _)
      have h2 := sem_low _ (bareB v).1 false [] (Nat.le_refl _)
      split
      · exact ⟨Nat.zero_le _, nofun⟩
      · next l hl =>
        obtain ⟨k1, k2⟩ := mapM_low hl
        have e : (semB (bareB v).1).length ≤ (bareB v).1.length + 1 := h1
        rw [List.length_tail] at k1
        refine ⟨by show l.length ≤ _; omega, fun p hp => ?_⟩
        obtain ⟨s, hs, e⟩ := k2 p hp
        have := part_low e
        have := h2 s (List.mem_of_mem_tail hs)
        simp only [List.length_nil] at this
        omega
  · exact ⟨Nat.zero_le _, nofun⟩
theorem par_low {l : List PrB} {m : Nat} (h : ∀ p ∈ l, p.2.length ≤ m) (n : List By) : (parB l n).length ≤ m := by
  unfold parB
  cases e : l.find? fun p => decide (p.1 = n) with
  | none => exact Nat.zero_le _
  | some p => exact h p (List.mem_of_find?_eq_some e)
theorem typ_low {f : List PrB} {m : Nat} (h : ∀ p ∈ f, sameB p.1 ctN = true → p.2.length ≤ m) : (typB f).2.1.length ≤ m + 1 ∧ (parB (typB f).2.1 bdN).length ≤ m := by
  have hA : ∀ v ∈ allB ctN f, v.length ≤ m := fun v hv => by
    unfold allB at hv
    obtain ⟨p, hp, rfl⟩ := List.mem_map.1 hv
    obtain ⟨h1, h2⟩ := List.mem_filter.1 hp
    exact h p h1 h2
  unfold typB
  cases e : allB ctN f with
  | nil => exact ⟨Nat.zero_le _, Nat.zero_le _⟩
  | cons v l =>
    have hv := hA v (by rw [e]; exact List.mem_cons_self)
    obtain ⟨h1, h2⟩ := params_low v
    exact ⟨by show (paramsB v).2.1.length ≤ _; omega, par_low (fun p hp => Nat.le_trans (h2 p hp) hv) bdN⟩
end Mim
end Go.Proofs.YtbbmhkdfdgnkpaaGreatDoor

/-
  Of no statement by itself: what the landed mime's read and Read give.
  Conditions: each theorem's own.
-/
namespace Go.Proofs.YtbbmhkdfdgnkpaaGreatDoor
set_option maxRecDepth 10000
open Sl Fld Mim Tok
theorem ptS1 : szT Tryz.prog 34 = some 1 := by kernel_rfl
def badE : List Ent := [⟨0, fun _ => False, true⟩]
theorem PartE.bad {d : Nat} {p : Part} : PartE d p pz badE where
  len := rfl
  one := rfl
  wr := fun e he => by rw [List.mem_singleton.1 he]
  is := fun w0 S w' hw => by
    obtain ⟨o, _, hA⟩ := hw.get (b := 0) (A := fun _ => False) (wr := true) .here
    exact hA.elim
instance {d : Nat} {r : Except Nat (List Part)} : Inhabited (PL d r) := ⟨⟨some (0, 0), (match r with | .ok L => L | .error _ => []).map fun _ => pz, (match r with | .ok L => L | .error _ => []).map fun _ => badE, nofun, fun L h => by
  subst h
  refine ⟨by simp, by simp, fun i hi => ?_⟩
  have hi : i < L.length := by simpa using hi
  have e1 : (L.map fun _ => pz).getD i [] = pz := by rw [List.getD_eq_getElem?_getD, List.getElem?_map, List.getElem?_eq_getElem hi]; rfl
  have e2 : (L.map fun _ => badE).getD i [] = badE := by rw [List.getD_eq_getElem?_getD, List.getElem?_map, List.getElem?_eq_getElem hi]; rfl
  show PartE d _ ((L.map fun _ => pz).getD i []) ((L.map fun _ => badE).getD i [])
  rw [e1, e2]
  exact PartE.bad, fun M hM e he => by
  obtain ⟨_, _, rfl⟩ := List.mem_map.1 hM
  rw [List.mem_singleton.1 he]⟩⟩
set_option maxHeartbeats 64000000 in
theorem read_step (k others : Nat) (hko : k + others = 8) (ih : ∀ k', k = k' + 1 → ReadsAs k' (others + 1)) : ReadsAs k others := by
  intro f s w hE hf hs hz hl hb hv
  have hvt : ∀ p ∈ f.l, sameB p.1 ctN = true → p.2.length ≤ 999999 := fun p hp h => hv p hp (.inl h)
  have hve : ∀ p ∈ f.l, sameB p.1 ceN = true → p.2.length ≤ 999999 := fun p hp h => hv p hp (.inr h)
  obtain ⟨tl1, tl2⟩ := typ_low hvt
  have hne := fun e => readP_ne qd_ne k f.l s.l e
  rw [readP_node, nodeR_is] at hne
  rw [readP_node, nodeR_is]
  have cb := fun (M : List Ent) (w' : World) (hw' : Holds w [] M w') => begun_any f s w' (hf.holds hw' rfl) hz hl hvt
  have cy := fun (M : List Ent) (w' : World) (hw' : Holds w [] M w') => rbody_any f s w' (hE.holds hw') (hf.holds hw' rfl) (hs.holds hw' rfl) hz hl hb hve
  refine enter (n := 42) Tryz.func26 rfl rfl rfl (Holds.start w []) ?_
  refine JC.seq (JC.region (JL.box (r := [f.v, s.v]) rfl rfl rfl fun b2 _ => ?_))
  refine JL.alloc (r := pz) ?_ ?_ fun b4 _ => ?_
  exact ptZ9
  rfl
  repeat (first | refine JL.q (by first | (apply OQ.load_agg (cs := [f.v, s.v]); exact ltA12; exact ltS12; exact rfl; exact (.there .here); exact rfl; exact Row.all) | (apply OQ.assign; exact rfl)) rfl ?_ | refine JC.seq ?_ | refine JC.region ?_ | refine JL.nil ?_ | refine JE.next ?_)
  refine JL.callg (ι := G2 (typB f.l).2.1) (vs := [.agg #[f.v, s.v]]) (fun y => .tuple #[.agg ([Z (typB f.l).1, y.z.v, .int .i64 0, nilS.v, .slice none 0 0] : List Value).toArray, N (typB f.l).2.2]) (fun y => y.z.ents) goes_begun rfl rfl (fun y => y.z.ents_wr) (cb _) ?_
  intro y
  have hyl := y.h
  have hyn : y.z.l.length < 9223372036854775807 := by rw [hyl]; omega
  generalize typB f.l = T at *
  refine JL.perm (M' := [⟨b4, Row 36 pz, true⟩, ⟨b2, Row 41 [f.v, s.v], true⟩] ++ y.z.ents) ?_ List.perm_append_comm
  repeat (refine JL.q (by first | (apply OQ.extract; exact rfl; exact rfl) | (apply OQ.move; exact rfl)) rfl ?_)
  refine JL.alloc (r := pz) ?_ ?_ fun b6 _ => ?_
  exact ptZ9
  rfl
  refine JL.store_all (cs := [Z T.1, y.z.v, .int .i64 0, nilS.v, .slice none 0 0]) ptS rfl rfl rfl rfl .here rfl ?_
  by_cases hk : T.2.2 ≠ 0
  · rw [if_pos hk]
    have h0 : decide ((T.2.2 : Int) = 0) = false := decide_eq_false (by omega)
    repeat (first | refine JL.q (by first | (apply OQ.neB (a := (T.2.2 : Int)) (b := 0); exact rfl; exact rfl; exact h0) | (apply OQ.move; exact rfl) | (apply OQ.assign; exact rfl)) rfl ?_ | refine JC.seq ?_ | refine JC.region ?_ | refine JL.nil ?_ | refine JE.next ?_)
    refine JC.cond rfl (fun _ => ?_) (fun h => by cases h)
    refine JC.seq (JC.region (JL.q OQ.build_P0 rfl ?_))
    refine JL.q (OQ.move rfl) rfl ?_
    refine JL.store_all (cs := pz) ptS rfl rfl rfl rfl (.there .here) rfl ?_
    repeat (first | refine JL.q (by (apply OQ.assign; exact rfl)) rfl ?_ | refine JL.nil ?_ | refine JE.next ?_)
    refine JC.ret ?_
    repeat (refine JE.then_ret ?_)
    exact JE.ret2 rfl (RV.cell_agg ptA9 ptS rfl (.there .here) rfl Row.all) (RV.tmp rfl) fun w' hw => ⟨PA.err, rfl, hw.weak (.nil _)⟩
  have hk0 : T.2.2 = 0 := by omega
  have h0 : decide ((T.2.2 : Int) = 0) = true := decide_eq_true (by omega)
  rw [if_neg hk] at hne ⊢
  have ch := fun w' => hasp_any T.1 y.z.v (.int .i64 0) nilS.v (.slice none 0 0) rfl w'
  repeat (first | refine JL.q (by first | (apply OQ.neB (a := (T.2.2 : Int)) (b := 0); exact rfl; exact rfl; exact h0) | (apply OQ.move; exact rfl) | (apply OQ.assign; exact rfl)) rfl ?_ | refine JC.seq ?_ | refine JC.region ?_ | refine JL.nil ?_ | refine JE.next ?_)
  refine JC.cond rfl (fun h => by cases h) (fun _ => ?_)
  cases hm : multiB T.1
  · rw [hm] at ch
    rw [hm, if_neg (by decide)] at hne
    rw [if_neg (by decide)]
    repeat (first | refine JL.q (by first | (apply OQ.load_agg (cs := [Z T.1, y.z.v, .int .i64 0, nilS.v, .slice none 0 0]); exact ptA9; exact ptS; exact rfl; exact .here; exact rfl; exact Row.all) | (apply OQ.callx (vs := [.agg #[Z T.1, y.z.v, .int .i64 0, nilS.v, .slice none 0 0]]); exact goes_hasp; exact rfl; exact (fun w' _ => ch w'))) rfl ?_ | refine JC.seq ?_ | refine JC.region ?_ | refine JC.skip ?_ | refine JL.nil ?_ | refine JE.next ?_)
    refine JC.cond rfl (fun h => by cases h) (fun _ => ?_)
    repeat (first | refine JL.q (by (apply OQ.load_agg (cs := [f.v, s.v]); exact ltA12; exact ltS12; exact rfl; exact (.there (.there .here)); exact rfl; exact Row.all)) rfl ?_ | refine JC.region ?_)
    refine JL.callg (ι := RB f.l s.l) (vs := [.agg #[f.v, s.v]]) (fun r => .tuple #[.int .i64 r.c, r.x.v, N r.k]) (fun r => r.x.ents) goes_rbody rfl rfl (fun r => r.x.ents_wr) (cy _) ?_
    intro r
    refine JL.perm (M' := [⟨b6, Row 36 [Z T.1, y.z.v, .int .i64 0, nilS.v, .slice none 0 0], true⟩, ⟨b4, Row 36 pz, true⟩, ⟨b2, Row 41 [f.v, s.v], true⟩] ++ (r.x.ents ++ y.z.ents)) ?_ (perm_comm3 _ [_, _, _] _)
    repeat (refine JL.q (by first | (apply OQ.extract; exact rfl; exact rfl) | (apply OQ.move; exact rfl) | (apply OQ.fld; exact rfl; exact rfl; exact rfl; exact (by decide); exact rfl)) rfl ?_)
    refine JL.store_eq (v := .int .i64 r.c) (r' := [Z T.1, y.z.v, .int .i64 r.c, nilS.v, .slice none 0 0]) inS12 rfl rfl rfl rfl .here (by simp) rfl ?_
    repeat (refine JL.q (by (apply OQ.fld; exact rfl; exact rfl; exact rfl; exact (by decide); exact rfl)) rfl ?_)
    refine JL.store_eq (v := r.x.v) (r' := [Z T.1, y.z.v, .int .i64 r.c, r.x.v, .slice none 0 0]) bsS12 rfl rfl rfl rfl .here (by simp) rfl ?_
    have hri := r.is
    by_cases hrk : r.k = 0
    · obtain ⟨c', hcc, yb, hyb, hc1, hx1⟩ : ∃ c', codB (ceB f.l) = some c' ∧ ∃ yb, bodyR Quo.Qd c' s.l = .ok yb ∧ r.c = c' ∧ r.x.l = yb := by
        cases hC : codB (ceB f.l) with
        | none => rw [hC] at hri; have : r.k = 3 := hri; omega
        | some c' =>
          rw [hC] at hri
          dsimp only at hri
          cases hb2 : bodyR Quo.Qd c' s.l with
          | error e => rw [hb2] at hri; exact absurd (hri.1 ▸ hrk) hri.2
          | ok yb => rw [hb2] at hri; exact ⟨c', rfl, yb, hb2, hri.2.1, hri.2.2⟩
      have hsp : leafO Quo.Qd (codB (ceB f.l)) s.l T.1 T.2.1 = .ok (.mk T.1 T.2.1 c' yb []) := by
        unfold leafO
        rw [hcc]
        dsimp only
        rw [hyb]
      rw [hsp]
      have hk0' : decide ((r.k : Int) = 0) = true := decide_eq_true (by omega)
      repeat (first | refine JL.q (by first | (apply OQ.neB (a := (r.k : Int)) (b := 0); exact rfl; exact rfl; exact hk0') | (apply OQ.move; exact rfl) | (apply OQ.assign; exact rfl)) rfl ?_ | refine JC.seq ?_ | refine JC.region ?_ | refine JL.nil ?_ | refine JE.next ?_)
      refine JC.cond rfl (fun h => by cases h) (fun _ => ?_)
      repeat (first | refine JL.q (by (apply OQ.load_agg (cs := [Z T.1, y.z.v, .int .i64 r.c, r.x.v, .slice none 0 0]); exact ptA9; exact ptS; exact rfl; exact .here; exact rfl; exact Row.all)) rfl ?_ | refine JC.seq ?_ | refine JC.region ?_ | refine JC.skip ?_ | refine JE.next ?_)
      refine JL.store_all (cs := [Z T.1, y.z.v, .int .i64 r.c, r.x.v, .slice none 0 0]) ptS rfl rfl rfl rfl (.there .here) rfl ?_
      repeat (first | refine JL.q (by (apply OQ.assign; exact rfl)) rfl ?_ | refine JL.nil ?_ | refine JE.next ?_)
      refine JC.ret ?_
      refine JE.ret2 rfl (RV.cell_agg ptA9 ptS rfl (.there .here) rfl Row.all) (RV.tmp rfl) fun w' hw => ?_
      have hPE := partE_leaf (k := T.1) (ps := y.z) (c := r.c) (x := r.x) y.n r.nn
      rw [hyl, hc1, hx1] at hPE
      refine ⟨⟨[Z T.1, y.z.v, .int .i64 c', r.x.v, .slice none 0 0], r.x.ents ++ y.z.ents, rfl, rfl, hPE.wr, fun p hp => by cases hp; exact ⟨rfl, rfl, hPE.wr, fun w0 S w' hw' => (hPE.is w0 S w' hw').mono (by omega)⟩⟩, by rw [hc1]; rfl, hw.weak (.drop _ _ _ (.drop _ _ _ (.drop _ _ _ (Less.refl _))))⟩
    · have hsp : leafO Quo.Qd (codB (ceB f.l)) s.l T.1 T.2.1 = .error r.k := by
        unfold leafO
        cases hC : codB (ceB f.l) with
        | none => rw [hC] at hri; have : r.k = 3 := hri; rw [this]
        | some c' =>
          rw [hC] at hri
          dsimp only at hri ⊢
          cases hb2 : bodyR Quo.Qd c' s.l with
          | error e => rw [hb2] at hri; rw [hri.1]
          | ok yb => rw [hb2] at hri; exact absurd hri.1 hrk
      rw [hsp]
      have hk0' : decide ((r.k : Int) = 0) = false := decide_eq_false (by omega)
      repeat (first | refine JL.q (by first | (apply OQ.neB (a := (r.k : Int)) (b := 0); exact rfl; exact rfl; exact hk0') | (apply OQ.move; exact rfl) | (apply OQ.assign; exact rfl)) rfl ?_ | refine JC.seq ?_ | refine JC.region ?_ | refine JL.nil ?_ | refine JE.next ?_)
      refine JC.cond rfl (fun _ => ?_) (fun h => by cases h)
      refine JC.seq (JC.region (JL.q OQ.build_P0 rfl ?_))
      refine JL.q (OQ.move rfl) rfl ?_
      refine JL.store_all (cs := pz) ptS rfl rfl rfl rfl (.there .here) rfl ?_
      repeat (first | refine JL.q (by (apply OQ.assign; exact rfl)) rfl ?_ | refine JL.nil ?_ | refine JE.next ?_)
      refine JC.ret ?_
      repeat (refine JE.then_ret ?_)
      exact JE.ret2 rfl (RV.cell_agg ptA9 ptS rfl (.there .here) rfl Row.all) (RV.tmp rfl) fun w' hw => ⟨PA.err, rfl, hw.weak (.nil _)⟩
  · rw [hm] at ch
    rw [hm, if_pos rfl] at hne
    rw [if_pos rfl]
    repeat (first | refine JL.q (by first | (apply OQ.load_agg (cs := [Z T.1, y.z.v, .int .i64 0, nilS.v, .slice none 0 0]); exact ptA9; exact ptS; exact rfl; exact .here; exact rfl; exact Row.all) | (apply OQ.callx (vs := [.agg #[Z T.1, y.z.v, .int .i64 0, nilS.v, .slice none 0 0]]); exact goes_hasp; exact rfl; exact (fun w' _ => ch w'))) rfl ?_ | refine JC.seq ?_ | refine JC.region ?_ | refine JC.skip ?_ | refine JL.nil ?_ | refine JE.next ?_)
    refine JC.cond rfl (fun _ => ?_) (fun h => by cases h)
    have cp := fun (M : List Ent) (w' : World) (hw' : Holds w [] M w') => rparts_any k others hko ih s (parB T.2.1 bdN) w' (hE.holds hw') (hs.holds hw' rfl) hb (by omega)
    have co := fun (w' : World) (hw' : y.z.ok w') => bof_any T.1 y.z (.int .i64 0) nilS.v (.slice none 0 0) w' hw' hyn
    rw [hyl] at co
    refine JC.perm (M' := ⟨b2, Row 41 [f.v, s.v], true⟩ :: (⟨b6, Row 36 [Z T.1, y.z.v, .int .i64 0, nilS.v, .slice none 0 0], true⟩ :: ⟨b4, Row 36 pz, true⟩ :: y.z.ents)) ?_ (List.perm_middle (l₁ := [_, _]))
    let vs : Nat → PL k (partsR (subK k) s.l (parB T.2.1 bdN)) → Value := fun j z => match j with
      | 0 => Pt b2 1
      | 1 => s.v
      | 2 => .agg ([Z T.1, y.z.v, .int .i64 0, nilS.v, .slice none 0 0] : List Value).toArray
      | 3 => Z (parB T.2.1 bdN)
      | 4 => N others
      | 5 => .tuple #[z.v, N (codeL (partsR (subK k) s.l (parB T.2.1 bdN)))]
      | 6 => .tuple #[z.v, N (codeL (partsR (subK k) s.l (parB T.2.1 bdN)))]
      | 7 => z.v
      | 8 => N (codeL (partsR (subK k) s.l (parB T.2.1 bdN)))
      | 9 => Pt b6 4
      | _ => N (codeL (partsR (subK k) s.l (parB T.2.1 bdN)))
    let Ms : Nat → PL k (partsR (subK k) s.l (parB T.2.1 bdN)) → List Ent := fun j z => match j with
      | 5 => z.ents
      | 10 => [⟨b6, Row 36 [Z T.1, y.z.v, .int .i64 0, nilS.v, z.v], true⟩]
      | 12 => [⟨b2, Row 41 [f.v, s.v], true⟩]
      | 13 => [⟨b6, Row 36 [Z T.1, y.z.v, .int .i64 0, nilS.v, .slice none 0 0], true⟩]
      | 14 => ⟨b4, Row 36 pz, true⟩ :: y.z.ents
      | _ => []
    refine JC.growR (g := ⟨[(2, Pt b2 0), (4, Pt b4 0), (6, Pt b6 0), (1, N others)], 15, vs, Ms, (fun j => match j with | 1 => [(0, 20)] | 3 => [(2, 22)] | 5 => [(1, 21), (3, 23), (4, 24)] | 6 => [(5, 25)] | 7 => [(6, 19)] | 8 => [(6, 19)] | 10 => [(9, 28), (7, 26)] | 11 => [(8, 27)] | _ => []), (fun j => match j with | 1 => [12] | 2 => [13] | 3 => [14] | 10 => [13] | _ => []), (fun j => match j with | 10 => [13] | _ => []), (fun j => match j with | 6 => some 5 | 7 => some 6 | 10 => some 7 | _ => none), fun _ => [], fun _ a b => a = b⟩) [(11, 7)] [10, 14, 12, 5] mixMi (by repeat (first | exact SubE.nil | refine SubE.cons _ _ _ rfl ?_)) (fun _ _ => .nil) (less_eq (by show _ :: _ :: ((_ :: y.z.ents) ++ []) = _; rw [List.append_nil])) (by kernel_rfl) (by kernel_rfl) (by kernel_rfl) ?_ ?_
    · refine ⟨?_, ?_, ?_, ?_, ?_, ?_, ?_, ?_, ?_, ?_, ?_, ?_, trivial⟩
      · (intro x EF MF Q kk; exact JL.q (OQ.fldx (o := 1) rfl rfl rfl (by decide) rfl rfl) rfl (JL.nil (kk default nofun)))
      · (intro x EF MF Q kk; exact JL.q (OQ.load bsCF rfl .here (Row.cell (v := s.v) rfl)) rfl (JL.nil (kk default nofun)))
      · (intro x EF MF Q kk; exact JL.q (OQ.load_agg (cs := [Z T.1, y.z.v, .int .i64 0, nilS.v, .slice none 0 0]) ptA9 ptS rfl .here rfl Row.all) rfl (JL.nil (kk default nofun)))
      · (intro x EF MF Q kk; exact JL.q (OQ.callx (vs := [.agg #[Z T.1, y.z.v, .int .i64 0, nilS.v, .slice none 0 0]]) goes_bof rfl (fun w' hw' => co w' (Sl2.ents_ok (M := [] ++ MF) (by
          have h1 : Holds w [] (((⟨b4, Row 36 pz, true⟩ :: y.z.ents) ++ []) ++ MF) w' := hw'
          rw [List.append_assoc] at h1
          exact Sl.Holds.weak h1 (.drop _ _ _ (Less.refl _))) y.n))) rfl (JL.nil (kk default nofun)))
      · (intro x EF MF Q kk; exact JL.q (OQ.move rfl) rfl (JL.nil (kk default nofun)))
      · (intro x EF MF Q kk; exact JL.callg (ι := PL k (partsR (subK k) s.l (parB T.2.1 bdN))) (vs := [s.v, Z (parB T.2.1 bdN), N others]) (fun z => .tuple #[z.v, N (codeL (partsR (subK k) s.l (parB T.2.1 bdN)))]) (fun z => z.ents) goes_rparts rfl rfl (fun z => z.entsw) (cp _) fun z => JL.nil (kk z nofun))
      · (intro x EF MF Q kk; exact JL.q (OQ.move rfl) rfl (JL.nil (kk (x 5) (fun k h => by cases h; rfl))))
      · (intro x EF MF Q kk; exact JL.q (OQ.extract rfl rfl) rfl (JL.nil (kk (x 6) (fun k h => by cases h; rfl))))
      · (intro x EF MF Q kk; exact JL.q (OQ.extract rfl rfl) rfl (JL.nil (kk default nofun)))
      · (intro x EF MF Q kk; exact JL.q (OQ.fldx (o := 4) rfl rfl rfl (by decide) rfl rfl) rfl (JL.nil (kk default nofun)))
      · (intro x EF MF Q kk; exact JL.store_eq (v := (x 7).v) (r' := [Z T.1, y.z.v, .int .i64 0, nilS.v, (x 7).v]) ptS1 rfl rfl (accV_one _ _) (accV_cells _ _) .here (by simp) rfl (JL.nil (kk (x 7) (fun k h => by cases h; rfl))))
      · (intro x EF MF Q kk; exact JL.q (OQ.assign rfl) rfl (JL.nil (kk default nofun)))
    intro x hx
    have z6 : x 6 = x 5 := hx 6 5 (by decide) rfl
    have z7 : x 7 = x 6 := hx 7 6 (by decide) rfl
    have z10 : x 10 = x 7 := hx 10 7 (by decide) rfl
    have hz10 : x 10 = x 5 := z10.trans (z7.trans z6)
    show JE _ _ _ _ _ [(7, N (codeL (partsR (subK k) s.l (parB T.2.1 bdN)))), (2, Pt b2 0), (4, Pt b4 0), (6, Pt b6 0), (1, N others)] ([⟨b6, Row 36 [Z T.1, y.z.v, .int .i64 0, nilS.v, (x 10).v], true⟩] ++ ((⟨b4, Row 36 pz, true⟩ :: y.z.ents) ++ ([⟨b2, Row 41 [f.v, s.v], true⟩] ++ ((x 5).ents ++ []))))
    rw [hz10]
    clear hz10 z10 z7 z6 hx
    generalize x 5 = z
    clear x vs Ms cp co
    refine JE.perm (M' := ⟨b6, Row 36 [Z T.1, y.z.v, .int .i64 0, nilS.v, z.v], true⟩ :: ⟨b4, Row 36 pz, true⟩ :: ⟨b2, Row 41 [f.v, s.v], true⟩ :: (y.z.ents ++ (z.ents ++ []))) (.cons _ (.cons _ List.perm_middle)) ?_
    refine JE.next ?_
    have hcp : (∃ e, partsR (subK k) s.l (parB T.2.1 bdN) = .error e) ∨ (∃ L, partsR (subK k) s.l (parB T.2.1 bdN) = .ok L) := by
      cases partsR (subK k) s.l (parB T.2.1 bdN) with
      | error e => exact .inl ⟨e, rfl⟩
      | ok L => exact .inr ⟨L, rfl⟩
    rcases hcp with ⟨e, hp⟩ | ⟨L, hp⟩
    · have hcl : codeL (partsR (subK k) s.l (parB T.2.1 bdN)) = e := by rw [hp]; rfl
      rw [hcl]
      rw [hp] at hne
      have he := hne e rfl
      have hsp : multO (partsR (subK k) s.l (parB T.2.1 bdN)) T.1 T.2.1 = .error e := by rw [hp]; rfl
      rw [hsp]
      have hk0' : decide ((e : Int) = 0) = false := decide_eq_false (by omega)
      repeat (first | refine JL.q (by first | (apply OQ.neB (a := (e : Int)) (b := 0); exact rfl; exact rfl; exact hk0') | (apply OQ.move; exact rfl)) rfl ?_ | refine JC.seq ?_ | refine JC.region ?_ | refine JL.nil ?_ | refine JE.next ?_)
      refine JC.cond rfl (fun _ => ?_) (fun h => by cases h)
      refine JC.seq (JC.region (JL.q OQ.build_P0 rfl ?_))
      refine JL.q (OQ.move rfl) rfl ?_
      refine JL.store_all (cs := pz) ptS rfl rfl rfl rfl (.there .here) rfl ?_
      repeat (first | refine JL.q (by (apply OQ.assign; exact rfl)) rfl ?_ | refine JL.nil ?_ | refine JE.next ?_)
      refine JC.ret ?_
      repeat (refine JE.then_ret ?_)
      exact JE.ret2 rfl (RV.cell_agg ptA9 ptS rfl (.there .here) rfl Row.all) (RV.tmp rfl) fun w' hw => ⟨PA.err, rfl, hw.weak (.nil _)⟩
    · have hcl : codeL (partsR (subK k) s.l (parB T.2.1 bdN)) = 0 := by rw [hp]; rfl
      rw [hcl]
      obtain ⟨i1, i2, i3⟩ := z.is L hp
      have hzv : z.v = accV z.q L.length := by unfold PL.v; rw [i1]
      have hsp : multO (partsR (subK k) s.l (parB T.2.1 bdN)) T.1 T.2.1 = .ok (.mk T.1 T.2.1 0 [] L) := by rw [hp]; rfl
      rw [hsp]
      have h00 : decide (((0 : Nat) : Int) = 0) = true := rfl
      rw [hzv]
      repeat (first | refine JL.q (by first | (apply OQ.neB (a := ((0 : Nat) : Int)) (b := 0); exact rfl; exact rfl; exact h00) | (apply OQ.move; exact rfl)) rfl ?_ | refine JC.seq ?_ | refine JC.region ?_ | refine JL.nil ?_ | refine JE.next ?_)
      refine JC.cond rfl (fun h => by cases h) (fun _ => ?_)
      repeat (first | refine JL.q (by (apply OQ.load_agg (cs := [Z T.1, y.z.v, .int .i64 0, nilS.v, accV z.q L.length]); exact ptA9; exact ptS; exact rfl; exact .here; exact rfl; exact Row.all)) rfl ?_ | refine JC.seq ?_ | refine JC.region ?_ | refine JC.skip ?_ | refine JE.next ?_)
      have hPE := partE_node (d := k) (k := T.1) (ps := y.z) (L := L) (subs := z.subs) (Ms := z.Ms) (q := z.q) y.n z.hq i1 i2 i3
      rw [hyl] at hPE
      refine JL.store_all (cs := [Z T.1, y.z.v, .int .i64 0, nilS.v, accV z.q L.length]) ptS rfl rfl rfl hPE.one (.there .here) rfl ?_
      repeat (first | refine JL.q (by (apply OQ.assign; exact rfl)) rfl ?_ | refine JL.nil ?_ | refine JE.next ?_)
      refine JC.ret ?_
      refine JE.ret2 rfl (RV.cell_agg ptA9 ptS rfl (.there .here) rfl Row.all) (RV.tmp rfl) fun w' hw => ?_
      refine ⟨⟨[Z T.1, y.z.v, .int .i64 0, nilS.v, accV z.q L.length], accC 36 5 z.q z.subs ++ (y.z.ents ++ z.Ms.flatten), rfl, hPE.one, hPE.wr, fun p hp => by cases hp; exact hPE⟩, rfl, ?_⟩
      have h1 : Holds w [] (y.z.ents ++ (z.ents ++ [])) w' := hw.weak (.drop _ _ _ (.drop _ _ _ (.drop _ _ _ (Less.refl _))))
      rw [List.append_nil] at h1
      exact h1.perm (perm_comm3 _ _ _)
theorem mread_any : ∀ (k others : Nat), k + others = 8 → ReadsAs k others := by
  intro k
  induction k with
  | zero => exact fun others h => read_step 0 others h nofun
  | succ k ih => exact fun others h => read_step (k + 1) others h fun k' e => by cases e; exact ih (others + 1) (by omega)
set_option maxHeartbeats 8000000 in
theorem mreadT_any (f : Sl2) (s : Sl8) (w : World) (hE : EncOk w) (hf : f.ok w) (hs : s.ok w) (hz : small2 f) (hl : f.l.length ≤ 1000000) (hb : s.l.length ≤ 20000) (hv : ∀ p ∈ f.l, sameB p.1 ctN = true ∨ sameB p.1 ceN = true → p.2.length ≤ 999999) : Calls Tryz.prog 14 [.agg #[f.v, s.v]].toArray w
    fun e w' => ∃ x : PA 9 (readP Quo.Qd 8 f.l s.l), e = .returned (.tuple #[.agg x.cs.toArray, N (codeE (readP Quo.Qd 8 f.l s.l))]) ∧ Holds w [] x.M w' := by
  refine enter (n := 8) Tryz.func14 rfl rfl rfl (Holds.start w []) ?_
  refine JC.seq (JC.region (JL.box (r := [f.v, s.v]) rfl rfl rfl fun b1 _ => ?_))
  refine JL.alloc (r := pz) ?_ ?_ fun b2 _ => ?_
  exact ptZ9
  rfl
  repeat (first | refine JL.q (by first | (apply OQ.load_agg (cs := [f.v, s.v]); exact ltA12; exact ltS12; exact rfl; exact (.there .here); exact rfl; exact Row.all) | (apply OQ.assign; exact rfl)) rfl ?_ | refine JC.seq ?_ | refine JC.region ?_ | refine JL.nil ?_ | refine JE.next ?_)
  refine JL.callg (ι := PA 9 (readP Quo.Qd 8 f.l s.l)) (vs := [.agg #[f.v, s.v], N 0]) (fun x => .tuple #[.agg x.cs.toArray, N (codeE (readP Quo.Qd 8 f.l s.l))]) (fun x => x.M) goes_readU rfl rfl (fun x => x.wr) (fun w' hw' => mread_any 8 0 rfl f s w' (hE.holds hw') (hf.holds hw' rfl) (hs.holds hw' rfl) hz hl hb hv) ?_
  intro x
  refine JL.perm (M' := [⟨b2, Row 36 pz, true⟩, ⟨b1, Row 41 [f.v, s.v], true⟩] ++ x.M) ?_ List.perm_append_comm
  repeat (refine JL.q (by (apply OQ.extract; exact rfl; exact rfl)) rfl ?_)
  refine JL.store_all (cs := x.cs) ptS rfl rfl x.len x.one .here rfl ?_
  repeat (first | refine JL.q (by (apply OQ.assign; exact rfl)) rfl ?_ | refine JL.nil ?_ | refine JE.next ?_)
  refine JC.ret ?_
  exact JE.ret2 rfl (RV.cell_agg ptA9 ptS rfl .here x.len Row.all) (RV.tmp rfl) fun w' hw => ⟨x, rfl, hw.weak (.drop _ _ _ (.drop _ _ _ (Less.refl _)))⟩
end Go.Proofs.YtbbmhkdfdgnkpaaGreatDoor

/-
  Of no statement by itself: what mime's Boundary, Split and Read owe is paid (mimeOk).
  Conditions: each theorem's own.
-/
namespace Go.Proofs.YtbbmhkdfdgnkpaaGreatDoor
open Sl Fld Mim
theorem mimeOk : MimeOk Quo.Qd where
  bound := fun s w h => mbnd_any s w (by omega)
  split := fun s bd w hs hl hb => (msplit_any s bd w hs (by omega) hb).mono fun e w' ⟨z, h1, h2⟩ =>
    ⟨⟨accL z.q z.rs, by show (accL z.q z.rs).rs.map Sl8.l = _; rw [accL_rs z.hq, z.hrs]⟩, by rw [h1, accL_v]; rfl, h2.chg, accL_ok h2 z.h0⟩
  read := fun f s w hE hf hs hz hl hl2 hv => (mreadT_any f s w hE hf hs hz (by omega) hl2 (fun p hp h => by have := hv p hp h; omega)).mono fun e w' ⟨x, h1, h2⟩ =>
    ⟨⟨x.cs, x.len⟩, h1, h2.chg, fun p hp => ((x.is p hp).is _ _ _ h2).mono (by omega)⟩
end Go.Proofs.YtbbmhkdfdgnkpaaGreatDoor

/-
  Of no statement by itself: what MimeSplits gives, over MimeOk.
  Conditions: MimeOk, and each theorem's own.
-/
namespace Go.Proofs.YtbbmhkdfdgnkpaaGreatDoor
set_option maxRecDepth 10000
open Sl Fld Mim
end Go.Proofs.YtbbmhkdfdgnkpaaGreatDoor
