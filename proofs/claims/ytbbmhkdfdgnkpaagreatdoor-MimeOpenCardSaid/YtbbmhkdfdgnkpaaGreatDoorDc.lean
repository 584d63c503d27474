/-
  Of no statement by itself: the texts TokS, TokW, MimW, MimX, Slwb, MimY, MibD, MimT, LetS, TokF, TokG, TokH, TokJ, TokK, ArmS, MimP, TokX, TokB, TokA, TokI, TokP, TokR, Same, MimQ, FibA, FieR, Sle, FieX, FieG, MibE, MibQ, RfC, LetW, RfD, MimG, TokV, QuoS, RfE, FibB in one.
  Conditions: each theorem's own.
-/
import Derived.Test.YtbbmhkdfdgnkpaaGreatDoorDb
import Derived.Laws.Tables
set_option linter.unusedSimpArgs false
set_option linter.unusedVariables false
/-
  Of no statement by itself: atoms, values without comments, addresses, ids, parameters: pure; no program stands here.
  Conditions: none but each lemma's own.
-/
namespace Go.Proofs.YtbbmhkdfdgnkpaaGreatDoor
namespace Tok
open Fld
def inB (c : By) (s : List By) : Bool := s.any fun d => d == c
def spec : List By := [40, 41, 60, 62, 64, 44, 59, 58, 92, 34, 47, 91, 93, 63, 61, 46]
def plainB (c : By) : Bool := decide (33 ≤ c.toNat) && decide (c.toNat ≤ 126) && !inB c spec
def looseB (c : By) : Bool := plainB c || inB c [46, 47, 58, 63]
def atomB (s : List By) : Bool := s.all plainB && decide (0 < s.length)
def simpleB (s : List By) : Bool := s.all looseB && decide (0 < s.length)
/-! ### values without comments -/
/-- from a place on: how deep, inside of a quoted text or not, what is told so far -/
def bareR : List By → Nat → Bool → List By → List By × Nat
  | [], d, q, o => if 0 < d ∨ q = true then ([], 3) else (o, 0)
  | c :: r, d, q, o =>
    if c = 92 ∧ (0 < d ∨ q = true) then
      match r with
      | [] => ([], 3)
      | c2 :: r' => bareR r' d q (if q then o ++ [c, c2] else o)
    else if q then bareR r d (!(c == 34)) (o ++ [c])
    else if c = 40 then (if 9 < d + 1 then ([], 5) else bareR r (d + 1) q o)
    else if c = 41 then (if d = 0 then ([], 3) else bareR r (d - 1) q (if d - 1 = 0 then o ++ [32] else o))
    else if d = 0 then bareR r d (c == 34) (o ++ [c])
    else bareR r d q o
def bareB (s : List By) : List By × Nat := bareR s 0 false []
/-! ### addresses -/
/-- where a byte stands first, or the end -/
def fst (c : By) (s : List By) : Nat := (s.takeWhile fun d => !(d == c)).length
/-! ### ids -/
/-! ### parameters -/
def kindB (s : List By) : Bool := decide (fst 47 s < s.length) && (atomB (s.take (fst 47 s)) && atomB (s.drop (fst 47 s + 1)))
/-- a quoted text's bytes behind its first ", and what stands from its end on -/
def unqR : List By → List By → List By × List By
  | [], o => (o, [])
  | c :: r, o => if c = 34 then (o, c :: r) else if c = 92 then (match r with | [] => (o, []) | c2 :: r' => unqR r' (o ++ [c2])) else unqR r (o ++ [c])
def partB (s : List By) : Option (List By × List By) :=
  if fst 61 s = s.length then none
  else if atomB (trim (s.take (fst 61 s))) = false then none
  else if simpleB (trim (s.drop (fst 61 s + 1))) then some ((trim (s.take (fst 61 s))).map small, trim (s.drop (fst 61 s + 1)))
  else if (trim (s.drop (fst 61 s + 1))).length < 2 ∨ ¬ (trim (s.drop (fst 61 s + 1))).getD 0 0 = 34 then none
  else if (unqR (trim (s.drop (fst 61 s + 1))).tail []).2 = [34] ∧ (unqR (trim (s.drop (fst 61 s + 1))).tail []).1.all sok = true then
    some ((trim (s.take (fst 61 s))).map small, (unqR (trim (s.drop (fst 61 s + 1))).tail []).1)
  else none
/-- the parts between ; outside of quoted texts: those told so far, the one begun -/
def semR : List By → Bool → List By → List (List By)
  | [], _, x => [x]
  | c :: r, q, x =>
    if q = true ∧ c = 92 then
      match r with
      | [] => [x ++ [c]]
      | c2 :: r' => semR r' q (x ++ [c, c2])
    else if c = 34 then semR r (!q) (x ++ [c])
    else if c = 59 ∧ q = false then x :: semR r q []
    else semR r q (x ++ [c])
def semB (s : List By) : List (List By) := semR s false []
def paramsT (s : List By) : List By × List (List By × List By) × Nat :=
  if kindB (trim ((semB s).headD [])) = false then ([], [], 3)
  else match (semB s).tail.mapM partB with
    | none => ([], [], 3)
    | some l => ((trim ((semB s).headD [])).map small, l, 0)
def paramsB (s : List By) : List By × List (List By × List By) × Nat := if (bareB s).2 = 0 then paramsT (bareB s).1 else ([], [], (bareB s).2)
def rightP (k : List By) (l : List (List By × List By)) : Bool :=
  l.all (fun p => atomB p.1 && decide (p.1.map small = p.1) && p.2.all sok) && kindB k && decide (k.map small = k)
def esc (s : List By) : List By := s.flatMap fun c => if c = 34 ∨ c = 92 then [92, c] else [c]
def parW (p : List By × List By) : List By := [59, 32] ++ p.1 ++ [61] ++ (if simpleB p.2 then p.2 else [34] ++ esc p.2 ++ [34])
def writeB (k : List By) (l : List (List By × List By)) : List By := k ++ l.flatMap parW
/-! ### from byte to byte -/
theorem bare_cons (c : Fld.By) (r : List Fld.By) (d : Nat) (q : Bool) (o : List Fld.By) (h : ¬ (c = 92 ∧ (0 < d ∨ q = true))) : bareR (c :: r) d q o = if q then bareR r d (!(c == 34)) (o ++ [c])
    else if c = 40 then (if 9 < d + 1 then ([], 5) else bareR r (d + 1) q o)
    else if c = 41 then (if d = 0 then ([], 3) else bareR r (d - 1) q (if d - 1 = 0 then o ++ [32] else o))
    else if d = 0 then bareR r d (c == 34) (o ++ [c])
    else bareR r d q o := by
  conv => lhs; rw [bareR.eq_def]
  dsimp only
  rw [if_neg h]
theorem bare_q92 (c2 : Fld.By) (r : List Fld.By) (d : Nat) (o : List Fld.By) : bareR (92 :: c2 :: r) d true o = bareR r d true (o ++ [92] ++ [c2]) := by simp [bareR]
theorem bare_q92e (d : Nat) (o : List Fld.By) : bareR [92] d true o = ([], 3) := by simp [bareR]
theorem bare_q {c : Fld.By} (h : ¬ c = 92) (r : List Fld.By) (d : Nat) (o : List Fld.By) : bareR (c :: r) d true o = bareR r d (!(c == 34)) (o ++ [c]) := by rw [bare_cons _ _ _ _ _ (fun k => h k.1), if_pos rfl]
theorem bare_d92 {d : Nat} (h : 0 < d) (c2 : Fld.By) (r : List Fld.By) (o : List Fld.By) : bareR (92 :: c2 :: r) d false o = bareR r d false o := by simp [bareR, h]
theorem bare_d92e {d : Nat} (h : 0 < d) (o : List Fld.By) : bareR [92] d false o = ([], 3) := by simp [bareR, h]
theorem bare_40 (r : List Fld.By) (d : Nat) (o : List Fld.By) : bareR (40 :: r) d false o = if 9 < d + 1 then ([], 5) else bareR r (d + 1) false o := by
  rw [bare_cons _ _ _ _ _ (by rintro ⟨h, _⟩; revert h; decide), if_neg (by decide), if_pos rfl]
theorem bare_41 (r : List Fld.By) (d : Nat) (o : List Fld.By) : bareR (41 :: r) d false o = if d = 0 then ([], 3) else bareR r (d - 1) false (if d - 1 = 0 then o ++ [32] else o) := by
  rw [bare_cons _ _ _ _ _ (by rintro ⟨h, _⟩; revert h; decide), if_neg (by decide), if_neg (by decide), if_pos rfl]
theorem bare_0 {c : Fld.By} (h1 : ¬ c = 40) (h2 : ¬ c = 41) (r : List Fld.By) (o : List Fld.By) : bareR (c :: r) 0 false o = bareR r 0 (c == 34) (o ++ [c]) := by
  rw [bare_cons _ _ _ _ _ (by rintro ⟨_, h | h⟩; exact absurd h (by decide); cases h), if_neg (by decide), if_neg h1, if_neg h2, if_pos rfl]
theorem bare_s {c : Fld.By} {d : Nat} (h0 : ¬ c = 92) (h1 : ¬ c = 40) (h2 : ¬ c = 41) (hd : ¬ d = 0) (r : List Fld.By) (o : List Fld.By) : bareR (c :: r) d false o = bareR r d false o := by
  rw [bare_cons _ _ _ _ _ (fun k => h0 k.1), if_neg (by decide), if_neg h1, if_neg h2, if_neg hd]
theorem bare_end (d : Nat) (q : Bool) (o : List Fld.By) : bareR [] d q o = if (decide ((0 : Int) < (d : Int)) || q) = true then ([], 3) else (o, 0) := by
  rw [bareR]
  congr 1
  rw [Bool.or_eq_true, decide_eq_true_eq]
  exact propext (or_congr (by omega) Iff.rfl)
theorem bare_len : ∀ (n : Nat) (r : List Fld.By) (d : Nat) (q : Bool) (o : List Fld.By), r.length ≤ n → (bareR r d q o).1.length ≤ o.length + r.length := by
  intro n
  induction n with
  | zero =>
    intro r d q o h
    obtain rfl : r = [] := List.eq_nil_of_length_eq_zero (by omega)
    rw [bare_end]
    split <;> simp
  | succ n ih =>
    intro r d q o h
    match r, h with
    | [], _ => rw [bare_end]; split <;> simp
    | c :: r, h =>
      simp only [List.length_cons] at h ⊢
      by_cases h9 : c = 92 ∧ (0 < d ∨ q = true)
      · obtain ⟨rfl, hq⟩ := h9
        match r, h with
        | [], _ =>
          cases q
          · rw [bare_d92e (by simpa using hq)]; simp
          · rw [bare_q92e]; simp
        | c2 :: r, h =>
          simp only [List.length_cons] at h ⊢
          cases q
          · rw [bare_d92 (by simpa using hq)]
            have := ih r d false o (by omega)
            omega
          · rw [bare_q92]
            have := ih r d true (o ++ [92] ++ [c2]) (by omega)
            simp only [List.length_append, List.length_cons, List.length_nil] at this
            omega
      · rw [bare_cons c r d q o h9]
        have h0 := ih r d (!(c == 34)) (o ++ [c]) (by omega)
        have h1 := ih r (d + 1) q o (by omega)
        have h2 := ih r (d - 1) q (if d - 1 = 0 then o ++ [32] else o) (by omega)
        have h3 := ih r d (c == 34) (o ++ [c]) (by omega)
        have h4 := ih r d q o (by omega)
        have h5 : (if d - 1 = 0 then o ++ [32] else o).length ≤ o.length + 1 := by split <;> simp
        simp only [List.length_append, List.length_cons, List.length_nil] at h0 h3
        generalize (if d - 1 = 0 then o ++ [32] else o) = o2 at h2 h5 ⊢
        split
        · omega
        split
        · split
          · simp
          · omega
        split
        · split
          · simp
          · omega
        split
        · omega
        · omega
theorem bareB_len (s : List Fld.By) : (bareB s).1.length ≤ s.length := by
  have := bare_len s.length s 0 false [] (Nat.le_refl _)
  simp only [List.length_nil, Nat.zero_add] at this
  exact this
theorem unq_34 (r o : List Fld.By) : unqR (34 :: r) o = (o, 34 :: r) := by rw [unqR.eq_def]; rfl
theorem unq_92e (o : List Fld.By) : unqR [92] o = (o, []) := by rw [unqR.eq_def]; rfl
theorem unq_92 (c2 : Fld.By) (r o : List Fld.By) : unqR (92 :: c2 :: r) o = unqR r (o ++ [c2]) := by
  conv => lhs; rw [unqR.eq_def]
  rfl
theorem unq_c {c : Fld.By} (h1 : ¬ c = 34) (h2 : ¬ c = 92) (r o : List Fld.By) : unqR (c :: r) o = unqR r (o ++ [c]) := by
  conv => lhs; rw [unqR.eq_def]
  dsimp only
  rw [if_neg h1, if_neg h2]
theorem unq_e (o : List Fld.By) : unqR [] o = (o, []) := rfl
end Tok
end Go.Proofs.YtbbmhkdfdgnkpaaGreatDoor

/-
  Of no statement by itself: what the reference's in, Plain, Loose, Atom, Simple, Value and Lower (layer 10) give.
  Conditions: each theorem's own.
-/
namespace Go.Proofs.YtbbmhkdfdgnkpaaGreatDoor
set_option maxRecDepth 10000
open Sl Fld Tok
theorem idxAt10 {s : List Fld.By} {i : Nat} (h : i < s.length) {n : Nat} {E : Env} {C : World → Prop} {dst : Option Tmp} {ty : TypeId} {pos : String} {aft : Array Edge} {g : Option (Nat × Bool)} {x y : Operand} (hx : ev E x = some (Z s)) (hy : ev E y = some (N i)) : OQ Tryz.prog n E C ⟨dst, .index 9 x y, ty, pos, aft, g⟩ (U8 (s.getD i 0)) := OQ.idxZ Tryz.underlying9 hx hy h
end Go.Proofs.YtbbmhkdfdgnkpaaGreatDoor

/-
  Of no statement by itself: what the reference's Boundary and mark (layer 12) give.
  Conditions: each theorem's own.
-/
namespace Go.Proofs.YtbbmhkdfdgnkpaaGreatDoor
set_option maxRecDepth 10000
open Sl Fld Tok Mim
theorem goes_rbound : Goes Tryz.prog 11 := ⟨_, Tryz.func11, rfl, by kernel_rfl⟩
theorem OQ.eq8M {P : Program} {n : Nat} {E : Env} {C : World → Prop} {dst : Option Tmp} {t t' ty : TypeId} {pos : String} {aft : Array Edge} {g : Option (Nat × Bool)} {x y : Operand} {a b : BitVec 8} {c : Bool} (hx : ev E x = some (U8 a)) (hy : ev E y = some (U8 b)) (h : decide (a = b) = c) : OQ P n E C ⟨dst, .binOp .eql t x y t', ty, pos, aft, g⟩ (.bool c) := h ▸ OQ.eq8 hx hy
def bodA (c : Fld.By) : Bool := ((decide ((48 : Int) ≤ (c.toNat : Int)) && decide ((c.toNat : Int) ≤ 57)) || (decide ((65 : Int) ≤ (c.toNat : Int)) && decide ((c.toNat : Int) ≤ 90))) || (decide ((97 : Int) ≤ (c.toNat : Int)) && decide ((c.toNat : Int) ≤ 122))
theorem bod_is (c : Fld.By) : bodB c = (bodA c || (List.range 13).any fun k => decide (c = bsg.getD (k % 12) 0)) := by
  have h : ∀ c : Fin 256, bodB (BitVec.ofNat 8 c.val) = (bodA (BitVec.ofNat 8 c.val) || (List.range 13).any fun k => decide (BitVec.ofNat 8 c.val = bsg.getD (k % 12) 0)) := by decide +kernel
  simpa using h ⟨c.toNat, c.isLt⟩
set_option maxHeartbeats 32000000 in
theorem rbound_any (s : List Bt) (w : World) (hl : s.length < 9223372036854775808) : Calls Tryz.prog 11 [Z s].toArray w fun e w' => e = .returned (.bool (boundB s)) ∧ Ext w w' := by
  refine enter (n := 60) Tryz.func11 rfl rfl rfl (Holds.start w []) ?_
  repeat (first | refine JL.q (by (apply OQ.assign; exact rfl)) rfl ?_ | refine JC.seq ?_ | refine JC.region ?_ | refine JC.block ?_ | refine JL.nil ?_ | refine JE.next ?_)
  refine JC.loop (fun i : Nat => [(0, Z s), (3, N i)]) (fun _ => []) (fun i => s.length - i) (fun i => i ≤ s.length ∧ (s.take i).all bodB = true) 0 ⟨Nat.zero_le _, rfl⟩ (by repeat (first | exact SubE.nil | refine SubE.cons _ _ _ rfl ?_)) (Less.refl _) ?_
  rintro i ⟨hi, ha⟩
  repeat (first | refine JL.q (by first | (apply OQ.lenS; exact Tryz.underlying9; exact rfl) | (apply OQ.move; exact rfl) | (apply OQ.lssN; exact rfl; exact rfl)) rfl ?_ | refine JC.seq ?_ | refine JC.region ?_ | refine JL.nil ?_ | refine JE.next ?_)
  refine JC.cond rfl (fun h => ?_) (fun h => ?_)
  · have hi' : i < s.length := of_decide_eq_true h
    clear h hi
    have hall := all_take bodB s 0 hi'
    have hbad := all_bad bodB s 0 hi'
    rw [ha, Bool.true_and] at hall
    have i0 := fun {n : Nat} {E : Env} {C : World → Prop} {dst : Option Tmp} {ty : TypeId} {pos : String} {aft : Array Edge} {g : Option (Nat × Bool)} {x y : Operand} => idxAt10 hi' (n := n) (E := E) (C := C) (dst := dst) (ty := ty) (pos := pos) (aft := aft) (g := g) (x := x) (y := y)
    generalize s.getD i 0 = c at hall hbad i0
    refine JC.skip (JE.next ?_)
    refine JC.seq (JC.block (JC.seq (JC.region ?_)))
    repeat (refine JL.q (by first | (apply i0; exact rfl; exact rfl) | (apply OQ.move; exact rfl) | (apply OQ.assign; exact rfl)) rfl ?_)
    refine JL.nil (JE.next ?_)
    refine JC.mid (ι := Unit) (fun _ => [(0, Z s), (3, N i), (4, U8 c), (5, .bool (bodA c))]) (fun _ => []) (fun _ => True) ?_ ?_
    · unfold bodA
      cases h1 : decide ((48 : Int) ≤ (c.toNat : Int)) <;> cases h2 : decide ((c.toNat : Int) ≤ 57) <;> cases h3 : decide ((65 : Int) ≤ (c.toNat : Int)) <;> cases h4 : decide ((c.toNat : Int) ≤ 90) <;> cases h5 : decide ((97 : Int) ≤ (c.toNat : Int)) <;> cases h6 : decide ((c.toNat : Int) ≤ 122)
      all_goals (repeat (first | refine JL.q (by first | (apply OQ.geqB (b := 48); exact rfl; exact rfl; exact h1) | (apply OQ.leqB (b := 57); exact rfl; exact rfl; exact h2) | (apply OQ.geqB (b := 65); exact rfl; exact rfl; exact h3) | (apply OQ.leqB (b := 90); exact rfl; exact rfl; exact h4) | (apply OQ.geqB (b := 97); exact rfl; exact rfl; exact h5) | (apply OQ.leqB (b := 122); exact rfl; exact rfl; exact h6) | (apply OQ.pick_t; exact rfl; exact rfl) | (apply OQ.pick_f; exact rfl; exact rfl) | (apply OQ.move; exact rfl) | (apply OQ.assign; exact rfl)) rfl ?_ | refine JC.region ?_ | refine JL.nil ?_ | refine JL.gon rfl rfl ?_ | refine JL.gskip rfl rfl rfl rfl ?_ | refine JL.gskipU rfl rfl rfl rfl ?_))
      all_goals exact JE.mid () trivial (by repeat (first | exact SubE.nil | refine SubE.cons _ _ _ rfl ?_)) (Less.refl _)
    intro _ _
    repeat (first | refine JL.q (by (apply OQ.assign; exact rfl)) rfl ?_ | refine JC.seq ?_ | refine JC.region ?_ | refine JC.block ?_ | refine JL.nil ?_ | refine JE.next ?_)
    refine JC.loop (fun k : Nat => [(0, Z s), (3, N i), (4, U8 c), (5, .bool (bodA c || (List.range k).any fun k => decide (c = bsg.getD (k % 12) 0))), (6, N k)]) (fun _ => []) (fun k => 13 - k) (fun k => k ≤ 13) 0 (by decide) ?_ (Less.refl _) ?_
    · rw [show (List.range 0).any (fun k => decide (c = bsg.getD (k % 12) 0)) = false from rfl, Bool.or_false]
      exact (by repeat (first | exact SubE.nil | refine SubE.cons _ _ _ rfl ?_))
    intro k hk
    repeat (first | refine JL.q (by first | (apply OQ.move; exact rfl) | (apply OQ.lssN; exact rfl; exact rfl)) rfl ?_ | refine JC.seq ?_ | refine JC.region ?_ | refine JL.nil ?_ | refine JE.next ?_)
    refine JC.cond rfl (fun h => ?_) (fun h => ?_)
    · have hk' : k < 13 := of_decide_eq_true h
      have hs : (List.range (k + 1)).any (fun k => decide (c = bsg.getD (k % 12) 0)) = ((List.range k).any (fun k => decide (c = bsg.getD (k % 12) 0)) || decide (c = bsg.getD (k % 12) 0)) := by rw [List.range_succ, List.any_append, List.any_cons, List.any_nil, Bool.or_false]
      have hm : k % 12 < bsg.length := Nat.mod_lt _ (by decide)
      cases g1 : (bodA c || (List.range k).any fun k => decide (c = bsg.getD (k % 12) 0))
      · cases g2 : decide (c = bsg.getD (k % 12) 0)
        all_goals (repeat (first | refine JL.q (by first | (apply OQ.idxZ (l := bsg) (k := .i64) (i := k % 12); exact Tryz.underlying9; exact rfl; exact rfl; exact hm) | (apply OQ.eq8M (b := bsg.getD (k % 12) 0); exact rfl; exact rfl; exact g2) | (apply OQ.pick_f; exact rfl; exact rfl) | (apply OQ.move; exact rfl) | (apply OQ.assign; exact rfl) | (apply OQ.addN; exact rfl; exact rfl; exact (by (try simp only []); omega)) | (apply OQ.remN; exact rfl; exact rfl; exact (by (try simp only []); omega))) rfl ?_ | refine JC.seq ?_ | refine JC.region ?_ | refine JC.block ?_ | refine JC.skip ?_ | refine JL.nil ?_ | refine JE.next ?_ | refine JE.blk_normal ?_ | refine JL.gon rfl rfl ?_))
        all_goals refine JE.again (i := k) (k + 1) hk' (by omega) ?_ (Less.refl _)
        all_goals rw [hs, ← Bool.or_assoc, g1, g2]
        all_goals exact (by repeat (first | exact SubE.nil | refine SubE.cons _ _ _ rfl ?_))
      · repeat (first | refine JL.q (by first | (apply OQ.pick_t; exact rfl; exact rfl) | (apply OQ.move; exact rfl) | (apply OQ.assign; exact rfl) | (apply OQ.addN; exact rfl; exact rfl; exact (by (try simp only []); omega))) rfl ?_ | refine JC.seq ?_ | refine JC.region ?_ | refine JC.block ?_ | refine JC.skip ?_ | refine JL.nil ?_ | refine JE.next ?_ | refine JE.blk_normal ?_ | refine JL.gskip rfl rfl rfl rfl ?_)
        refine JE.again (i := k) (k + 1) hk' (by omega) ?_ (Less.refl _)
        rw [hs, ← Bool.or_assoc, g1]
        exact (by repeat (first | exact SubE.nil | refine SubE.cons _ _ _ rfl ?_))
    · have h13 : ¬ k < 13 := of_decide_eq_false h
      have hk' : k = 13 := by omega
      subst hk'
      rw [← bod_is]
      cases hb : bodB c
      · have hF : boundB s = false := by
          unfold boundB
          rw [hbad hb]
          rfl
        rw [hF]
        repeat (first | refine JL.q (by first | (apply OQ.not; exact rfl) | (apply OQ.move; exact rfl)) rfl ?_ | refine JC.seq ?_ | refine JC.region ?_ | refine JC.exit ?_ | refine JL.nil ?_ | refine JE.next ?_ | refine JE.then_exit ?_ | refine JE.blk_hit ?_)
        refine JC.cond rfl (fun _ => ?_) (fun h => by cases h)
        repeat (first | refine JL.q (by (apply OQ.assign; exact rfl)) rfl ?_ | refine JC.seq ?_ | refine JC.region ?_ | refine JL.nil ?_ | refine JE.next ?_)
        refine JC.ret ?_
        repeat (first | refine JE.then_ret ?_ | refine JE.blk_ret ?_)
        exact JE.ret1 rfl (RV.tmp rfl) fun w' hw => ⟨rfl, hw.chg⟩
      · rw [hb] at hall
        repeat (first | refine JL.q (by first | (apply OQ.not; exact rfl) | (apply OQ.move; exact rfl)) rfl ?_ | refine JC.seq ?_ | refine JC.region ?_ | refine JC.exit ?_ | refine JL.nil ?_ | refine JE.next ?_ | refine JE.then_exit ?_ | refine JE.blk_hit ?_)
        refine JC.cond rfl (fun h => by cases h) (fun _ => ?_)
        repeat (first | refine JL.q (by first | (apply OQ.move; exact rfl) | (apply OQ.assign; exact rfl) | (apply OQ.addN; exact rfl; exact rfl; exact (by (try simp only []); omega))) rfl ?_ | refine JC.region ?_ | refine JC.skip ?_ | refine JL.nil ?_ | refine JE.next ?_ | refine JE.blk_normal ?_)
        exact JE.again (i := i) (i + 1) ⟨hi', hall⟩ (by omega) (by repeat (first | exact SubE.nil | refine SubE.cons _ _ _ rfl ?_)) (Less.refl _)
  · have hi' : ¬ i < s.length := of_decide_eq_false h
    obtain rfl : i = s.length := by omega
    rw [List.take_length] at ha
    unfold boundB
    rw [ha, Bool.true_and]
    cases h1 : decide (1 ≤ s.length) <;> cases h2 : decide (s.length ≤ 70)
    all_goals (repeat (first | refine JL.q (by first | (apply OQ.lenS; exact Tryz.underlying9; exact rfl) | (apply OQ.geqB (a := s.length) (b := 1); exact rfl; exact rfl; exact ((decide_eq_decide.2 (by omega)).trans h1)) | (apply OQ.leqB (a := s.length) (b := 70); exact rfl; exact rfl; exact ((decide_eq_decide.2 (by omega)).trans h2)) | (apply OQ.pick_t; exact rfl; exact rfl) | (apply OQ.pick_f; exact rfl; exact rfl) | (apply OQ.move; exact rfl) | (apply OQ.assign; exact rfl)) rfl ?_ | refine JC.seq ?_ | refine JC.region ?_ | refine JC.exit ?_ | refine JL.nil ?_ | refine JE.next ?_ | refine JE.then_exit ?_ | refine JE.blk_hit ?_ | refine JL.gon rfl rfl ?_ | refine JL.gskip rfl rfl rfl rfl ?_))
    all_goals exact JC.ret (JE.ret1 rfl (RV.tmp rfl) fun w' hw => ⟨rfl, hw.chg⟩)
end Go.Proofs.YtbbmhkdfdgnkpaaGreatDoor

/-
  Of no statement by itself: what the reference's Lines (layer 12) gives.
  Conditions: each theorem's own.
-/
namespace Go.Proofs.YtbbmhkdfdgnkpaaGreatDoor
set_option maxRecDepth 10000
open Sl Fld Mim
theorem goes_rlines : Goes Tryz.prog 16 := ⟨_, Tryz.func16, rfl, by kernel_rfl⟩
theorem sleM : EI Tryz.prog 22 (.slice none 0 0) 1 24 := by unfold EI; kernel_rfl
namespace Mim
abbrev LS := List (List By × List By) × List By
def lnE (x : List By) : List By × List By := if x.getLast? = some 13 then (x.dropLast, [13, 10]) else (x, [10])
def lsp (s : LS) (c : By) : LS := if c = 10 then (s.1 ++ [lnE s.2], []) else (s.1, s.2 ++ [c])
def lfin (s : LS) : List (List By × List By) := if s.2 = [] then s.1 else s.1 ++ [(s.2, [])]
theorem lsp_10 (L : List (List By × List By)) (x : List By) : lsp (L, x) 10 = (L ++ [lnE x], []) := by
  unfold lsp
  rw [if_pos rfl]
theorem lsp_no (L : List (List By × List By)) (x : List By) {c : By} (h : ¬ c = 10) : lsp (L, x) c = (L, x ++ [c]) := by
  unfold lsp
  rw [if_neg h]
theorem linR_fold : ∀ (b : List By) (L : List (List By × List By)) (x : List By), lfin (b.foldl lsp (L, x)) = L ++ linR b x
  | [], L, x => by
    rw [List.foldl_nil]
    unfold linR lfin
    by_cases h : x = []
    · rw [if_pos h, if_pos h, List.append_nil]
    · rw [if_neg h, if_neg h]
  | c :: b, L, x => by
    rw [List.foldl_cons]
    by_cases h : c = 10
    · subst h
      rw [lsp_10, linR_fold b (L ++ [lnE x]) [], linR, if_pos rfl, List.append_assoc]
      unfold lnE
      split <;> rfl
    · rw [lsp_no L x h, linR_fold b L (x ++ [c]), linR, if_neg h]
def lst (l : List By) (i : Nat) : LS := (l.take i).foldl lsp ([], [])
theorem lst_one (l : List By) {i : Nat} (h : i < l.length) : lst l (i + 1) = lsp (lst l i) (l.getD i 0) := by
  unfold lst
  rw [List.take_add_one, List.getElem?_eq_getElem h, Option.toList_some, List.foldl_append, List.getD_eq_getElem?_getD, List.getElem?_eq_getElem h]
  rfl
theorem lst_end (l : List By) : linB l = lfin (lst l l.length) := by
  unfold lst linB
  rw [List.take_length, linR_fold]
  rfl
theorem lsp_len (s : LS) (c : By) : (lsp s c).1.length + (lsp s c).2.length ≤ s.1.length + s.2.length + 1 := by
  unfold lsp
  split <;> simp <;> omega
theorem lst_le (l : List By) : ∀ i, (lst l i).1.length + (lst l i).2.length ≤ i
  | 0 => by simp [lst]
  | i + 1 => by
    by_cases h : i < l.length
    · rw [lst_one l h]
      have := lst_le l i
      have := lsp_len (lst l i) (l.getD i 0)
      omega
    · have e : lst l (i + 1) = lst l i := by
        unfold lst
        rw [List.take_of_length_le (by omega), List.take_of_length_le (by omega)]
      rw [e]
      exact Nat.le_succ_of_le (lst_le l i)
end Mim
structure LnT where
  i : Nat
  rs : List Sl8
  es : List Sl8
  zs : List Sl8
  b1 : Nat
  c1 : Nat
  b2 : Nat
  c2 : Nat
  b3 : Nat
  c3 : Nat
theorem row8_ents {e : TypeId} {b cap : Nat} {l : List Bt} (h : l.length ≤ cap) : Less (Sl8.ents ⟨some ⟨b, 0, none⟩, cap, l⟩) [⟨b, Row e (l.map U8), true⟩] :=
  .keep _ _ _ _ _ _ (fun o ho => ⟨Row.all o ho, h, rfl⟩) (.nil _)
theorem own8_ents {e : TypeId} {b k cap m : Nat} {l : List Bt} : Less (Sl8.ents ⟨some ⟨b, 0, none⟩, cap, l.take m⟩) [⟨b, Sl.Own e 1 k cap (l.map U8), true⟩] :=
  .keep _ _ _ _ _ _ (fun o ho => ⟨(Sl.Own.has (m := m) o ho).1, by
    obtain ⟨sp, _, _, h2, h3⟩ := ho
    rw [List.length_map, Nat.mul_one] at h2
    show (l.take m).length ≤ cap
    rw [List.length_take]; omega, rfl⟩) (.nil _)
theorem sl_ok {zs : List Sl8} {w0 w : World} {S : List Nat} {A : List Ent} {b cap : Nat} {e : TypeId} {rs : List Sl8} {wr : Bool} (hw : Holds w0 S (A ++ flatE zs) w) (hM : Has (A ++ flatE zs) b (Sl.Own e 1 rs.length cap (rs.map Sl8.v)) wr) (h0 : ∀ x ∈ zs, x.ad = none → x.l = []) (hz : ∀ x ∈ rs, x ∈ zs) : SlL.ok w ⟨some ⟨b, 0, none⟩, cap, rs⟩ := by
  obtain ⟨o, ho, hA⟩ := hw.get hM
  have hh := Sl.Own.cells _ hA
  obtain ⟨sp, rfl, h2, h3, h4⟩ := hA
  exact ⟨h4, Reads.block ho hh, fun x hx => flat_ok hw h0 x (hz x hx)⟩
theorem perm4 (a b c d : Ent) (F : List Ent) : (a :: b :: c :: d :: F).Perm (c :: d :: b :: a :: F) :=
  List.Perm.append_right F (l₁ := [a, b, c, d]) (l₂ := [c, d, b, a]) ((List.perm_append_comm (l₁ := [a, b]) (l₂ := [c, d])).trans (.cons _ (.cons _ (.swap _ _ _))))
theorem lnE_13 {x : List Fld.By} (h : x.getLast? = some 13) : lnE x = (x.dropLast, [13, 10]) := if_pos h
theorem lnE_no {x : List Fld.By} (h : ¬ x.getLast? = some 13) : lnE x = (x, [10]) := if_neg h
set_option maxHeartbeats 32000000 in
theorem rlines_any (s : Sl8) (w : World) (hs : s.ok w) (hl : s.l.length ≤ 4000000) : Calls Tryz.prog 16 [s.v].toArray w
    fun e w' => ∃ q : { q : SlL × SlL // q.1.ls = (linB s.l).map (·.1) ∧ q.2.ls = (linB s.l).map (·.2) }, e = .returned (.tuple #[q.1.1.v, q.1.2.v]) ∧ Ext w w' ∧ (q.1.1.ok w' ∧ q.1.2.ok w') := by
  refine enter (n := 71) Tryz.func16 rfl rfl rfl (Holds.start w []) ?_
  repeat (first | refine JL.q (by (apply OQ.assign; exact rfl)) rfl ?_ | refine JC.seq ?_ | refine JC.region ?_ | refine JL.nil ?_ | refine JE.next ?_)
  refine JL.lit0O Tryz.underlying24 sleM rfl fun b1 _ => ?_
  refine JL.lit0O Tryz.underlying24 sleM rfl fun b2 _ => ?_
  repeat (first | refine JL.q (by (apply OQ.assign; exact rfl)) rfl ?_ | refine JC.seq ?_ | refine JC.region ?_ | refine JL.nil ?_ | refine JE.next ?_)
  refine JL.lit0O Tryz.underlying22 u8e rfl fun b3 _ => ?_
  repeat (first | refine JL.q (by (apply OQ.assign; exact rfl)) rfl ?_ | refine JC.seq ?_ | refine JC.region ?_ | refine JC.block ?_ | refine JL.nil ?_ | refine JE.next ?_)
  refine JC.loop (fun z : LnT => [(0, s.v), (4, .slice (some ⟨z.b1, 0, none⟩) z.rs.length z.c1), (5, .slice (some ⟨z.b2, 0, none⟩) z.es.length z.c2), (6, .slice (some ⟨z.b3, 0, none⟩) (lst s.l z.i).2.length z.c3), (7, N z.i)])
    (fun z => [⟨z.b3, Sl.Own 5 1 (lst s.l z.i).2.length z.c3 ((lst s.l z.i).2.map U8), true⟩, ⟨z.b2, Sl.Own 22 1 z.es.length z.c2 (z.es.map Sl8.v), true⟩, ⟨z.b1, Sl.Own 22 1 z.rs.length z.c1 (z.rs.map Sl8.v), true⟩] ++ flatE z.zs)
    (fun z => s.l.length - z.i) (fun z => z.i ≤ s.l.length ∧ z.rs.map Sl8.l = (lst s.l z.i).1.map (·.1) ∧ z.es.map Sl8.l = (lst s.l z.i).1.map (·.2) ∧ (∀ y ∈ z.zs, y.ad = none → y.l = []) ∧ (∀ y ∈ z.rs, y ∈ z.zs) ∧ (∀ y ∈ z.es, y ∈ z.zs)) ⟨0, [], [], [], b1, 0, b2, 0, b3, 0⟩
    ⟨Nat.zero_le _, rfl, rfl, nofun, nofun, nofun⟩ (by repeat (first | exact SubE.nil | refine SubE.cons _ _ _ rfl ?_)) (Less.refl _) ?_
  rintro ⟨i, rs, es, zs, b1, c1, b2, c2, b3, c3⟩ ⟨hi, hrs, hes, h0, hz1, hz2⟩
  dsimp only at hi hrs hes h0 hz1 hz2 ⊢
  have hle := lst_le s.l i
  have hrl : rs.length = (lst s.l i).1.length := by rw [← List.length_map (f := Sl8.l), hrs, List.length_map]
  have hel : es.length = (lst s.l i).1.length := by rw [← List.length_map (f := Sl8.l), hes, List.length_map]
  repeat (first | refine JL.q (by first | (apply OQ.move; exact rfl) | (apply OQ.len; exact rfl; exact rfl) | (apply OQ.lssN; exact rfl; exact rfl)) rfl ?_ | refine JC.seq ?_ | refine JC.region ?_ | refine JL.nil ?_ | refine JE.next ?_)
  refine JC.cond rfl (fun h => ?_) (fun h => ?_)
  · have hi' : i < s.l.length := of_decide_eq_true h
    clear h hi
    obtain ⟨ba, ja, hae, hca⟩ := hs.reads.at (by simp; omega)
    have hc := hca i _ (map_at U8 0 hi')
    have hav : s.v = .slice (some ⟨ba, ja, none⟩) s.l.length s.cap := by rw [← hae]; rfl
    have eT := lst_one s.l hi'
    generalize s.l.getD i 0 = c at hc eT
    generalize lst s.l i = T at *
    obtain ⟨ls, cur⟩ := T
    dsimp only at hrs hes hle hrl hel ⊢
    rw [hav]
    cases hq : decide (c = 10)
    · have hn : ¬ c = 10 := of_decide_eq_false hq
      rw [lsp, if_neg hn] at eT
      repeat (first | refine JL.q (by first | (apply OQ.idxS1; exact Tryz.underlying22; exact u8s; exact rfl; exact rfl; exact hi') | (apply OQ.load_old; exact u8c; exact rfl; exact (block_lt_of_cell hc); exact (by simp); exact hc) | (apply OQ.eq8M (a := c) (b := 10); exact rfl; exact rfl; exact hq) | (apply OQ.move; exact rfl)) rfl ?_ | refine JC.seq ?_ | refine JC.region ?_ | refine JC.block ?_ | refine JC.skip ?_ | refine JL.nil ?_ | refine JE.next ?_)
      refine JC.cond rfl (fun h => by cases h) (fun _ => ?_)
      repeat (first | refine JL.q (by first | (apply OQ.idxS1; exact Tryz.underlying22; exact u8s; exact rfl; exact rfl; exact hi') | (apply OQ.load_old; exact u8c; exact rfl; exact (block_lt_of_cell hc); exact (by simp); exact hc) | (apply OQ.move; exact rfl)) rfl ?_ | refine JC.region ?_)
      refine JL.push1 (v := U8 c) (xs := cur.map U8) (fun b' cap' => [⟨b', Sl.Own 5 1 (cur.length + 1) cap' (cur.map U8 ++ [U8 c]), true⟩, ⟨b2, Sl.Own 22 1 es.length c2 (es.map Sl8.v), true⟩, ⟨b1, Sl.Own 22 1 rs.length c1 (rs.map Sl8.v), true⟩] ++ flatE zs) Tryz.underlying22 u8e rfl rfl rfl rfl (fun _ => rfl) (by intro _ _; repeat (first | exact Repl.here | apply Repl.there)) (by omega) (by omega) rfl rfl fun bl b' cap' => ?_
      repeat (first | refine JL.q (by first | (apply OQ.move; exact rfl) | (apply OQ.assign; exact rfl) | (apply OQ.addN; exact rfl; exact rfl; exact (by (try simp only []); omega))) rfl ?_ | refine JC.region ?_ | refine JL.nil ?_ | refine JE.next ?_ | refine JE.blk_normal ?_)
      rw [← hav]
      refine JE.again (i := LnT.mk i rs es zs b1 c1 b2 c2 b3 c3) (LnT.mk (i + 1) rs es zs b1 c1 b2 c2 b' cap') ⟨hi', by rw [eT]; exact hrs, by rw [eT]; exact hes, h0, hz1, hz2⟩ (by dsimp only; omega) ?_ ?_
      · dsimp only
        rw [eT, List.length_append]
        exact (by repeat (first | exact SubE.nil | refine SubE.cons _ _ _ rfl ?_))
      · dsimp only
        rw [eT, List.length_append, List.map_append]
        exact Less.refl _
    · have hn : c = 10 := of_decide_eq_true hq
      rw [lsp, if_pos hn] at eT
      repeat (first | refine JL.q (by first | (apply OQ.idxS1; exact Tryz.underlying22; exact u8s; exact rfl; exact rfl; exact hi') | (apply OQ.load_old; exact u8c; exact rfl; exact (block_lt_of_cell hc); exact (by simp); exact hc) | (apply OQ.eq8M (a := c) (b := 10); exact rfl; exact rfl; exact hq) | (apply OQ.move; exact rfl)) rfl ?_ | refine JC.seq ?_ | refine JC.region ?_ | refine JC.block ?_ | refine JC.skip ?_ | refine JL.nil ?_ | refine JE.next ?_)
      refine JC.cond rfl (fun _ => ?_) (fun h => by cases h)
      refine JC.seq (JC.region (JL.lit1 (v := U8 10) Tryz.underlying22 u8e rfl rfl rfl rfl fun b8 _ => ?_))
      refine JL.q (OQ.assign rfl) rfl (JL.nil (JE.next ?_))
      refine JC.mid (ι := Sl8 × Sl8) (fun q => [(0, .slice (some ⟨ba, ja, none⟩) s.l.length s.cap), (4, .slice (some ⟨b1, 0, none⟩) rs.length c1), (5, .slice (some ⟨b2, 0, none⟩) es.length c2), (6, q.1.v), (7, N i), (8, q.2.v)]) (fun q => [⟨b2, Sl.Own 22 1 es.length c2 (es.map Sl8.v), true⟩, ⟨b1, Sl.Own 22 1 rs.length c1 (rs.map Sl8.v), true⟩] ++ (q.1.ents ++ (q.2.ents ++ flatE zs))) (fun q => (q.1.l, q.2.l) = lnE cur ∧ (q.1.ad = none → q.1.l = []) ∧ (q.2.ad = none → q.2.l = [])) ?_ ?_
      · by_cases hcur : cur = []
        · subst hcur
          repeat (first | refine JL.q (by first | (apply OQ.gtrN_f; exact rfl; exact rfl; exact (Nat.lt_irrefl 0)) | (apply OQ.pick_f; exact rfl; exact rfl) | (apply OQ.move; exact rfl) | (apply OQ.len; exact rfl; exact rfl)) rfl ?_ | refine JC.seq ?_ | refine JC.region ?_ | refine JL.nil ?_ | refine JE.next ?_ | refine JL.gskip rfl rfl rfl rfl ?_)
          refine JC.cond rfl (fun h => by cases h) (fun _ => ?_)
          refine JC.skip (JE.perm (perm4 _ _ _ _ _) (JE.mid (⟨some ⟨b3, 0, none⟩, c3, []⟩, ⟨some ⟨b8, 0, none⟩, 1, [10]⟩) ⟨rfl, nofun, nofun⟩ (by repeat (first | exact SubE.nil | refine SubE.cons _ _ _ rfl ?_)) (.keep _ _ _ _ _ _ (fun _ h => h) (.keep _ _ _ _ _ _ (fun _ h => h) (less_two (own8_ents (m := 0)) (less_two (row8_ents (l := [10]) (Nat.le_refl _)) (Less.refl _)))))))
        · have hpos : 0 < cur.length := List.length_pos_iff.2 hcur
          have hlt : cur.length - 1 < cur.length := by omega
          have hlast : cur.getLast? = some (cur.getD (cur.length - 1) 0) := by
            rw [List.getLast?_eq_getElem?, List.getD_eq_getElem?_getD, List.getElem?_eq_getElem hlt]; rfl
          have hcell := map_at U8 0 hlt
          generalize cur.getD (cur.length - 1) 0 = z at hlast hcell
          cases h13 : decide (z = 13)
          · have hne : ¬ cur.getLast? = some 13 := fun e => by rw [hlast] at e; exact of_decide_eq_false h13 (Option.some.inj e)
            repeat (first | refine JL.q (by first | (apply OQ.gtrN_t; exact rfl; exact rfl; exact hpos) | (apply OQ.idxS0; exact Tryz.underlying22; exact u8s; exact rfl; exact rfl; exact hlt) | (apply OQ.load; exact u8c; exact rfl; exact (.there .here); exact (Sl.Own.cell hcell)) | (apply OQ.eq8M (a := z) (b := 13); exact rfl; exact rfl; exact h13) | (apply OQ.pick_t; exact rfl; exact rfl) | (apply OQ.move; exact rfl) | (apply OQ.len; exact rfl; exact rfl) | (apply OQ.subN; exact rfl; exact rfl; exact (by (try simp only []); omega); exact (by (try simp only []); omega))) rfl ?_ | refine JC.seq ?_ | refine JC.region ?_ | refine JL.nil ?_ | refine JE.next ?_ | refine JL.gon rfl rfl ?_)
            refine JC.cond rfl (fun h => by cases h) (fun _ => ?_)
            refine JC.skip (JE.perm (perm4 _ _ _ _ _) (JE.mid (⟨some ⟨b3, 0, none⟩, c3, cur⟩, ⟨some ⟨b8, 0, none⟩, 1, [10]⟩) ⟨(lnE_no hne).symm, nofun, nofun⟩ (by repeat (first | exact SubE.nil | refine SubE.cons _ _ _ rfl ?_)) (.keep _ _ _ _ _ _ (fun _ h => h) (.keep _ _ _ _ _ _ (fun _ h => h) (less_two (own_less rfl) (less_two (row8_ents (l := [10]) (Nat.le_refl _)) (Less.refl _)))))))
          · have hy : cur.getLast? = some 13 := by rw [hlast, of_decide_eq_true h13]
            have hdl : cur.dropLast = cur.take (cur.length - 1) := List.dropLast_eq_take
            repeat (first | refine JL.q (by first | (apply OQ.gtrN_t; exact rfl; exact rfl; exact hpos) | (apply OQ.idxS0; exact Tryz.underlying22; exact u8s; exact rfl; exact rfl; exact hlt) | (apply OQ.load; exact u8c; exact rfl; exact (.there .here); exact (Sl.Own.cell hcell)) | (apply OQ.eq8M (a := z) (b := 13); exact rfl; exact rfl; exact h13) | (apply OQ.pick_t; exact rfl; exact rfl) | (apply OQ.move; exact rfl) | (apply OQ.len; exact rfl; exact rfl) | (apply OQ.subN; exact rfl; exact rfl; exact (by (try simp only []); omega); exact (by (try simp only []); omega))) rfl ?_ | refine JC.seq ?_ | refine JC.region ?_ | refine JL.nil ?_ | refine JE.next ?_ | refine JL.gon rfl rfl ?_)
            refine JC.cond rfl (fun _ => ?_) (fun h => by cases h)
            refine JC.capIs (b := b3) (.there .here) (fun ob hA => by obtain ⟨sp, _, _, _, h3⟩ := hA; exact h3) fun hcap => ?_
            repeat (first | refine JL.q (by first | (apply OQ.to; exact (OQ.slS_hi (ad := some ⟨b3, 0, none⟩) (len := cur.length) (cap := c3) (hi := cur.length - 1) Tryz.underlying22 u8s rfl rfl (by omega)); exact hi_slice) | (apply OQ.move; exact rfl) | (apply OQ.assign; exact rfl) | (apply OQ.len; exact rfl; exact rfl) | (apply OQ.subN; exact rfl; exact rfl; exact (by (try simp only []); omega); exact (by (try simp only []); omega))) rfl ?_ | refine JC.seq ?_ | refine JC.region ?_ | refine JL.nil ?_ | refine JE.next ?_)
            refine JL.litL (xs := [.const (U8 13), .const (U8 10)]) (vs := [U8 13, U8 10]) Tryz.underlying22 u8e rfl rfl rfl (by simp [Value.oneCell']) (by simp [Value.cells]) rfl (by decide) (by decide) rfl fun b9 _ => ?_
            repeat (first | refine JL.q (by (apply OQ.assign; exact rfl)) rfl ?_ | refine JL.nil ?_)
            refine JE.less (.keep _ _ _ _ _ _ (fun _ h => h) (.drop _ _ _ (Less.refl _))) (JE.perm (perm4 _ _ _ _ _) (JE.mid (⟨some ⟨b3, 0, none⟩, c3, cur.take (cur.length - 1)⟩, ⟨some ⟨b9, 0, none⟩, 2, [13, 10]⟩) ⟨by rw [lnE_13 hy, hdl], nofun, nofun⟩ ?_ (.keep _ _ _ _ _ _ (fun _ h => h) (.keep _ _ _ _ _ _ (fun _ h => h) (less_two own8_ents (less_two (row8_ents (l := [13, 10]) (Nat.le_refl _)) (Less.refl _)))))))
            have e1 : Sl8.v ⟨some ⟨b3, 0, none⟩, c3, cur.take (cur.length - 1)⟩ = .slice (some ⟨b3, 0, none⟩) (cur.length - 1) c3 := by
              show Value.slice _ (cur.take (cur.length - 1)).length _ = _
              rw [List.length_take, Nat.min_eq_left (by omega)]
            dsimp only
            rw [e1]
            exact (by repeat (first | exact SubE.nil | refine SubE.cons _ _ _ rfl ?_))
      · rintro ⟨x, y⟩ ⟨hxy, hx0, hy0⟩
        dsimp only at hxy hx0 hy0 ⊢
        repeat (first | refine JL.q (by (apply OQ.move; exact rfl)) rfl ?_ | refine JC.seq ?_ | refine JC.region ?_)
        refine JL.push1 (v := x.v) (xs := rs.map Sl8.v) (fun b' cap' => [⟨b2, Sl.Own 22 1 es.length c2 (es.map Sl8.v), true⟩, ⟨b', Sl.Own 22 1 (rs.length + 1) cap' (rs.map Sl8.v ++ [x.v]), true⟩] ++ (x.ents ++ (y.ents ++ flatE zs))) Tryz.underlying24 sleM rfl rfl rfl rfl (fun _ => rfl) (by intro _ _; repeat (first | exact Repl.here | apply Repl.there)) (by omega) (by omega) rfl rfl fun bl b1' c1' => ?_
        repeat (first | refine JL.q (by first | (apply OQ.move; exact rfl) | (apply OQ.assign; exact rfl)) rfl ?_ | refine JC.seq ?_ | refine JC.region ?_ | refine JL.nil ?_ | refine JE.next ?_)
        refine JL.push1 (v := y.v) (xs := es.map Sl8.v) (fun b' cap' => [⟨b', Sl.Own 22 1 (es.length + 1) cap' (es.map Sl8.v ++ [y.v]), true⟩, ⟨b1', Sl.Own 22 1 (rs.length + 1) c1' (rs.map Sl8.v ++ [x.v]), true⟩] ++ (x.ents ++ (y.ents ++ flatE zs))) Tryz.underlying24 sleM rfl rfl rfl rfl (fun _ => rfl) (by intro _ _; repeat (first | exact Repl.here | apply Repl.there)) (by omega) (by omega) rfl rfl fun bl' b2' c2' => ?_
        repeat (first | refine JL.q (by (apply OQ.assign; exact rfl)) rfl ?_ | refine JC.region ?_ | refine JL.nil ?_ | refine JE.next ?_)
        refine JL.lit0O Tryz.underlying22 u8e rfl fun b3' _ => ?_
        rw [← hav]
        repeat (first | refine JL.q (by first | (apply OQ.move; exact rfl) | (apply OQ.assign; exact rfl) | (apply OQ.addN; exact rfl; exact rfl; exact (by (try simp only []); omega))) rfl ?_ | refine JC.region ?_ | refine JL.nil ?_ | refine JE.next ?_ | refine JE.blk_normal ?_)
        have hx1 : x.l = (lnE cur).1 := congrArg (·.1) hxy
        have hy1 : y.l = (lnE cur).2 := congrArg (·.2) hxy
        refine JE.again (i := LnT.mk i rs es zs b1 c1 b2 c2 b3 c3) (LnT.mk (i + 1) (rs ++ [x]) (es ++ [y]) (x :: y :: zs) b1' c1' b2' c2' b3' 0) ⟨hi', ?_, ?_, ?_, ?_, ?_⟩ (by dsimp only; omega) ?_ ?_
        · rw [eT]; dsimp only; rw [List.map_append, List.map_append, hrs]; exact congrArg (fun z => _ ++ [z]) hx1
        · rw [eT]; dsimp only; rw [List.map_append, List.map_append, hes]; exact congrArg (fun z => _ ++ [z]) hy1
        · intro u hu
          rcases List.mem_cons.1 hu with rfl | hu
          · exact hx0
          rcases List.mem_cons.1 hu with rfl | hu
          · exact hy0
          · exact h0 u hu
        · intro u hu
          rcases List.mem_append.1 hu with hu | hu
          · exact List.mem_cons_of_mem _ (List.mem_cons_of_mem _ (hz1 u hu))
          · rw [List.mem_singleton.1 hu]; exact List.mem_cons_self
        · intro u hu
          rcases List.mem_append.1 hu with hu | hu
          · exact List.mem_cons_of_mem _ (List.mem_cons_of_mem _ (hz2 u hu))
          · rw [List.mem_singleton.1 hu]; exact List.mem_cons_of_mem _ List.mem_cons_self
        · dsimp only
          rw [eT, List.length_append, List.length_append]
          exact (by repeat (first | exact SubE.nil | refine SubE.cons _ _ _ rfl ?_))
        · dsimp only
          rw [eT, List.length_append, List.length_append, List.map_append, List.map_append]
          exact Less.refl _
  · have hi' : ¬ i < s.l.length := of_decide_eq_false h
    clear h
    obtain rfl : i = s.l.length := by omega
    have hE := lst_end s.l
    generalize lst s.l s.l.length = T at *
    obtain ⟨ls, cur⟩ := T
    dsimp only at hrs hes hle hrl hel ⊢
    by_cases hcur : cur = []
    · subst hcur
      rw [lfin, if_pos rfl] at hE
      dsimp only at hE
      rw [hE]
      repeat (first | refine JL.q (by first | (apply OQ.gtrN_f; exact rfl; exact rfl; exact (Nat.lt_irrefl 0)) | (apply OQ.move; exact rfl) | (apply OQ.len; exact rfl; exact rfl)) rfl ?_ | refine JC.seq ?_ | refine JC.region ?_ | refine JC.exit ?_ | refine JL.nil ?_ | refine JE.next ?_ | refine JE.then_exit ?_ | refine JE.blk_hit ?_)
      refine JC.cond rfl (fun h => by cases h) (fun _ => ?_)
      repeat (first | refine JL.q (by first | (apply OQ.move; exact rfl) | (apply OQ.assign; exact rfl)) rfl ?_ | refine JC.seq ?_ | refine JC.region ?_ | refine JC.skip ?_ | refine JL.nil ?_ | refine JE.next ?_)
      refine JC.ret ?_
      skip
      exact JE.ret2 rfl (RV.tmp rfl) (RV.tmp rfl) fun w' hw => ⟨⟨(⟨some ⟨b1, 0, none⟩, c1, rs⟩, ⟨some ⟨b2, 0, none⟩, c2, es⟩), hrs, hes⟩, rfl, hw.chg, sl_ok hw (.there (.there .here)) h0 hz1, sl_ok hw (.there .here) h0 hz2⟩
    · have hpos : 0 < cur.length := List.length_pos_iff.2 hcur
      rw [lfin, if_neg hcur] at hE
      dsimp only at hE
      rw [hE]
      repeat (first | refine JL.q (by first | (apply OQ.gtrN_t; exact rfl; exact rfl; exact hpos) | (apply OQ.move; exact rfl) | (apply OQ.len; exact rfl; exact rfl)) rfl ?_ | refine JC.seq ?_ | refine JC.region ?_ | refine JC.exit ?_ | refine JL.nil ?_ | refine JE.next ?_ | refine JE.then_exit ?_ | refine JE.blk_hit ?_)
      refine JC.cond rfl (fun _ => ?_) (fun h => by cases h)
      repeat (first | refine JL.q (by (apply OQ.move; exact rfl)) rfl ?_ | refine JC.seq ?_ | refine JC.region ?_)
      refine JL.push1 (v := .slice (some ⟨b3, 0, none⟩) cur.length c3) (xs := rs.map Sl8.v) (fun b' cap' => [⟨b3, Sl.Own 5 1 cur.length c3 (cur.map U8), true⟩, ⟨b2, Sl.Own 22 1 es.length c2 (es.map Sl8.v), true⟩, ⟨b', Sl.Own 22 1 (rs.length + 1) cap' (rs.map Sl8.v ++ [.slice (some ⟨b3, 0, none⟩) cur.length c3]), true⟩] ++ flatE zs) Tryz.underlying24 sleM rfl rfl rfl rfl (fun _ => rfl) (by intro _ _; repeat (first | exact Repl.here | apply Repl.there)) (by omega) (by omega) rfl rfl fun bl b1' c1' => ?_
      repeat (first | refine JL.q (by first | (apply OQ.move; exact rfl) | (apply OQ.assign; exact rfl)) rfl ?_ | refine JC.region ?_ | refine JL.nil ?_ | refine JE.next ?_)
      refine JL.lit0O Tryz.underlying22 u8e rfl fun b9 _ => ?_
      refine JL.push1 (v := .slice (some ⟨b9, 0, none⟩) 0 0) (xs := es.map Sl8.v) (fun b' cap' => [⟨b9, Sl.Own 5 1 0 0 [], true⟩, ⟨b3, Sl.Own 5 1 cur.length c3 (cur.map U8), true⟩, ⟨b', Sl.Own 22 1 (es.length + 1) cap' (es.map Sl8.v ++ [.slice (some ⟨b9, 0, none⟩) 0 0]), true⟩, ⟨b1', Sl.Own 22 1 (rs.length + 1) c1' (rs.map Sl8.v ++ [.slice (some ⟨b3, 0, none⟩) cur.length c3]), true⟩] ++ flatE zs) Tryz.underlying24 sleM rfl rfl rfl rfl (fun _ => rfl) (by intro _ _; repeat (first | exact Repl.here | apply Repl.there)) (by omega) (by omega) rfl rfl fun bl' b2' c2' => ?_
      repeat (first | refine JL.q (by first | (apply OQ.move; exact rfl) | (apply OQ.assign; exact rfl)) rfl ?_ | refine JC.seq ?_ | refine JC.region ?_ | refine JL.nil ?_ | refine JE.next ?_)
      refine JC.ret ?_
      skip
      refine JE.ret2 rfl (RV.tmp rfl) (RV.tmp rfl) fun w' hw => ?_
      let x : Sl8 := ⟨some ⟨b3, 0, none⟩, c3, cur⟩
      let y : Sl8 := ⟨some ⟨b9, 0, none⟩, 0, []⟩
      have n1 : (rs ++ [x]).length = rs.length + 1 := List.length_append
      have n2 : (es ++ [y]).length = es.length + 1 := List.length_append
      have m1 : (rs ++ [x]).map Sl8.v = rs.map Sl8.v ++ [x.v] := List.map_append
      have m2 : (es ++ [y]).map Sl8.v = es.map Sl8.v ++ [y.v] := List.map_append
      have hw2 : Holds w [] ([⟨b2', Sl.Own 22 1 (es ++ [y]).length c2' ((es ++ [y]).map Sl8.v), true⟩, ⟨b1', Sl.Own 22 1 (rs ++ [x]).length c1' ((rs ++ [x]).map Sl8.v), true⟩] ++ flatE (x :: y :: zs)) w' := by
        rw [n1, n2, m1, m2]
        exact Sl.Holds.weak (Holds.perm' (perm4 _ _ _ _ _) hw) (.keep _ _ _ _ _ _ (fun _ h => h) (.keep _ _ _ _ _ _ (fun _ h => h) (less_two (own_less (l := cur) rfl) (less_two (own_less (l := []) rfl) (Less.refl _)))))
      have k0 : ∀ u ∈ x :: y :: zs, u.ad = none → u.l = [] := by
        intro u hu
        rcases List.mem_cons.1 hu with rfl | hu
        · nofun
        rcases List.mem_cons.1 hu with rfl | hu
        · nofun
        · exact h0 u hu
      refine ⟨⟨(⟨some ⟨b1', 0, none⟩, c1', rs ++ [x]⟩, ⟨some ⟨b2', 0, none⟩, c2', es ++ [y]⟩), ?_, ?_⟩, ?_, hw.chg, sl_ok hw2 (.there .here) k0 ?_, sl_ok hw2 .here k0 ?_⟩
      · show (rs ++ [x]).map Sl8.l = _
        rw [List.map_append, List.map_append, hrs]; rfl
      · show (es ++ [y]).map Sl8.l = _
        rw [List.map_append, List.map_append, hes]; rfl
      · show _ = Ending.returned (.tuple #[Value.slice _ (rs ++ [x]).length _, Value.slice _ (es ++ [y]).length _])
        rw [n1, n2]
      · intro u hu
        rcases List.mem_append.1 hu with hu | hu
        · exact List.mem_cons_of_mem _ (List.mem_cons_of_mem _ (hz1 u hu))
        · rw [List.mem_singleton.1 hu]; exact List.mem_cons_self
      · intro u hu
        rcases List.mem_append.1 hu with hu | hu
        · exact List.mem_cons_of_mem _ (List.mem_cons_of_mem _ (hz2 u hu))
        · rw [List.mem_singleton.1 hu]; exact List.mem_cons_of_mem _ List.mem_cons_self
end Go.Proofs.YtbbmhkdfdgnkpaaGreatDoor

/-
  Of no statement by itself: loops whose rounds leave worlds that are the new beginning; over X's partial knowledge, for any program P.
  Conditions: each rule's own hypotheses.
-/
namespace Go.Proofs.YtbbmhkdfdgnkpaaGreatDoor
open Sl
theorem JC.reb {P : Program} {n : Nat} {w0 : World} {S S' : List Nat} {Q : Exit → Act → World → Prop} {c : Code} {E : Env} {M M' : List Ent} (hM : ∀ w1, Holds w0 S M w1 → Holds w1 S' M' w1) (h : ∀ w1, Holds w0 S M w1 → JC P n w1 S' Q c E M') : JC P n w0 S Q c E M :=
  ⟨fun a w ha hw => (h w hw).go a w ha (hM w hw)⟩
theorem JC.loopb {P : Program} {n : Nat} {w0 : World} {S : List Nat} {Q : Exit → Act → World → Prop} {E : Env} {M : List Ent} {ι : Type} (W : ι → World) (Ei : ι → Env) (Mi : ι → List Ent) (μ : ι → Nat) (I : ι → Prop) {c : Code} (i : ι) (hi : I i) (hE : SubE E (Ei i)) (hM : ∀ w, Holds w0 S M w → Holds (W i) [] (Mi i) w)
    (h : ∀ i, I i → JC P n (W i) [] (Exit.then (fun a' w' => ∃ j, I j ∧ μ j < μ i ∧ Knows n (Ei j) a' ∧ Holds (W j) [] (Mi j) w') Q) c (Ei i) (Mi i)) : JC P n w0 S Q (.loop c) E M := by
  refine ⟨fun a w ha hw => ?_⟩
  have ha' := ha.sub hE
  have hw' := hM w hw
  clear ha hw hE hM
  have key : ∀ m i, μ i = m → I i → ∀ a w, Knows n (Ei i) a → Holds (W i) [] (Mi i) w → ∀ (b : Frame) (k : List Item) (cs : List Frame),
      ∃ e a' w', Q e a' w' ∧ Arrives P (lone (b.at a (.code c :: .inLoop c :: k)) cs w) b k cs e a' w' := by
    intro m
    induction m using Nat.strongRecOn with
    | _ m ih =>
      intro i hm hI a w ha hw b k cs
      obtain ⟨e, a₁, w₁, hq, harr⟩ := (h i hI).go a w ha hw b (.inLoop c :: k) cs
      cases e with
      | normal =>
        obtain ⟨j, hj, hlt, ha₁, hw₁⟩ := hq
        obtain ⟨e₂, a₂, w₂, hq₂, harr₂⟩ := ih (μ j) (hm ▸ hlt) j rfl hj a₁ w₁ ha₁ hw₁ b k cs
        exact ⟨e₂, a₂, w₂, hq₂, .of_steps (Steps.trans harr (.one step_inLoop)) harr₂⟩
      | exit id => exact ⟨_, a₁, w₁, hq, .pass (x := .inLoop c) rfl (fun _ _ => .inl (by simp)) harr⟩
      | goto l => exact ⟨_, a₁, w₁, hq, .pass (x := .inLoop c) rfl (fun _ _ => .inl (by simp)) harr⟩
      | ret => exact ⟨_, a₁, w₁, hq, .pass (x := .inLoop c) rfl (fun _ _ => .inl (by simp)) harr⟩
      | panic ch => exact ⟨_, a₁, w₁, hq, .pass (x := .inLoop c) rfl (fun _ _ => .inl (by simp)) harr⟩
      | outgrown => exact ⟨_, a₁, w₁, hq, .pass (x := .inLoop c) rfl (fun _ _ => .inl (by simp)) harr⟩
  intro b k cs
  obtain ⟨e, a', w', hq, harr⟩ := key _ i rfl hi a w ha' hw' b k cs
  exact ⟨e, a', w', hq, .of_steps (.one step_loop) harr⟩
theorem JE.againb {n : Nat} {w0 : World} {S : List Nat} {Q : Exit → Act → World → Prop} {E : Env} {M : List Ent} {ι : Type} {W : ι → World} {Ei : ι → Env} {Mi : ι → List Ent} {μ : ι → Nat} {I : ι → Prop} {i : ι} (j : World → ι) (h : ∀ w', Holds w0 S M w' → I (j w') ∧ μ (j w') < μ i ∧ Holds (W (j w')) [] (Mi (j w')) w') (hE : ∀ w', SubE E (Ei (j w'))) :
    JE n w0 S (Exit.then (fun a' w' => ∃ j, I j ∧ μ j < μ i ∧ Knows n (Ei j) a' ∧ Holds (W j) [] (Mi j) w') Q) .normal E M :=
  ⟨fun _ w' ha hw => ⟨j w', (h w' hw).1, (h w' hw).2.1, ha.sub (hE w'), (h w' hw).2.2⟩⟩
end Go.Proofs.YtbbmhkdfdgnkpaaGreatDoor

/-
  Of no statement by itself: what the reference's Split (layer 12) gives.
  Conditions: each theorem's own.
-/
namespace Go.Proofs.YtbbmhkdfdgnkpaaGreatDoor
set_option maxRecDepth 10000
open Sl Fld Mim
theorem bsC12 : scal Tryz.prog 22 = true := by kernel_rfl
theorem sleS : szT Tryz.prog 22 = some 1 := by kernel_rfl
theorem SlL.ok.at {w : World} {s : SlL} (h : s.ok w) {i : Nat} (hi : i < s.rs.length) : ∃ b j, s.ad = some ⟨b, j, none⟩ ∧ b < w.heap.size ∧ w.cell? ⟨b, j + i, none⟩ = some (s.rs.getD i nilS).v ∧ (s.rs.getD i nilS).ok w := by
  have h1 : (s.rs.map Sl8.v)[i]? = some (s.rs.getD i nilS).v := map_at Sl8.v nilS hi
  obtain ⟨b, j, e1, c1⟩ := h.reads _ _ h1
  refine ⟨b, j, e1, block_lt_of_cell c1, c1, h.all _ ?_⟩
  rw [List.getD_eq_getElem?_getD, List.getElem?_eq_getElem hi]
  exact List.getElem_mem hi
theorem ls_at {α : Type} {s : SlL} {xs : List α} {f : α → List Bt} {d : α} (h : s.ls = xs.map f) {i : Nat} (hi : i < xs.length) : i < s.rs.length ∧ (s.rs.getD i nilS).l = f (xs.getD i d) := by
  have hl : s.rs.length = xs.length := by rw [← List.length_map (f := Sl8.l)]; show s.ls.length = _; rw [h, List.length_map]
  refine ⟨by omega, ?_⟩
  have h1 : (s.rs.map Sl8.l)[i]? = (xs.map f)[i]? := by show s.ls[i]? = _; rw [h]
  rw [List.getElem?_map, List.getElem?_map, List.getElem?_eq_getElem hi, List.getElem?_eq_getElem (show i < s.rs.length by omega)] at h1
  rw [List.getD_eq_getElem?_getD, List.getD_eq_getElem?_getD, List.getElem?_eq_getElem hi, List.getElem?_eq_getElem (show i < s.rs.length by omega)]
  exact Option.some.inj h1
theorem drop_at {α : Type} {xs : List α} {i : Nat} (d : α) (h : i < xs.length) : xs.drop i = xs.getD i d :: xs.drop (i + 1) := by
  rw [List.drop_eq_getElem_cons h, List.getD_eq_getElem?_getD, List.getElem?_eq_getElem h]; rfl
theorem mark_le (bd s : List Fld.By) : markB bd s = 0 ∨ markB bd s = 1 ∨ markB bd s = 2 := by
  unfold markB
  split
  · exact .inr (.inl rfl)
  · split
    · exact .inr (.inr rfl)
    · exact .inl rfl
theorem splL_1 {bd l e : List Fld.By} {r : List (List Fld.By × List Fld.By)} {o : List (List Fld.By)} (h : markB bd l = 1) : splL bd ((l, e) :: r) o = splL bd (colR bd r [] []).2 (o ++ [(colR bd r [] []).1]) := by
  rw [splL]; simp [h]
theorem splL_2 {bd l e : List Fld.By} {r : List (List Fld.By × List Fld.By)} {o : List (List Fld.By)} (h : markB bd l = 2) : splL bd ((l, e) :: r) o = some o := by
  rw [splL]; simp [h]
def spOut (o : Option (List (List Fld.By))) : List (List Fld.By) × Nat := match o with
  | none => ([], 3)
  | some out => (out, 0)
theorem spltB_is (b : List Fld.By) {bd : List Fld.By} (h : boundB bd = true) : spltB b bd = spOut (splL bd ((linB b).dropWhile fun x => markB bd x.1 != 1) []) := by
  unfold spltB spOut
  rw [if_neg (by rw [h]; decide)]
  cases splL bd ((linB b).dropWhile fun x => markB bd x.1 != 1) [] <;> rfl
structure SpT where
  i : Nat
  os : List Sl8
  zs : List Sl8
  bo : Nat
  co : Nat
structure PtT where
  i : Nat
  o : List Bt
  b : Nat
  c : Nat
end Go.Proofs.YtbbmhkdfdgnkpaaGreatDoor

/-
  Of no statement by itself: what the landed mime's Split gives.
  Conditions: each theorem's own.
-/
namespace Go.Proofs.YtbbmhkdfdgnkpaaGreatDoor
set_option maxRecDepth 10000
open Sl Fld Mim
/-- slices of bytes as an answer: a slice of them, each one's bytes in memory of its own -/
structure SpA (out : List (List Bt)) where
  q : Acc
  rs : List Sl8
  hrs : rs.map Sl8.l = out
  hq : q = none → rs = []
  h0 : ∀ x ∈ rs, x.ad = none → x.l = []
def SpA.v {out : List (List Bt)} (z : SpA out) : Value := accV z.q (z.rs.map Sl8.v).length
def SpA.ents {out : List (List Bt)} (z : SpA out) : List Ent := accE 22 z.q (z.rs.map Sl8.v) ++ flatE z.rs
theorem SpA.wr {out : List (List Bt)} (z : SpA out) : ∀ e ∈ z.ents, e.wr = true := fun e he => by
  rcases List.mem_append.1 he with h | h
  · exact accE_wr _ _ _ e h
  · obtain ⟨x, _, hx⟩ := List.mem_flatMap.1 h
    exact x.ents_wr e hx
theorem goes_msplitL : Goes Tryz.prog 8 := ⟨_, Tryz.func8, rfl, by kernel_rfl⟩
theorem mixMi : Tryz.prog.follows .mixedOrders = true := by kernel_rfl
theorem lsZ : zc Tryz.prog 24 = some [.slice none 0 0] := by kernel_rfl
theorem erZ : zc Tryz.prog 25 = some [.int .i64 0] := by kernel_rfl
theorem stZ : zc Tryz.prog 9 = some [Z []] := by kernel_rfl
theorem boZ : zc Tryz.prog 4 = some [.bool false] := by kernel_rfl
theorem inZ : zc Tryz.prog 3 = some [.int .i64 0] := by kernel_rfl
theorem lsS : szT Tryz.prog 24 = some 1 := by kernel_rfl
theorem erS : szT Tryz.prog 25 = some 1 := by kernel_rfl
theorem stS12 : szT Tryz.prog 9 = some 1 := by kernel_rfl
theorem inS12 : szT Tryz.prog 3 = some 1 := by kernel_rfl
theorem bsS12 : szT Tryz.prog 22 = some 1 := by kernel_rfl
theorem lsC : scal Tryz.prog 24 = true := by kernel_rfl
theorem erC : scal Tryz.prog 25 = true := by kernel_rfl
theorem stC12 : scal Tryz.prog 9 = true := by kernel_rfl
theorem inC12 : scal Tryz.prog 3 = true := by kernel_rfl
theorem bsC8 : scal Tryz.prog 22 = true := by kernel_rfl
theorem slE12 : EI Tryz.prog 22 (.slice none 0 0) 1 24 := by unfold EI; kernel_rfl
/-- how far the loop is -/
structure SpZ where
  st : Option Nat
  q : Acc
  rs : List Sl8
section
variable (s : Sl8) (bd : List Bt) (be b2 b4 b5 b6 b7 b8 b9 b10 : Nat)
def spA (z : SpZ) : List Ent := [⟨be, Row 22 [s.v], false⟩, ⟨b10, Row 3 [N (z.st.getD 0)], true⟩, ⟨b9, Row 4 [.bool z.st.isSome], true⟩]
def spB : List Ent := [⟨b7, Row 9 [Z (45 :: 45 :: (bd ++ [45, 45]))], true⟩, ⟨b6, Row 9 [Z (45 :: 45 :: bd)], true⟩, ⟨b5, Row 25 [.int .i64 0], true⟩, ⟨b4, Row 24 [.slice none 0 0], true⟩, ⟨b2, Row 22 [s.v], true⟩]
def spM (z : SpZ) : List Ent := spA s be b9 b10 z ++ ⟨b8, Row 24 [accV z.q (z.rs.map Sl8.v).length], true⟩ :: (spB s bd b2 b4 b5 b6 b7 ++ (accE 22 z.q (z.rs.map Sl8.v) ++ flatE z.rs))
def spX (z : SpZ) : List Ent := ⟨b5, Row 25 [.int .i64 0], true⟩ :: ⟨b4, Row 24 [accV z.q (z.rs.map Sl8.v).length], true⟩ :: (accE 22 z.q (z.rs.map Sl8.v) ++ flatE z.rs)
end
def spI (s : Sl8) (bd : List Bt) (k : Nat) (z : SpZ) : Prop := ScanB bd s.l (atN s.l k) z.st (z.rs.map Sl8.l) ∧ (z.q = none → z.rs = []) ∧ (∀ x ∈ z.rs, x.ad = none → x.l = []) ∧ z.rs.length ≤ k
def spF (s : Sl8) (bd : List Bt) (z : SpZ) : Prop := goalB bd s.l = some (z.rs.map Sl8.l) ∧ (z.q = none → z.rs = []) ∧ (∀ x ∈ z.rs, x.ad = none → x.l = [])
theorem cells_row {e : TypeId} {l : List Value} : ∀ o, Row e l o → o.isCells = true := by rintro o rfl; rfl
theorem cells_own {e : TypeId} {k sz cap : Nat} {l : List Value} : ∀ o, Sl.Own e sz k cap l o → o.isCells = true := by rintro o ⟨_, rfl, _⟩; rfl
theorem cells_accE {e : TypeId} {q : Acc} {l : List Value} : ∀ x ∈ accE e q l, ∀ o, x.A o → o.isCells = true := by
  intro x hx o hA
  cases q with
  | none => cases hx
  | some p =>
    rw [List.mem_singleton.1 hx] at hA
    exact cells_own o hA
theorem cells_ents {x : Sl8} : ∀ e ∈ x.ents, ∀ o, e.A o → o.isCells = true := by
  intro e he o hA
  obtain ⟨ad, cap, l⟩ := x
  cases ad with
  | none => cases he
  | some a =>
    unfold Sl8.ents at he
    rw [List.mem_singleton.1 he] at hA
    obtain ⟨⟨c, e, fr, rfl, _⟩, _⟩ := hA
    rfl
theorem cells_flat {rs : List Sl8} : ∀ e ∈ flatE rs, ∀ o, e.A o → o.isCells = true := by
  intro e he o hA
  obtain ⟨x, _, hx⟩ := List.mem_flatMap.1 he
  exact cells_ents e hx o hA
theorem has_left {M N : List Ent} {b : Nat} {A : Obj → Prop} {wr : Bool} (h : Has M b A wr) : Has (M ++ N) b A wr := by
  induction h with
  | here => exact .here
  | there _ ih => exact .there ih
theorem has_right (N : List Ent) {M : List Ent} {b : Nat} {A : Obj → Prop} {wr : Bool} (h : Has M b A wr) : Has (N ++ M) b A wr := by
  induction N with
  | nil => exact h
  | cons e N ih => exact .there ih
theorem less_eq {M M' : List Ent} (h : M' = M) : Less M' M := h ▸ Less.refl _
theorem less_nilR (M : List Ent) : Less (M ++ []) M := by
  rw [List.append_nil]
  exact Less.refl _
theorem less_nilL (M : List Ent) : Less M (M ++ []) := by
  rw [List.append_nil]
  exact Less.refl _
theorem mark_1 {bd x : List Fld.By} : markB bd x = 1 ↔ cutR x = 45 :: 45 :: bd := by
  unfold markB
  by_cases h1 : cutR x = 45 :: 45 :: bd
  · rw [if_pos h1]; exact ⟨fun _ => h1, fun _ => rfl⟩
  · rw [if_neg h1]
    refine ⟨fun h => ?_, fun h => absurd h h1⟩
    split at h <;> cases h
theorem mark_2 {bd x : List Fld.By} : markB bd x = 2 ↔ cutR x = 45 :: 45 :: (bd ++ [45, 45]) := by
  unfold markB
  by_cases h1 : cutR x = 45 :: 45 :: bd
  · rw [if_pos h1, h1]
    refine ⟨fun h => absurd h (by decide), fun h => ?_⟩
    have := congrArg List.length h
    simp at this
  · rw [if_neg h1]
    by_cases h2 : cutR x = 45 :: 45 :: (bd ++ [45, 45])
    · rw [if_pos h2]; exact ⟨fun _ => h2, fun _ => rfl⟩
    · rw [if_neg h2]; exact ⟨fun h => absurd h (by decide), fun h => absurd h h2⟩
theorem scan_le {bd b : List Fld.By} {k bg : Nat} {out : List (List Fld.By)} (h : ScanB bd b k (some bg) out) : bg ≤ k := h.1
theorem mid_len (s : Sl8) (lo hi : Nat) : (s.mid lo hi).l.length ≤ s.l.length := by
  show ((s.l.take hi).drop lo).length ≤ _
  rw [List.length_drop, List.length_take]
  omega
set_option maxHeartbeats 64000000 in
theorem msplit_any (s : Sl8) (bd : List Bt) (w : World) (hs : s.ok w) (hl : s.l.length ≤ 1073741824) (hb : bd.length ≤ 1000) : Calls Tryz.prog 8 [s.v, Z bd].toArray w fun e w' => ∃ z : SpA (spltB s.l bd).1, e = .returned (.tuple #[z.v, N (spltB s.l bd).2]) ∧ Holds w [] z.ents w' := by
  have hN : (linB s.l).length ≤ s.l.length + 1 := (linR_sum s.l []).2
  refine enterM (n := 64) Tryz.func8 rfl rfl rfl (Holds.start w []) ?_
  refine JC.seq (JC.region (JL.box (r := [s.v]) rfl rfl rfl fun b2 _ => ?_))
  refine JL.alloc lsZ rfl fun b4 _ => ?_
  refine JL.alloc erZ rfl fun b5 _ => ?_
  have cb := fun w' => mbnd_any bd w' (by omega)
  cases hB : boundB bd
  · rw [hB] at cb
    have e1 : spltB s.l bd = ([], 1) := by
      unfold spltB
      rw [if_pos hB]
    rw [e1]
    repeat (first | refine JL.q (by first | (apply OQ.callx (vs := [Z bd]); exact goes_mbnd; exact rfl; exact (fun w' _ => cb w')) | (apply OQ.not; exact rfl) | (apply OQ.move; exact rfl)) rfl ?_ | refine JC.seq ?_ | refine JC.region ?_ | refine JL.nil ?_ | refine JE.next ?_)
    refine JC.cond rfl (fun _ => ?_) (fun h => by cases h)
    refine JC.seq (JC.region ?_)
    refine JL.store_eq (v := .slice none 0 0) (r' := [.slice none 0 0]) lsS rfl rfl rfl rfl (.there .here) (by decide) rfl ?_
    refine JL.store_eq (v := .int .i64 1) (r' := [.int .i64 1]) erS rfl rfl rfl rfl .here (by decide) rfl ?_
    refine JL.nil (JE.next ?_)
    refine JC.ret ?_
    refine JE.then_ret ?_
    refine JE.ret2M rfl (RV.cell rfl lsC (.there .here) (Row.cell (v := .slice none 0 0) rfl)) (RV.cell rfl erC .here (Row.cell (v := .int .i64 1) rfl)) fun w' hw => ?_
    exact ⟨⟨none, [], rfl, fun _ => rfl, by simp⟩, rfl, hw.weak (.nil _)⟩
  rw [hB] at cb
  have hsp := splt_goal (b := s.l) hB
  rw [hsp]
  clear hsp
  have e2 := fun w' => mbetw_any bd w' (by omega)
  have e3 := fun w' => mlastl_any bd w' (by omega)
  repeat (first | refine JL.q (by first | (apply OQ.callx (vs := [Z bd]); exact goes_mbnd; exact rfl; exact (fun w' _ => cb w')) | (apply OQ.not; exact rfl) | (apply OQ.move; exact rfl)) rfl ?_ | refine JC.seq ?_ | refine JC.region ?_ | refine JL.nil ?_ | refine JE.next ?_)
  refine JC.cond rfl (fun h => by cases h) (fun _ => ?_)
  repeat (first | refine JL.q (by first | (apply OQ.callx (vs := [Z bd]); exact goes_mbetw; exact rfl; exact (fun w' _ => e2 w')) | (apply OQ.callx (vs := [Z bd]); exact goes_mlastl; exact rfl; exact (fun w' _ => e3 w')) | (apply OQ.move; exact rfl)) rfl ?_ | refine JC.seq ?_ | refine JC.region ?_ | refine JC.skip ?_ | refine JE.next ?_)
  refine JL.alloc stZ rfl fun b6 _ => ?_
  refine JL.alloc stZ rfl fun b7 _ => ?_
  refine JL.store_eq (v := Z (45 :: 45 :: bd)) (r' := [Z (45 :: 45 :: bd)]) stS12 rfl rfl rfl rfl (.there .here) (by decide) rfl ?_
  refine JL.store_eq (v := Z (45 :: 45 :: (bd ++ [45, 45]))) (r' := [Z (45 :: 45 :: (bd ++ [45, 45]))]) stS12 rfl rfl rfl rfl .here (by decide) rfl ?_
  repeat (first | refine JC.seq ?_ | refine JC.region ?_ | refine JL.nil ?_ | refine JE.next ?_)
  refine JL.alloc lsZ rfl fun b8 _ => ?_
  repeat (first | refine JC.seq ?_ | refine JC.region ?_ | refine JL.nil ?_ | refine JE.next ?_)
  refine JL.alloc boZ rfl fun b9 _ => ?_
  refine JL.alloc inZ rfl fun b10 _ => ?_
  refine JL.store_eq (v := .bool false) (r' := [.bool false]) boS rfl rfl rfl rfl (.there .here) (by decide) rfl ?_
  refine JL.store_eq (v := .int .i64 0) (r' := [.int .i64 0]) inS12 rfl rfl rfl rfl .here (by decide) rfl ?_
  repeat (first | refine JL.q (by (apply OQ.load; exact bsC8; exact rfl; exact (by repeat (first | exact Has.here | apply Has.there)); exact (Row.cell (v := s.v) rfl))) rfl ?_ | refine JC.seq ?_ | refine JC.region ?_ | refine JL.nil ?_ | refine JE.next ?_)
  refine JL.callg (ι := Nat) (vs := [s.v]) (fun b => eachF b) (fun b => [⟨b, Row 22 [s.v], true⟩]) goes_each rfl rfl (fun b e he => by rw [List.mem_singleton.1 he]) (fun w' _ => each_any s w') fun be => ?_
  repeat (first | refine JC.block ?_ | refine JL.nil ?_ | refine JE.next ?_)
  refine JC.rangeN (ι := SpZ) (κ := SpZ) (encL s) (be :: blkS s) (linB s.l).length (spM s bd be b2 b4 b5 b6 b7 b8 b9 b10) (spI s bd) (spX b4 b5) (spF s bd) rfl (enters_of Tryz.func28 (by kernel_rfl) rfl) ?hseq ?hcell ?hcelx ?hL ⟨none, none, []⟩ ⟨scan_start bd s.l, fun _ => rfl, by simp, Nat.le_refl _⟩ ?hMz rfl rfl rfl rfl (fun _ _ => rfl) (fun _ _ => rfl) ?hbody ?hdone ?hstop
  case hseq =>
    intro W hW
    obtain ⟨o1, h1, h1'⟩ := hW.get (b := be) (A := Row 22 [s.v]) (wr := true) (by repeat (first | exact Has.here | apply Has.there))
    exact each_stops s be (by omega) W (hs.holds hW rfl) h1 (Row.cell rfl _ h1')
  case hcell =>
    intro z e he o hA
    unfold spM spA spB at he
    simp only [List.mem_cons, List.mem_append, List.not_mem_nil, or_false] at he
    rcases he with (rfl | rfl | rfl) | rfl | (rfl | rfl | rfl | rfl | rfl) | h | h
    all_goals first | exact cells_row o hA | skip
    · exact cells_accE e h o hA
    · exact cells_flat e h o hA
  case hcelx =>
    intro z e he o hA
    unfold spX at he
    simp only [List.mem_cons, List.mem_append] at he
    rcases he with rfl | rfl | h | h
    · exact cells_row o hA
    · exact cells_row o hA
    · exact cells_accE e h o hA
    · exact cells_flat e h o hA
  case hL =>
    intro z k hk
    rcases List.mem_cons.1 hk with rfl | hk
    · exact .inr ⟨_, by unfold spM spA spB; exact (by repeat (first | exact Has.here | apply Has.there))⟩
    · exact .inl (blkS_lt hs k hk)
  case hMz =>
    intro w' hw'
    exact hw'.weak2 (.keep _ _ _ _ _ _ _ (fun _ h => h) (by simp) (.keep _ _ _ _ _ _ _ (fun _ h => h) (by simp) (.keep _ _ _ _ _ _ _ (fun _ h => h) (by simp) (.keep _ _ _ _ _ _ _ (fun _ h => h) (by simp) (.keep _ _ _ _ _ _ _ (fun _ h => h) (by simp) (.keep _ _ _ _ _ _ _ (fun _ h => h) (by simp) (.keep _ _ _ _ _ _ _ (fun _ h => h) (by simp) (.keep _ _ _ _ _ _ _ (fun _ h => h) (by simp) (.keep _ _ _ _ _ _ _ (fun _ h => h) (by simp) (.nil _))))))))))
  case hbody =>
    rintro l k ⟨st, q, rs⟩ w1 ⟨hsc, hq, h0, hrl⟩ hk hx hge
    dsimp only at hsc hq h0 hrl
    have hat : atN s.l k < s.l.length := (atN_lt s.l k).1 hk
    have hle2 := atN_le s.l (k + 1)
    have hge2 : atN s.l k ≤ atN s.l (k + 1) := Nat.le_add_right _ _
    have hcap := hs.len
    have oks : ∀ {M'} w', Holds w1 (wrs (spM s bd be b2 b4 b5 b6 b7 b8 b9 b10 ⟨st, q, rs⟩)) M' w' → s.ok w' := fun w' hw' => hs.ext (hw'.rebound hx hge)
    generalize wrs (spM s bd be b2 b4 b5 b6 b7 b8 b9 b10 ⟨st, q, rs⟩) = S1 at oks ⊢
    have hyl : (s.mid (atN s.l k) (atN s.l (k + 1))).l = lineB s.l (atN s.l k) := line_raw s k
    have hyn := mid_len s (atN s.l k) (atN s.l (k + 1))
    have hyN : (s.mid (atN s.l k) (atN s.l (k + 1))).l.length = atN s.l (k + 1) - atN s.l k := by
      show ((s.l.take (atN s.l (k + 1))).drop (atN s.l k)).length = _
      rw [List.length_drop, List.length_take]
      omega
    have oky : ∀ {M'} w', Holds w1 S1 M' w' → (s.mid (atN s.l k) (atN s.l (k + 1))).ok w' := fun w' hw' => (oks w' hw').mid hge2 hle2
    show JR _ _ _ _ _ _ _ _ ((12, (s.mid (atN s.l k) (atN s.l (k + 1))).v) :: (11, N (atN s.l k)) :: _) _
    generalize (s.mid (atN s.l k) (atN s.l (k + 1))) = y at hyl hyn hyN oky ⊢
    have n1 : (wendB y.l).length ≤ y.l.length := by
      obtain ⟨m, _, e⟩ := wend_take y.l
      rw [e, List.length_take]
      omega
    have ok1 : ∀ {M'} w', Holds w1 S1 M' w' → (y.hd (wendB y.l)).ok w' := fun w' hw' => wend_ok (oky w' hw')
    have ok2 : ∀ {M'} w', Holds w1 S1 M' w' → ((y.hd (wendB y.l)).hd (cutR (wendB y.l))).ok w' := fun w' hw' => by
      obtain ⟨m, _, e⟩ := cutR_take (wendB y.l)
      rw [e]
      exact Sl8.hd_ok (ok1 w' hw') m
    have c28 : ∀ {M'} w', Holds w1 S1 M' w' → Calls Tryz.prog 21 [y.v].toArray w' fun e w2 => e = .returned (y.hd (wendB y.l)).v ∧ Ext w' w2 := fun w' hw' => mwend_any y w' (oky w' hw') (by omega)
    have c29 : ∀ {M'} w', Holds w1 S1 M' w' → Calls Tryz.prog 20 [(y.hd (wendB y.l)).v, Z [32, 9]].toArray w' fun e w2 => e = .returned ((y.hd (wendB y.l)).hd (cutR (wendB y.l))).v ∧ Ext w' w2 := fun w' hw' => btr_any (y.hd (wendB y.l)) w' (ok1 w' hw') (by show (wendB y.l).length < _; omega)
    refine JR.perm (M' := ⟨b8, Row 24 [accV q (rs.map Sl8.v).length], true⟩ :: ([⟨be, Row 22 [s.v], false⟩, ⟨b10, Row 3 [N (st.getD 0)], true⟩, ⟨b9, Row 4 [.bool st.isSome], true⟩, ⟨b7, Row 9 [Z (45 :: 45 :: (bd ++ [45, 45]))], true⟩, ⟨b6, Row 9 [Z (45 :: 45 :: bd)], true⟩, ⟨b5, Row 25 [.int .i64 0], true⟩, ⟨b4, Row 24 [.slice none 0 0], true⟩, ⟨b2, Row 22 [s.v], true⟩] ++ (accE 22 q (rs.map Sl8.v) ++ flatE rs))) List.perm_middle ?_
    repeat (first | refine JL.q (by first | (apply OQ.callx (vs := [y.v]); exact goes_mwend; exact rfl; exact c28) | (apply OQ.callx (vs := [(y.hd (wendB y.l)).v, Z [32, 9]]); exact goes_btr; exact rfl; exact c29) | (apply OQ.move; exact rfl) | (apply OQ.assign; exact rfl)) rfl ?_ | refine JR.seq ?_ | refine JR.block ?_ | refine JL.nil ?_ | with_reducible refine JE.nextR ?_ | refine JR.region rfl (by first | with_reducible exact lo_roundQ | with_reducible exact lo_then lo_roundQ | with_reducible exact lo_blk lo_roundQ | with_reducible exact lo_then (lo_blk lo_roundQ) | with_reducible exact lo_roundX | with_reducible exact lo_then lo_roundX | with_reducible exact lo_blk lo_roundX | with_reducible exact lo_then (lo_blk lo_roundX) | with_reducible exact lo_then (lo_then (lo_blk lo_roundX))) ?_)
    have hcut : ((y.hd (wendB y.l)).hd (cutR (wendB y.l))).l = cutR (wendB y.l) := rfl
    obtain ⟨p, hp⟩ : ∃ p, decide (cutR (wendB y.l) = 45 :: 45 :: bd) = p := ⟨_, rfl⟩
    obtain ⟨e, he⟩ : ∃ e, decide (cutR (wendB y.l) = 45 :: 45 :: (bd ++ [45, 45])) = e := ⟨_, rfl⟩
    have m1 := mark_1 (bd := bd) (x := wendB y.l)
    have m2 := mark_2 (bd := bd) (x := wendB y.l)
    have m0 := mark_le bd (wendB y.l)
    generalize (y.hd (wendB y.l)).hd (cutR (wendB y.l)) = y2 at hcut ok2 ⊢
    generalize cutR (wendB y.l) = cw at hcut hp he m1 m2
    obtain ⟨MM, hMM⟩ : ∃ MM, MM = ⟨b8, Row 24 [accV q (rs.map Sl8.v).length], true⟩ :: ([⟨be, Row 22 [s.v], false⟩, ⟨b10, Row 3 [N (st.getD 0)], true⟩, ⟨b9, Row 4 [.bool st.isSome], true⟩, ⟨b7, Row 9 [Z (45 :: 45 :: (bd ++ [45, 45]))], true⟩, ⟨b6, Row 9 [Z (45 :: 45 :: bd)], true⟩, ⟨b5, Row 25 [.int .i64 0], true⟩, ⟨b4, Row 24 [.slice none 0 0], true⟩, ⟨b2, Row 22 [s.v], true⟩] ++ (accE 22 q (rs.map Sl8.v) ++ flatE rs)) := ⟨_, rfl⟩
    have h6 : Has MM b6 (Row 9 [Z (45 :: 45 :: bd)]) true := hMM ▸ (by repeat (first | exact Has.here | apply Has.there))
    have h7 : Has MM b7 (Row 9 [Z (45 :: 45 :: (bd ++ [45, 45]))]) true := hMM ▸ (by repeat (first | exact Has.here | apply Has.there))
    have h9 : Has MM b9 (Row 4 [.bool st.isSome]) true := hMM ▸ (by repeat (first | exact Has.here | apply Has.there))
    rw [← hMM]
    let vs : Nat → Nat → Value := fun j _ => match j with
      | 0 => y2.v
      | 1 => Z cw
      | 2 => Z (45 :: 45 :: bd)
      | 3 => .bool p
      | 4 => y2.v
      | 5 => Z cw
      | 6 => Z (45 :: 45 :: (bd ++ [45, 45]))
      | 7 => .bool e
      | 8 => .bool p
      | _ => .bool e
    let Ms : Nat → Nat → List Ent := fun j _ => match j with
      | 10 => MM
      | _ => []
    have cv : ∀ {E : Env} {M' : List Ent} {x : Operand} {dst : Option Tmp} {ty : TypeId} {pos : String} {aft : Array Edge} {g : Option (Nat × Bool)}, ev E x = some y2.v → OQ Tryz.prog 64 E (Holds w1 S1 M') ⟨dst, .convert 22 9 x, ty, pos, aft, g⟩ (Z cw) := fun h => OQ.to (OQ.b2s Tryz.underlying22 Tryz.underlying5 Tryz.underlying9 h ok2) (congrArg Z hcut)
    refine JR.growR (g := ⟨[(13, y2.v), (11, N (atN s.l k)), (12, y.v), (2, Pt b2 0), (4, Pt b4 0), (5, Pt b5 0), (6, Pt b6 0), (7, Pt b7 0), (8, Pt b8 0), (9, Pt b9 0), (10, Pt b10 0)], 11, vs, Ms, (fun j => match j with | 1 => [(0, 30)] | 3 => [(1, 31), (2, 32)] | 5 => [(4, 34)] | 7 => [(5, 35), (6, 36)] | 8 => [(3, 33)] | 9 => [(7, 37)] | _ => []), (fun j => match j with | 2 => [10] | 6 => [10] | _ => []), (fun _ => []), (fun _ => none), fun _ => [], fun _ _ _ => True⟩) [(8, 14), (9, 15)] [10] rfl (by repeat (first | with_reducible exact lo_roundX | with_reducible apply lo_then | with_reducible apply lo_blk)) mixMi (by repeat (first | exact SubE.nil | refine SubE.cons _ _ _ rfl ?_)) (fun _ _ => .nil) (less_nilR _) (by kernel_rfl) (by kernel_rfl) (by kernel_rfl) ?_ ?_
    · refine ⟨?_, ?_, ?_, ?_, ?_, ?_, ?_, ?_, ?_, ?_, trivial⟩
      · (intro x EF MF Q kk; exact JL.q (OQ.move rfl) rfl (JL.nil (kk default nofun)))
      · (intro x EF MF Q kk; exact JL.q (cv rfl) rfl (JL.nil (kk default nofun)))
      · (intro x EF MF Q kk; exact JL.q (OQ.load stC12 rfl (has_left (has_left h6)) (Row.cell (v := Z (45 :: 45 :: bd)) rfl)) rfl (JL.nil (kk default nofun)))
      · (intro x EF MF Q kk; exact JL.q (OQ.eqSB (l := cw) (r := 45 :: 45 :: bd) rfl rfl hp) rfl (JL.nil (kk default nofun)))
      · (intro x EF MF Q kk; exact JL.q (OQ.move rfl) rfl (JL.nil (kk default nofun)))
      · (intro x EF MF Q kk; exact JL.q (cv rfl) rfl (JL.nil (kk default nofun)))
      · (intro x EF MF Q kk; exact JL.q (OQ.load stC12 rfl (has_left (has_left h7)) (Row.cell (v := Z (45 :: 45 :: (bd ++ [45, 45]))) rfl)) rfl (JL.nil (kk default nofun)))
      · (intro x EF MF Q kk; exact JL.q (OQ.eqSB (l := cw) (r := 45 :: 45 :: (bd ++ [45, 45])) rfl rfl he) rfl (JL.nil (kk default nofun)))
      · (intro x EF MF Q kk; exact JL.q (OQ.assign rfl) rfl (JL.nil (kk default nofun)))
      · (intro x EF MF Q kk; exact JL.q (OQ.assign rfl) rfl (JL.nil (kk default nofun)))
    intro x hxx
    refine JE.less (M' := MM) (less_nilL MM) ?_
    show JE _ _ _ _ _ [(14, .bool p), (15, .bool e), (13, y2.v), (11, N (atN s.l k)), (12, y.v), (2, Pt b2 0), (4, Pt b4 0), (5, Pt b5 0), (6, Pt b6 0), (7, Pt b7 0), (8, Pt b8 0), (9, Pt b9 0), (10, Pt b10 0)] MM
    clear hxx x vs Ms cv ok2 hcut c28 c29 ok1
    have hmk : (markB bd (wendB y.l) = 0 ∧ p = false ∧ e = false) ∨ (markB bd (wendB y.l) = 1 ∧ p = true ∧ e = false) ∨ (markB bd (wendB y.l) = 2 ∧ p = false ∧ e = true) := by
      rcases m0 with h | h | h
      · refine .inl ⟨h, hp ▸ decide_eq_false fun k => ?_, he ▸ decide_eq_false fun k => ?_⟩
        · rw [m1.2 k] at h; cases h
        · rw [m2.2 k] at h; cases h
      · refine .inr (.inl ⟨h, hp ▸ decide_eq_true (m1.1 h), he ▸ decide_eq_false fun k => ?_⟩)
        rw [m2.2 k] at h; cases h
      · refine .inr (.inr ⟨h, hp ▸ decide_eq_false fun k => ?_, he ▸ decide_eq_true (m2.1 h)⟩)
        rw [m1.2 k] at h; cases h
    rw [hyl] at hmk
    clear m1 m2 m0 hp he
    have hnext : atN s.l (k + 1) = atN s.l k + rawN (s.l.drop (atN s.l k)) := rfl
    have hsum : atN s.l k + y.l.length = atN s.l (k + 1) := by omega
    refine JE.nextR (JR.seq (JR.seq (JR.region rfl (by repeat (first | with_reducible exact lo_roundX | with_reducible apply lo_then | with_reducible apply lo_blk)) ?_)))
    cases st with
    | none =>
      obtain rfl : rs = [] := by simpa using hsc.1
      have hsc : ScanB bd s.l (atN s.l k) none [] := hsc
      rcases hmk with ⟨hm, rfl, rfl⟩ | ⟨hm, rfl, rfl⟩ | ⟨hm, rfl, rfl⟩
      · repeat (first | refine JL.q (by first | (apply OQ.load; exact boC; exact rfl; exact h9; exact (Row.cell (v := .bool false) rfl)) | (apply OQ.pick_f; exact rfl; exact rfl) | (apply OQ.move; exact rfl)) rfl ?_ | refine JL.nil ?_ | with_reducible refine JE.nextR ?_ | refine JL.gskip rfl rfl rfl rfl ?_ | refine JL.gskipU rfl rfl rfl rfl ?_)
        refine JR.cond rfl (fun h => by cases h) (fun _ => ?_)
        repeat (first | refine JL.q (by first | (apply OQ.load; exact boC; exact rfl; exact h9; exact (Row.cell (v := .bool false) rfl)) | (apply OQ.pick_f; exact rfl; exact rfl) | (apply OQ.move; exact rfl)) rfl ?_ | refine JR.seq ?_ | refine JL.nil ?_ | with_reducible refine JE.nextR ?_ | refine JR.skip ?_ | refine JL.gskip rfl rfl rfl rfl ?_ | refine JR.region rfl (by first | with_reducible exact lo_roundQ | with_reducible exact lo_then lo_roundQ | with_reducible exact lo_blk lo_roundQ | with_reducible exact lo_then (lo_blk lo_roundQ) | with_reducible exact lo_roundX | with_reducible exact lo_then lo_roundX | with_reducible exact lo_blk lo_roundX | with_reducible exact lo_then (lo_blk lo_roundX) | with_reducible exact lo_then (lo_then (lo_blk lo_roundX))) ?_)
        refine JR.cond rfl (fun h => by cases h) (fun _ => ?_)
        repeat (first | refine JL.q (by (apply OQ.move; exact rfl)) rfl ?_ | refine JR.seq ?_ | refine JL.nil ?_ | with_reducible refine JE.nextR ?_ | refine JR.skip ?_ | refine JR.region rfl (by first | with_reducible exact lo_roundQ | with_reducible exact lo_then lo_roundQ | with_reducible exact lo_blk lo_roundQ | with_reducible exact lo_then (lo_blk lo_roundQ) | with_reducible exact lo_roundX | with_reducible exact lo_then lo_roundX | with_reducible exact lo_blk lo_roundX | with_reducible exact lo_then (lo_blk lo_roundX) | with_reducible exact lo_then (lo_then (lo_blk lo_roundX))) ?_)
        refine JR.cond rfl (fun h => by cases h) (fun _ => ?_)
        repeat (first | with_reducible refine JE.blk_normal ?_ | refine JR.skip ?_)
        subst hMM
        refine JE.perm (M' := spM s bd be b2 b4 b5 b6 b7 b8 b9 b10 ⟨none, q, []⟩) (List.perm_middle (l₁ := spA s be b9 b10 ⟨none, q, []⟩)).symm ?_
        exact JE.roundN ⟨none, q, []⟩ ⟨scan_skip hat hsc (by rw [hm]; decide), fun _ => rfl, by simp, Nat.zero_le _⟩ (Less.refl _)
      · repeat (first | refine JL.q (by first | (apply OQ.load; exact boC; exact rfl; exact h9; exact (Row.cell (v := .bool false) rfl)) | (apply OQ.pick_f; exact rfl; exact rfl) | (apply OQ.move; exact rfl)) rfl ?_ | refine JL.nil ?_ | with_reducible refine JE.nextR ?_ | refine JL.gskip rfl rfl rfl rfl ?_ | refine JL.gskipU rfl rfl rfl rfl ?_)
        refine JR.cond rfl (fun h => by cases h) (fun _ => ?_)
        repeat (first | refine JL.q (by first | (apply OQ.load; exact boC; exact rfl; exact h9; exact (Row.cell (v := .bool false) rfl)) | (apply OQ.pick_f; exact rfl; exact rfl) | (apply OQ.move; exact rfl)) rfl ?_ | refine JR.seq ?_ | refine JL.nil ?_ | with_reducible refine JE.nextR ?_ | refine JR.skip ?_ | refine JL.gskip rfl rfl rfl rfl ?_ | refine JR.region rfl (by first | with_reducible exact lo_roundQ | with_reducible exact lo_then lo_roundQ | with_reducible exact lo_blk lo_roundQ | with_reducible exact lo_then (lo_blk lo_roundQ) | with_reducible exact lo_roundX | with_reducible exact lo_then lo_roundX | with_reducible exact lo_blk lo_roundX | with_reducible exact lo_then (lo_blk lo_roundX) | with_reducible exact lo_then (lo_then (lo_blk lo_roundX))) ?_)
        refine JR.cond rfl (fun h => by cases h) (fun _ => ?_)
        repeat (first | refine JL.q (by (apply OQ.move; exact rfl)) rfl ?_ | refine JR.seq ?_ | refine JL.nil ?_ | with_reducible refine JE.nextR ?_ | refine JR.skip ?_ | refine JR.region rfl (by first | with_reducible exact lo_roundQ | with_reducible exact lo_then lo_roundQ | with_reducible exact lo_blk lo_roundQ | with_reducible exact lo_then (lo_blk lo_roundQ) | with_reducible exact lo_roundX | with_reducible exact lo_then lo_roundX | with_reducible exact lo_blk lo_roundX | with_reducible exact lo_then (lo_blk lo_roundX) | with_reducible exact lo_then (lo_then (lo_blk lo_roundX))) ?_)
        refine JR.cond rfl (fun _ => ?_) (fun h => by cases h)
        repeat (first | refine JL.q (by first | (apply OQ.to; exact (OQ.addN (a := atN s.l k) (b := y.l.length) rfl rfl (by omega)); exact (congrArg N hsum)) | (apply OQ.move; exact rfl) | (apply OQ.len; exact rfl; exact rfl)) rfl ?_ | refine JR.region rfl (by first | with_reducible exact lo_roundQ | with_reducible exact lo_then lo_roundQ | with_reducible exact lo_blk lo_roundQ | with_reducible exact lo_then (lo_blk lo_roundQ) | with_reducible exact lo_roundX | with_reducible exact lo_then lo_roundX | with_reducible exact lo_blk lo_roundX | with_reducible exact lo_then (lo_blk lo_roundX) | with_reducible exact lo_then (lo_then (lo_blk lo_roundX))) ?_)
        subst hMM
        refine JL.store_eq (v := .bool true) (r' := [.bool true]) boS rfl rfl rfl rfl (by repeat (first | exact Upd.here | apply Upd.there)) (by decide) rfl ?_
        refine JL.store_eq (v := N (atN s.l (k + 1))) (r' := [N (atN s.l (k + 1))]) inS12 rfl rfl rfl rfl (by repeat (first | exact Upd.here | apply Upd.there)) (by simp) rfl ?_
        repeat (first | refine JL.nil ?_ | with_reducible refine JE.blk_normal ?_)
        refine JE.perm (M' := spM s bd be b2 b4 b5 b6 b7 b8 b9 b10 ⟨some (atN s.l (k + 1)), q, []⟩) (List.perm_middle (l₁ := spA s be b9 b10 ⟨some (atN s.l (k + 1)), q, []⟩)).symm ?_
        exact JE.roundN ⟨some (atN s.l (k + 1)), q, []⟩ ⟨scan_met hat hsc hm, fun _ => rfl, by simp, Nat.zero_le _⟩ (Less.refl _)
      · repeat (first | refine JL.q (by first | (apply OQ.load; exact boC; exact rfl; exact h9; exact (Row.cell (v := .bool false) rfl)) | (apply OQ.pick_f; exact rfl; exact rfl) | (apply OQ.move; exact rfl)) rfl ?_ | refine JL.nil ?_ | with_reducible refine JE.nextR ?_ | refine JL.gskip rfl rfl rfl rfl ?_ | refine JL.gskipU rfl rfl rfl rfl ?_)
        refine JR.cond rfl (fun h => by cases h) (fun _ => ?_)
        repeat (first | refine JL.q (by first | (apply OQ.load; exact boC; exact rfl; exact h9; exact (Row.cell (v := .bool false) rfl)) | (apply OQ.pick_f; exact rfl; exact rfl) | (apply OQ.move; exact rfl)) rfl ?_ | refine JR.seq ?_ | refine JL.nil ?_ | with_reducible refine JE.nextR ?_ | refine JR.skip ?_ | refine JL.gskip rfl rfl rfl rfl ?_ | refine JR.region rfl (by first | with_reducible exact lo_roundQ | with_reducible exact lo_then lo_roundQ | with_reducible exact lo_blk lo_roundQ | with_reducible exact lo_then (lo_blk lo_roundQ) | with_reducible exact lo_roundX | with_reducible exact lo_then lo_roundX | with_reducible exact lo_blk lo_roundX | with_reducible exact lo_then (lo_blk lo_roundX) | with_reducible exact lo_then (lo_then (lo_blk lo_roundX))) ?_)
        refine JR.cond rfl (fun h => by cases h) (fun _ => ?_)
        repeat (first | refine JL.q (by (apply OQ.move; exact rfl)) rfl ?_ | refine JR.seq ?_ | refine JL.nil ?_ | with_reducible refine JE.nextR ?_ | refine JR.skip ?_ | refine JR.region rfl (by first | with_reducible exact lo_roundQ | with_reducible exact lo_then lo_roundQ | with_reducible exact lo_blk lo_roundQ | with_reducible exact lo_then (lo_blk lo_roundQ) | with_reducible exact lo_roundX | with_reducible exact lo_then lo_roundX | with_reducible exact lo_blk lo_roundX | with_reducible exact lo_then (lo_blk lo_roundX) | with_reducible exact lo_then (lo_then (lo_blk lo_roundX))) ?_)
        refine JR.cond rfl (fun h => by cases h) (fun _ => ?_)
        repeat (first | with_reducible refine JE.blk_normal ?_ | refine JR.skip ?_)
        subst hMM
        refine JE.perm (M' := spM s bd be b2 b4 b5 b6 b7 b8 b9 b10 ⟨none, q, []⟩) (List.perm_middle (l₁ := spA s be b9 b10 ⟨none, q, []⟩)).symm ?_
        exact JE.roundN ⟨none, q, []⟩ ⟨scan_skip hat hsc (by rw [hm]; decide), fun _ => rfl, by simp, Nat.zero_le _⟩ (Less.refl _)
    | some bg =>
      have hble : bg ≤ atN s.l k := scan_le hsc
      by_cases hm0 : markB bd (wendB (lineB s.l (atN s.l k))) = 0
      · obtain ⟨hm, rfl, rfl⟩ : markB bd (wendB (lineB s.l (atN s.l k))) = 0 ∧ p = false ∧ e = false := by
          rcases hmk with h | h | h
          · exact h
          · rw [h.1] at hm0; cases hm0
          · rw [h.1] at hm0; cases hm0
        repeat (first | refine JL.q (by first | (apply OQ.load; exact boC; exact rfl; exact h9; exact (Row.cell (v := .bool true) rfl)) | (apply OQ.pick_t; exact rfl; exact rfl) | (apply OQ.pick_f; exact rfl; exact rfl) | (apply OQ.move; exact rfl)) rfl ?_ | refine JL.nil ?_ | with_reducible refine JE.nextR ?_ | refine JL.gon rfl rfl ?_)
        refine JR.cond rfl (fun h => by cases h) (fun _ => ?_)
        repeat (first | refine JL.q (by first | (apply OQ.load; exact boC; exact rfl; exact h9; exact (Row.cell (v := .bool true) rfl)) | (apply OQ.pick_t; exact rfl; exact rfl) | (apply OQ.move; exact rfl)) rfl ?_ | refine JR.seq ?_ | refine JL.nil ?_ | with_reducible refine JE.nextR ?_ | refine JR.skip ?_ | refine JL.gon rfl rfl ?_ | refine JR.region rfl (by first | with_reducible exact lo_roundQ | with_reducible exact lo_then lo_roundQ | with_reducible exact lo_blk lo_roundQ | with_reducible exact lo_then (lo_blk lo_roundQ) | with_reducible exact lo_roundX | with_reducible exact lo_then lo_roundX | with_reducible exact lo_blk lo_roundX | with_reducible exact lo_then (lo_blk lo_roundX) | with_reducible exact lo_then (lo_then (lo_blk lo_roundX))) ?_)
        refine JR.cond rfl (fun h => by cases h) (fun _ => ?_)
        repeat (first | refine JL.q (by (apply OQ.move; exact rfl)) rfl ?_ | refine JR.seq ?_ | refine JL.nil ?_ | with_reducible refine JE.nextR ?_ | refine JR.skip ?_ | refine JR.region rfl (by first | with_reducible exact lo_roundQ | with_reducible exact lo_then lo_roundQ | with_reducible exact lo_blk lo_roundQ | with_reducible exact lo_then (lo_blk lo_roundQ) | with_reducible exact lo_roundX | with_reducible exact lo_then lo_roundX | with_reducible exact lo_blk lo_roundX | with_reducible exact lo_then (lo_blk lo_roundX) | with_reducible exact lo_then (lo_then (lo_blk lo_roundX))) ?_)
        refine JR.cond rfl (fun h => by cases h) (fun _ => ?_)
        repeat (first | with_reducible refine JE.blk_normal ?_ | refine JR.skip ?_)
        subst hMM
        refine JE.perm (M' := spM s bd be b2 b4 b5 b6 b7 b8 b9 b10 ⟨some bg, q, rs⟩) (List.perm_middle (l₁ := spA s be b9 b10 ⟨some bg, q, rs⟩)).symm ?_
        exact JE.roundN ⟨some bg, q, rs⟩ ⟨scan_more hat hsc hm, hq, h0, by show rs.length ≤ k + 1; omega⟩ (Less.refl _)
      · have hmk : (markB bd (wendB (lineB s.l (atN s.l k))) = 1 ∧ p = true ∧ e = false) ∨ (markB bd (wendB (lineB s.l (atN s.l k))) = 2 ∧ p = false ∧ e = true) := by
          rcases hmk with h | h | h
          · exact absurd h.1 hm0
          · exact .inl h
          · exact .inr h
        -- what stands between
        have okx : ∀ {M'} w', Holds w1 S1 M' w' → (s.mid bg (atN s.l k)).ok w' := fun w' hw' => (oks w' hw').mid hble (by omega)
        have hxl : (s.mid bg (atN s.l k)).l = (s.l.take (atN s.l k)).drop bg := rfl
        have hxn := mid_len s bg (atN s.l k)
        have hmid : ∀ {E : Env} {M' : List Ent} {x y z : Operand} {dst : Option Tmp} {ty : TypeId} {pos : String} {aft : Array Edge} {g : Option (Nat × Bool)}, ev E x = some s.v → ev E y = some (N bg) → ev E z = some (N (atN s.l k)) → OQ Tryz.prog 64 E (Holds w1 S1 M') ⟨dst, .slice 22 x (some y) (some z) none, ty, pos, aft, g⟩ (s.mid bg (atN s.l k)).v := fun h1 h2 h3 => OQ.mid8 (s := s) (lo := bg) (hi := atN s.l k) Tryz.underlying22 u8s h1 h2 h3 hble (by omega) hcap
        generalize s.mid bg (atN s.l k) = x at okx hxl hxn hmid
        have hun : (wendB x.l).length ≤ x.l.length := by
          obtain ⟨m, _, e⟩ := wend_take x.l
          rw [e, List.length_take]
          omega
        have oku : ∀ {M'} w', Holds w1 S1 M' w' → (x.hd (wendB x.l)).ok w' := fun w' hw' => wend_ok (okx w' hw')
        have c50 : ∀ {M'} w', Holds w1 S1 M' w' → Calls Tryz.prog 21 [x.v].toArray w' fun e w2 => e = .returned (x.hd (wendB x.l)).v ∧ Ext w' w2 := fun w' hw' => mwend_any x w' (okx w' hw') (by omega)
        have hul : (x.hd (wendB x.l)).l = wendB x.l := rfl
        generalize x.hd (wendB x.l) = u at oku c50 hul
        have hulen : u.l.length ≤ 1073741824 := by rw [hul]; omega
        have c51 : ∀ {M'} w', Holds w1 S1 M' w' → Calls Tryz.prog 22 [u.v].toArray w' fun e w2 => ∃ z : { z : Acc // z = none → u.l = [] }, e = .returned (accV z.1 u.l.length) ∧ Holds w' [] (accE 5 z.1 (u.l.map U8)) w2 := fun w' hw' => (clone_any u w' (oku w' hw') (by omega)).mono fun e w2 ⟨z, h1, h2, h3⟩ => ⟨⟨z, h2⟩, h1, h3⟩
        have hrsl : (rs.map Sl8.v).length ≤ 1073741825 := by rw [List.length_map]; omega
        have hq1 : q = none → rs.map Sl8.v = [] := fun h => by rw [hq h]; rfl
        subst hMM
        have inh : Inhabited { z : Acc // z = none → u.l = [] } := ⟨⟨some (0, 0), nofun⟩⟩
        let vs : Nat → { z : Acc // z = none → u.l = [] } × Acc × Nat → Value := fun j y => match j with
          | 0 => accV q (rs.map Sl8.v).length
          | 1 => s.v
          | 2 => N bg
          | 3 => N (atN s.l k)
          | 4 => x.v
          | 5 => u.v
          | 6 => accV y.1.1 u.l.length
          | 7 => .slice (some ⟨y.2.2, 0, none⟩) 1 1
          | _ => accV y.2.1 (rs.map Sl8.v ++ [accV y.1.1 u.l.length]).length
        let Ms : Nat → { z : Acc // z = none → u.l = [] } × Acc × Nat → List Ent := fun j y => match j with
          | 6 => accE 5 y.1.1 (u.l.map U8)
          | 7 => [⟨y.2.2, Row 22 [accV y.1.1 u.l.length], true⟩]
          | 8 => accE 22 y.2.1 (rs.map Sl8.v ++ [accV y.1.1 u.l.length])
          | 9 => [⟨b8, Row 24 [accV y.2.1 (rs.map Sl8.v ++ [accV y.1.1 u.l.length]).length], true⟩]
          | 10 => [⟨b8, Row 24 [accV q (rs.map Sl8.v).length], true⟩]
          | 11 => [⟨be, Row 22 [s.v], false⟩, ⟨b10, Row 3 [N bg], true⟩, ⟨b9, Row 4 [.bool true], true⟩, ⟨b7, Row 9 [Z (45 :: 45 :: (bd ++ [45, 45]))], true⟩, ⟨b6, Row 9 [Z (45 :: 45 :: bd)], true⟩, ⟨b5, Row 25 [.int .i64 0], true⟩, ⟨b4, Row 24 [.slice none 0 0], true⟩, ⟨b2, Row 22 [s.v], true⟩]
          | 12 => accE 22 q (rs.map Sl8.v)
          | 13 => flatE rs
          | _ => []
        have h2 : Has ([⟨be, Row 22 [s.v], false⟩, ⟨b10, Row 3 [N bg], true⟩, ⟨b9, Row 4 [.bool true], true⟩, ⟨b7, Row 9 [Z (45 :: 45 :: (bd ++ [45, 45]))], true⟩, ⟨b6, Row 9 [Z (45 :: 45 :: bd)], true⟩, ⟨b5, Row 25 [.int .i64 0], true⟩, ⟨b4, Row 24 [.slice none 0 0], true⟩, ⟨b2, Row 22 [s.v], true⟩]) b2 (Row 22 [s.v]) true := (by repeat (first | exact Has.here | apply Has.there))
        have h10 : Has ([⟨be, Row 22 [s.v], false⟩, ⟨b10, Row 3 [N bg], true⟩, ⟨b9, Row 4 [.bool true], true⟩, ⟨b7, Row 9 [Z (45 :: 45 :: (bd ++ [45, 45]))], true⟩, ⟨b6, Row 9 [Z (45 :: 45 :: bd)], true⟩, ⟨b5, Row 25 [.int .i64 0], true⟩, ⟨b4, Row 24 [.slice none 0 0], true⟩, ⟨b2, Row 22 [s.v], true⟩]) b10 (Row 3 [N bg]) true := (by repeat (first | exact Has.here | apply Has.there))
        let Rl : Nat → { z : Acc // z = none → u.l = [] } × Acc × Nat → { z : Acc // z = none → u.l = [] } × Acc × Nat → Prop := fun i a b => match i with
          | 9 => a.1 = b.1 ∧ a.2.1 = b.2.1
          | 8 => a.1 = b.1 ∧ a.2.1 ≠ none
          | _ => a.1 = b.1
        rcases hmk with ⟨hm, rfl, rfl⟩ | ⟨hm, rfl, rfl⟩
        · repeat (first | refine JL.q (by first | (apply OQ.load; exact boC; exact rfl; exact h9; exact (Row.cell (v := .bool true) rfl)) | (apply OQ.pick_t; exact rfl; exact rfl) | (apply OQ.move; exact rfl)) rfl ?_ | refine JL.nil ?_ | with_reducible refine JE.nextR ?_ | refine JL.gon rfl rfl ?_ | refine JL.gskip rfl rfl rfl rfl ?_)
          refine JR.cond rfl (fun _ => ?_) (fun h => by cases h)
          refine JR.growR (g := ⟨[(11, N (atN s.l k)), (12, y.v), (2, Pt b2 0), (4, Pt b4 0), (5, Pt b5 0), (6, Pt b6 0), (7, Pt b7 0), (8, Pt b8 0), (9, Pt b9 0), (10, Pt b10 0), (14, .bool true), (15, .bool false)], 14, vs, Ms, (fun j => match j with | 4 => [(1, 46), (2, 47), (3, 48)] | 5 => [(4, 49)] | 6 => [(5, 50)] | 7 => [(6, 51)] | 8 => [(0, 45), (7, 52)] | 9 => [(8, 53)] | _ => []), (fun j => match j with | 0 => [10] | 1 => [11] | 2 => [11] | 8 => [12, 7] | 9 => [10] | _ => []), (fun j => match j with | 8 => [12, 7] | 9 => [10] | _ => []), (fun j => match j with | 7 => some 6 | 8 => some 7 | 9 => some 8 | _ => none), fun _ => [], Rl⟩) [] [9, 11, 8, 13, 6] rfl (by repeat (first | with_reducible exact lo_roundX | with_reducible apply lo_then | with_reducible apply lo_blk)) mixMi (by repeat (first | exact SubE.nil | refine SubE.cons _ _ _ rfl ?_)) (fun _ _ => .nil) ?_ (by kernel_rfl) (by kernel_rfl) (by kernel_rfl) ?_ ?_
          · exact less_eq (by show _ ++ (_ ++ (_ ++ (flatE rs ++ []))) = _; rw [List.append_nil]; rfl)
          · refine ⟨?_, ?_, ?_, ?_, ?_, ?_, ?_, ?_, ?_, ?_, trivial⟩
            · (intro z EF MF Q kk; exact JL.q (OQ.load lsC rfl .here (Row.cell (v := accV q (rs.map Sl8.v).length) rfl)) rfl (JL.nil (kk default nofun)))
            · (intro z EF MF Q kk; exact JL.q (OQ.load bsC8 rfl (has_left (has_left h2)) (Row.cell (v := s.v) rfl)) rfl (JL.nil (kk default nofun)))
            · (intro z EF MF Q kk; exact JL.q (OQ.load inC12 rfl (has_left (has_left h10)) (Row.cell (v := N bg) rfl)) rfl (JL.nil (kk default nofun)))
            · (intro z EF MF Q kk; exact JL.q (OQ.move rfl) rfl (JL.nil (kk default nofun)))
            · (intro z EF MF Q kk; exact JL.q (hmid rfl rfl rfl) rfl (JL.nil (kk default nofun)))
            · (intro z EF MF Q kk; exact JL.q (OQ.callx (vs := [x.v]) goes_mwend rfl c50) rfl (JL.nil (kk default nofun)))
            · (intro z EF MF Q kk; exact JL.callg (vs := [u.v]) (ι := { z : Acc // z = none → u.l = [] }) (fun z => accV z.1 u.l.length) (fun z => accE 5 z.1 (u.l.map U8)) goes_clone rfl rfl (fun z => accE_wr _ _ _) c51 fun z => JL.nil (kk (z, default, 0) nofun))
            · (intro z EF MF Q kk; exact JL.lit1 (v := accV (z 6).1.1 u.l.length) Tryz.underlying24 slE12 rfl rfl (accV_cells _ _) rfl fun bl _ => JL.nil (kk ((z 6).1, default, bl) (fun k h => by cases h; rfl)))
            · intro z EF MF Q kk
              show JL _ _ _ _ _ _ _ _ ((accE 22 q (rs.map Sl8.v) ++ ([⟨(z 7).2.2, Row 22 [accV (z 7).1.1 u.l.length], true⟩] ++ [])) ++ MF)
              rw [List.append_assoc]
              refine JL.appendQ (xs := rs.map Sl8.v) (cs := [accV (z 7).1.1 u.l.length]) (m := 1) (ad := some ⟨(z 7).2.2, 0, none⟩) (sc := 1) q Tryz.underlying24 slE12 hq1 rfl rfl rfl (fun w' hw' => ?_) (fun v hv => by rw [List.mem_singleton.1 hv]; exact accV_one _ _) rfl (by omega) (by omega) rfl fun q' hq' => ?_
              · obtain ⟨o, ho, hA⟩ := hw'.get (b := (z 7).2.2) (A := Row 22 [accV (z 7).1.1 u.l.length]) (wr := true) (has_right _ .here)
                exact Reads.block ho (Row.all _ hA)
              · exact JL.nil (JE.less (less_app2 (.drop _ _ _ (Less.refl _)) _) (kk ((z 7).1, q', 0) (fun k h => by cases h; exact ⟨rfl, fun h => by have := hq' h; simp at this⟩)))
            · (intro z EF MF Q kk; exact JL.store_eq (v := accV (z 8).2.1 (rs.map Sl8.v ++ [accV (z 8).1.1 u.l.length]).length) (r' := [accV (z 8).2.1 (rs.map Sl8.v ++ [accV (z 8).1.1 u.l.length]).length]) lsS rfl rfl (accV_one _ _) (accV_cells _ _) .here (by simp) rfl (JL.nil (kk ((z 8).1, (z 8).2.1, 0) (fun k h => by cases h; exact ⟨rfl, rfl⟩))))
          intro z hz
          have z7 : (z 7).1 = (z 6).1 := hz 7 6 (by decide) rfl
          have z8 : (z 8).1 = (z 7).1 ∧ (z 8).2.1 ≠ none := hz 8 7 (by decide) rfl
          have z9 : (z 9).1 = (z 8).1 ∧ (z 9).2.1 = (z 8).2.1 := hz 9 8 (by decide) rfl
          obtain ⟨c, hc⟩ : ∃ c, (z 6).1 = c := ⟨_, rfl⟩
          have e8 : (z 8).1 = c := z8.1.trans (z7.trans hc)
          have e9 : (z 9).1 = c := z9.1.trans e8
          obtain ⟨q', hq'⟩ : ∃ q', (z 8).2.1 = q' := ⟨_, rfl⟩
          have e9' : (z 9).2.1 = q' := z9.2.trans hq'
          have emap : (rs ++ [accS c.1 u.l]).map Sl8.v = rs.map Sl8.v ++ [accV c.1 u.l.length] := by rw [List.map_append, List.map_cons, List.map_nil, accS_v]
          show JE _ _ _ _ _ [(11, N (atN s.l k)), (12, y.v), (2, Pt b2 0), (4, Pt b4 0), (5, Pt b5 0), (6, Pt b6 0), (7, Pt b7 0), (8, Pt b8 0), (9, Pt b9 0), (10, Pt b10 0), (14, .bool true), (15, .bool false)] _
          refine JE.less (M' := ⟨b8, Row 24 [accV q' ((rs ++ [accS c.1 u.l]).map Sl8.v).length], true⟩ :: ([⟨be, Row 22 [s.v], false⟩, ⟨b10, Row 3 [N bg], true⟩, ⟨b9, Row 4 [.bool true], true⟩, ⟨b7, Row 9 [Z (45 :: 45 :: (bd ++ [45, 45]))], true⟩, ⟨b6, Row 9 [Z (45 :: 45 :: bd)], true⟩, ⟨b5, Row 25 [.int .i64 0], true⟩, ⟨b4, Row 24 [.slice none 0 0], true⟩, ⟨b2, Row 22 [s.v], true⟩] ++ (accE 22 q' ((rs ++ [accS c.1 u.l]).map Sl8.v) ++ flatE (rs ++ [accS c.1 u.l])))) ?_ ?_
          · show Less _ ([⟨b8, Row 24 [accV (z 9).2.1 (rs.map Sl8.v ++ [accV (z 9).1.1 u.l.length]).length], true⟩] ++ ([⟨be, Row 22 [s.v], false⟩, ⟨b10, Row 3 [N bg], true⟩, ⟨b9, Row 4 [.bool true], true⟩, ⟨b7, Row 9 [Z (45 :: 45 :: (bd ++ [45, 45]))], true⟩, ⟨b6, Row 9 [Z (45 :: 45 :: bd)], true⟩, ⟨b5, Row 25 [.int .i64 0], true⟩, ⟨b4, Row 24 [.slice none 0 0], true⟩, ⟨b2, Row 22 [s.v], true⟩] ++ (accE 22 (z 8).2.1 (rs.map Sl8.v ++ [accV (z 8).1.1 u.l.length]) ++ (flatE rs ++ (accE 5 (z 6).1.1 (u.l.map U8) ++ [])))))
            rw [e9, e9', e8, hq', hc, emap, List.append_nil]
            exact .keep _ _ _ _ _ _ (fun _ h => h) (less_app2 (less_app2 (flat_snoc rs c.1 u.l) _) _)
          have hq2 : q' = none → rs ++ [accS c.1 u.l] = [] := fun h => absurd (hq'.trans h) z8.2
          have h02 : ∀ y ∈ rs ++ [accS c.1 u.l], y.ad = none → y.l = [] := fun y hy => by
            rcases List.mem_append.1 hy with h | h
            · exact h0 y h
            · rw [List.mem_singleton.1 h]; exact accS_none
          have hmap : (rs ++ [accS c.1 u.l]).map Sl8.l = rs.map Sl8.l ++ [wendB ((s.l.take (atN s.l k)).drop bg)] := by
            rw [List.map_append, List.map_cons, List.map_nil, accS_l c.2, hul, hxl]
          have hlen2 : (rs ++ [accS c.1 u.l]).length = rs.length + 1 := List.length_append
          generalize rs ++ [accS c.1 u.l] = rs2 at hq2 h02 hmap hlen2 ⊢
          clear z7 z8 z9 e8 e9 hc hq' e9' emap hz z vs Ms Rl
          refine JE.nextR ?_
          repeat (first | refine JL.q (by first | (apply OQ.load; exact boC; exact rfl; exact (by repeat (first | exact Has.here | apply Has.there)); exact (Row.cell (v := .bool true) rfl)) | (apply OQ.pick_t; exact rfl; exact rfl) | (apply OQ.move; exact rfl)) rfl ?_ | refine JR.seq ?_ | refine JL.nil ?_ | with_reducible refine JE.nextR ?_ | refine JL.gon rfl rfl ?_ | refine JR.region rfl (by first | with_reducible exact lo_roundQ | with_reducible exact lo_then lo_roundQ | with_reducible exact lo_blk lo_roundQ | with_reducible exact lo_then (lo_blk lo_roundQ) | with_reducible exact lo_roundX | with_reducible exact lo_then lo_roundX | with_reducible exact lo_blk lo_roundX | with_reducible exact lo_then (lo_blk lo_roundX) | with_reducible exact lo_then (lo_then (lo_blk lo_roundX))) ?_)
          refine JR.cond rfl (fun h => by cases h) (fun _ => ?_)
          repeat (first | refine JL.q (by (apply OQ.move; exact rfl)) rfl ?_ | refine JR.seq ?_ | refine JL.nil ?_ | with_reducible refine JE.nextR ?_ | refine JR.skip ?_ | refine JR.region rfl (by first | with_reducible exact lo_roundQ | with_reducible exact lo_then lo_roundQ | with_reducible exact lo_blk lo_roundQ | with_reducible exact lo_then (lo_blk lo_roundQ) | with_reducible exact lo_roundX | with_reducible exact lo_then lo_roundX | with_reducible exact lo_blk lo_roundX | with_reducible exact lo_then (lo_blk lo_roundX) | with_reducible exact lo_then (lo_then (lo_blk lo_roundX))) ?_)
          refine JR.cond rfl (fun _ => ?_) (fun h => by cases h)
          repeat (first | refine JL.q (by first | (apply OQ.to; exact (OQ.addN (a := atN s.l k) (b := y.l.length) rfl rfl (by omega)); exact (congrArg N hsum)) | (apply OQ.move; exact rfl) | (apply OQ.len; exact rfl; exact rfl)) rfl ?_ | refine JR.region rfl (by first | with_reducible exact lo_roundQ | with_reducible exact lo_then lo_roundQ | with_reducible exact lo_blk lo_roundQ | with_reducible exact lo_then (lo_blk lo_roundQ) | with_reducible exact lo_roundX | with_reducible exact lo_then lo_roundX | with_reducible exact lo_blk lo_roundX | with_reducible exact lo_then (lo_blk lo_roundX) | with_reducible exact lo_then (lo_then (lo_blk lo_roundX))) ?_)
          refine JL.store_eq (v := .bool true) (r' := [.bool true]) boS rfl rfl rfl rfl (by repeat (first | exact Upd.here | apply Upd.there)) (by decide) rfl ?_
          refine JL.store_eq (v := N (atN s.l (k + 1))) (r' := [N (atN s.l (k + 1))]) inS12 rfl rfl rfl rfl (by repeat (first | exact Upd.here | apply Upd.there)) (by simp) rfl ?_
          refine JL.nil ?_
          refine JE.blk_normal ?_
          refine JE.perm (M' := spM s bd be b2 b4 b5 b6 b7 b8 b9 b10 ⟨some (atN s.l (k + 1)), q', rs2⟩) (List.perm_middle (l₁ := spA s be b9 b10 ⟨some (atN s.l (k + 1)), q', rs2⟩)).symm ?_
          refine JE.roundN ⟨some (atN s.l (k + 1)), q', rs2⟩ ⟨?_, hq2, h02, by show rs2.length ≤ k + 1; omega⟩ (Less.refl _)
          show ScanB bd s.l (atN s.l (k + 1)) (some (atN s.l (k + 1))) (rs2.map Sl8.l)
          rw [hmap]
          exact scan_part hat hsc hm
        · repeat (first | refine JL.q (by first | (apply OQ.load; exact boC; exact rfl; exact h9; exact (Row.cell (v := .bool true) rfl)) | (apply OQ.pick_t; exact rfl; exact rfl) | (apply OQ.pick_f; exact rfl; exact rfl) | (apply OQ.move; exact rfl)) rfl ?_ | refine JL.nil ?_ | with_reducible refine JE.nextR ?_ | refine JL.gon rfl rfl ?_)
          refine JR.cond rfl (fun _ => ?_) (fun h => by cases h)
          refine JR.growR (g := ⟨[(11, N (atN s.l k)), (12, y.v), (2, Pt b2 0), (4, Pt b4 0), (5, Pt b5 0), (6, Pt b6 0), (7, Pt b7 0), (8, Pt b8 0), (9, Pt b9 0), (10, Pt b10 0), (14, .bool false), (15, .bool true)], 14, vs, Ms, (fun j => match j with | 4 => [(1, 46), (2, 47), (3, 48)] | 5 => [(4, 49)] | 6 => [(5, 50)] | 7 => [(6, 51)] | 8 => [(0, 45), (7, 52)] | 9 => [(8, 53)] | _ => []), (fun j => match j with | 0 => [10] | 1 => [11] | 2 => [11] | 8 => [12, 7] | 9 => [10] | _ => []), (fun j => match j with | 8 => [12, 7] | 9 => [10] | _ => []), (fun j => match j with | 7 => some 6 | 8 => some 7 | 9 => some 8 | _ => none), fun _ => [], Rl⟩) [] [9, 11, 8, 13, 6] rfl (by repeat (first | with_reducible exact lo_roundX | with_reducible apply lo_then | with_reducible apply lo_blk)) mixMi (by repeat (first | exact SubE.nil | refine SubE.cons _ _ _ rfl ?_)) (fun _ _ => .nil) ?_ (by kernel_rfl) (by kernel_rfl) (by kernel_rfl) ?_ ?_
          · exact less_eq (by show _ ++ (_ ++ (_ ++ (flatE rs ++ []))) = _; rw [List.append_nil]; rfl)
          · refine ⟨?_, ?_, ?_, ?_, ?_, ?_, ?_, ?_, ?_, ?_, trivial⟩
            · (intro z EF MF Q kk; exact JL.q (OQ.load lsC rfl .here (Row.cell (v := accV q (rs.map Sl8.v).length) rfl)) rfl (JL.nil (kk default nofun)))
            · (intro z EF MF Q kk; exact JL.q (OQ.load bsC8 rfl (has_left (has_left h2)) (Row.cell (v := s.v) rfl)) rfl (JL.nil (kk default nofun)))
            · (intro z EF MF Q kk; exact JL.q (OQ.load inC12 rfl (has_left (has_left h10)) (Row.cell (v := N bg) rfl)) rfl (JL.nil (kk default nofun)))
            · (intro z EF MF Q kk; exact JL.q (OQ.move rfl) rfl (JL.nil (kk default nofun)))
            · (intro z EF MF Q kk; exact JL.q (hmid rfl rfl rfl) rfl (JL.nil (kk default nofun)))
            · (intro z EF MF Q kk; exact JL.q (OQ.callx (vs := [x.v]) goes_mwend rfl c50) rfl (JL.nil (kk default nofun)))
            · (intro z EF MF Q kk; exact JL.callg (vs := [u.v]) (ι := { z : Acc // z = none → u.l = [] }) (fun z => accV z.1 u.l.length) (fun z => accE 5 z.1 (u.l.map U8)) goes_clone rfl rfl (fun z => accE_wr _ _ _) c51 fun z => JL.nil (kk (z, default, 0) nofun))
            · (intro z EF MF Q kk; exact JL.lit1 (v := accV (z 6).1.1 u.l.length) Tryz.underlying24 slE12 rfl rfl (accV_cells _ _) rfl fun bl _ => JL.nil (kk ((z 6).1, default, bl) (fun k h => by cases h; rfl)))
            · intro z EF MF Q kk
              show JL _ _ _ _ _ _ _ _ ((accE 22 q (rs.map Sl8.v) ++ ([⟨(z 7).2.2, Row 22 [accV (z 7).1.1 u.l.length], true⟩] ++ [])) ++ MF)
              rw [List.append_assoc]
              refine JL.appendQ (xs := rs.map Sl8.v) (cs := [accV (z 7).1.1 u.l.length]) (m := 1) (ad := some ⟨(z 7).2.2, 0, none⟩) (sc := 1) q Tryz.underlying24 slE12 hq1 rfl rfl rfl (fun w' hw' => ?_) (fun v hv => by rw [List.mem_singleton.1 hv]; exact accV_one _ _) rfl (by omega) (by omega) rfl fun q' hq' => ?_
              · obtain ⟨o, ho, hA⟩ := hw'.get (b := (z 7).2.2) (A := Row 22 [accV (z 7).1.1 u.l.length]) (wr := true) (has_right _ .here)
                exact Reads.block ho (Row.all _ hA)
              · exact JL.nil (JE.less (less_app2 (.drop _ _ _ (Less.refl _)) _) (kk ((z 7).1, q', 0) (fun k h => by cases h; exact ⟨rfl, fun h => by have := hq' h; simp at this⟩)))
            · (intro z EF MF Q kk; exact JL.store_eq (v := accV (z 8).2.1 (rs.map Sl8.v ++ [accV (z 8).1.1 u.l.length]).length) (r' := [accV (z 8).2.1 (rs.map Sl8.v ++ [accV (z 8).1.1 u.l.length]).length]) lsS rfl rfl (accV_one _ _) (accV_cells _ _) .here (by simp) rfl (JL.nil (kk ((z 8).1, (z 8).2.1, 0) (fun k h => by cases h; exact ⟨rfl, rfl⟩))))
          intro z hz
          have z7 : (z 7).1 = (z 6).1 := hz 7 6 (by decide) rfl
          have z8 : (z 8).1 = (z 7).1 ∧ (z 8).2.1 ≠ none := hz 8 7 (by decide) rfl
          have z9 : (z 9).1 = (z 8).1 ∧ (z 9).2.1 = (z 8).2.1 := hz 9 8 (by decide) rfl
          obtain ⟨c, hc⟩ : ∃ c, (z 6).1 = c := ⟨_, rfl⟩
          have e8 : (z 8).1 = c := z8.1.trans (z7.trans hc)
          have e9 : (z 9).1 = c := z9.1.trans e8
          obtain ⟨q', hq'⟩ : ∃ q', (z 8).2.1 = q' := ⟨_, rfl⟩
          have e9' : (z 9).2.1 = q' := z9.2.trans hq'
          have emap : (rs ++ [accS c.1 u.l]).map Sl8.v = rs.map Sl8.v ++ [accV c.1 u.l.length] := by rw [List.map_append, List.map_cons, List.map_nil, accS_v]
          show JE _ _ _ _ _ [(11, N (atN s.l k)), (12, y.v), (2, Pt b2 0), (4, Pt b4 0), (5, Pt b5 0), (6, Pt b6 0), (7, Pt b7 0), (8, Pt b8 0), (9, Pt b9 0), (10, Pt b10 0), (14, .bool false), (15, .bool true)] _
          refine JE.less (M' := ⟨b8, Row 24 [accV q' ((rs ++ [accS c.1 u.l]).map Sl8.v).length], true⟩ :: ([⟨be, Row 22 [s.v], false⟩, ⟨b10, Row 3 [N bg], true⟩, ⟨b9, Row 4 [.bool true], true⟩, ⟨b7, Row 9 [Z (45 :: 45 :: (bd ++ [45, 45]))], true⟩, ⟨b6, Row 9 [Z (45 :: 45 :: bd)], true⟩, ⟨b5, Row 25 [.int .i64 0], true⟩, ⟨b4, Row 24 [.slice none 0 0], true⟩, ⟨b2, Row 22 [s.v], true⟩] ++ (accE 22 q' ((rs ++ [accS c.1 u.l]).map Sl8.v) ++ flatE (rs ++ [accS c.1 u.l])))) ?_ ?_
          · show Less _ ([⟨b8, Row 24 [accV (z 9).2.1 (rs.map Sl8.v ++ [accV (z 9).1.1 u.l.length]).length], true⟩] ++ ([⟨be, Row 22 [s.v], false⟩, ⟨b10, Row 3 [N bg], true⟩, ⟨b9, Row 4 [.bool true], true⟩, ⟨b7, Row 9 [Z (45 :: 45 :: (bd ++ [45, 45]))], true⟩, ⟨b6, Row 9 [Z (45 :: 45 :: bd)], true⟩, ⟨b5, Row 25 [.int .i64 0], true⟩, ⟨b4, Row 24 [.slice none 0 0], true⟩, ⟨b2, Row 22 [s.v], true⟩] ++ (accE 22 (z 8).2.1 (rs.map Sl8.v ++ [accV (z 8).1.1 u.l.length]) ++ (flatE rs ++ (accE 5 (z 6).1.1 (u.l.map U8) ++ [])))))
            rw [e9, e9', e8, hq', hc, emap, List.append_nil]
            exact .keep _ _ _ _ _ _ (fun _ h => h) (less_app2 (less_app2 (flat_snoc rs c.1 u.l) _) _)
          have hq2 : q' = none → rs ++ [accS c.1 u.l] = [] := fun h => absurd (hq'.trans h) z8.2
          have h02 : ∀ y ∈ rs ++ [accS c.1 u.l], y.ad = none → y.l = [] := fun y hy => by
            rcases List.mem_append.1 hy with h | h
            · exact h0 y h
            · rw [List.mem_singleton.1 h]; exact accS_none
          have hmap : (rs ++ [accS c.1 u.l]).map Sl8.l = rs.map Sl8.l ++ [wendB ((s.l.take (atN s.l k)).drop bg)] := by
            rw [List.map_append, List.map_cons, List.map_nil, accS_l c.2, hul, hxl]
          have hlen2 : (rs ++ [accS c.1 u.l]).length = rs.length + 1 := List.length_append
          generalize rs ++ [accS c.1 u.l] = rs2 at hq2 h02 hmap hlen2 ⊢
          clear z7 z8 z9 e8 e9 hc hq' e9' emap hz z vs Ms Rl
          refine JE.nextR ?_
          repeat (first | refine JL.q (by first | (apply OQ.load; exact boC; exact rfl; exact (by repeat (first | exact Has.here | apply Has.there)); exact (Row.cell (v := .bool true) rfl)) | (apply OQ.pick_t; exact rfl; exact rfl) | (apply OQ.move; exact rfl)) rfl ?_ | refine JR.seq ?_ | refine JL.nil ?_ | with_reducible refine JE.nextR ?_ | refine JL.gon rfl rfl ?_ | refine JR.region rfl (by first | with_reducible exact lo_roundQ | with_reducible exact lo_then lo_roundQ | with_reducible exact lo_blk lo_roundQ | with_reducible exact lo_then (lo_blk lo_roundQ) | with_reducible exact lo_roundX | with_reducible exact lo_then lo_roundX | with_reducible exact lo_blk lo_roundX | with_reducible exact lo_then (lo_blk lo_roundX) | with_reducible exact lo_then (lo_then (lo_blk lo_roundX))) ?_)
          refine JR.cond rfl (fun _ => ?_) (fun h => by cases h)
          refine JR.seq (JR.region rfl (by repeat (first | with_reducible exact lo_roundX | with_reducible apply lo_then | with_reducible apply lo_blk)) ?_)
          refine JL.q (OQ.load lsC rfl .here (Row.cell (v := accV q' (rs2.map Sl8.v).length) rfl)) rfl ?_
          refine JL.store_eq (v := accV q' (rs2.map Sl8.v).length) (r' := [accV q' (rs2.map Sl8.v).length]) lsS rfl rfl (accV_one _ _) (accV_cells _ _) (by repeat (first | exact Upd.here | apply Upd.there)) (by simp) rfl ?_
          refine JL.store_eq (v := .int .i64 0) (r' := [.int .i64 0]) erS rfl rfl rfl rfl (by repeat (first | exact Upd.here | apply Upd.there)) (by decide) rfl ?_
          refine JL.nil (JE.nextR (JR.ret ?_))
          refine JE.then_ret (JE.blk_ret ?_)
          refine JE.roundX ⟨none, q', rs2⟩ ⟨?_, hq2, h02⟩ (.drop _ _ _ (.drop _ _ _ (.drop _ _ _ (.drop _ _ _ (.drop _ _ _ (.drop _ _ _ (.keep _ _ _ _ _ _ (fun _ h => h) (.keep _ _ _ _ _ _ (fun _ h => h) (.drop _ _ _ (Less.refl _))))))))))
          show goalB bd s.l = some (rs2.map Sl8.l)
          rw [hmap]
          exact scan_last hat hsc hm
  case hdone =>
    rintro D z ⟨hsc, hq, h0, _⟩
    have hg : goalB bd s.l = none := by
      rw [atN_end] at hsc
      exact scan_end hsc
    rw [hg]
    unfold spM spA spB
    refine KE.blk_normal (KE.next (KC.seq (KC.region ?_)))
    refine KL.store_eq (v := .slice none 0 0) (r' := [.slice none 0 0]) lsS rfl rfl rfl rfl (by repeat (first | exact Upd.here | apply Upd.there)) (by decide) rfl ?_
    refine KL.store_eq (v := .int .i64 3) (r' := [.int .i64 3]) erS rfl rfl rfl rfl (by repeat (first | exact Upd.here | apply Upd.there)) (by decide) rfl ?_
    refine KL.nil (KE.next (KC.ret ?_))
    refine KE.ret2x rfl (RV.cell rfl lsC (b := b4) (by repeat (first | exact Has.here | apply Has.there)) (Row.cell (v := .slice none 0 0) rfl)) (RV.cell rfl erC (b := b5) (by repeat (first | exact Has.here | apply Has.there)) (Row.cell (v := .int .i64 3) rfl)) fun w' hw => ?_
    exact ⟨⟨none, [], rfl, fun _ => rfl, by simp⟩, rfl, hw.weak (.nil _)⟩
  case hstop =>
    rintro D z ⟨hg, hq, h0⟩
    rw [hg]
    unfold spX
    refine KE.blk_ret (KE.then_ret ?_)
    refine KE.ret2x rfl (RV.cell rfl lsC (b := b4) (by repeat (first | exact Has.here | apply Has.there)) (Row.cell rfl)) (RV.cell rfl erC (b := b5) (by repeat (first | exact Has.here | apply Has.there)) (Row.cell rfl)) fun w' hw => ?_
    exact ⟨⟨z.q, z.rs, rfl, hq, h0⟩, rfl, hw.weak (.drop _ _ _ (.drop _ _ _ (Less.refl _)))⟩
end Go.Proofs.YtbbmhkdfdgnkpaaGreatDoor

/-
  Of no statement by itself: rows of bytes with a boundary's lines between them come back from Split; pure; no program stands here.
  Conditions: none but each lemma's own.
-/
namespace Go.Proofs.YtbbmhkdfdgnkpaaGreatDoor
namespace Mim
open Fld
def glue (L : List (List By × List By)) : List By := L.flatMap fun x => x.1 ++ x.2
/-- not begun by two - -/
def nd (l : List By) : Prop := ¬ l.take 2 = [45, 45]
theorem nd_nil : nd [] := by unfold nd; decide
theorem nd_pre {a b : List By} (h : a <+: b) (hb : nd b) : nd a := by
  obtain ⟨t, rfl⟩ := h
  intro e
  refine hb ?_
  have h2 : 2 ≤ a.length := by
    have := congrArg List.length e
    simp only [List.length_take, List.length_cons, List.length_nil] at this
    omega
  rw [List.take_append_of_le_length h2, e]
theorem cutR_pre (s : List By) : cutR s <+: s := by
  have h := List.dropWhile_suffix (l := s.reverse) bl
  have := List.reverse_prefix.2 h
  rwa [List.reverse_reverse] at this
theorem mark_nd {bd s : List By} (h : nd s) : markB bd s = 0 := by
  have hc := nd_pre (cutR_pre s) h
  unfold markB
  rw [if_neg (fun e => hc (by rw [e]; rfl)), if_neg (fun e => hc (by rw [e]; rfl))]
theorem cutR_self {s : List By} (h : ∀ c ∈ s, bl c = false) : cutR s = s := by
  unfold cutR
  cases hr : s.reverse with
  | nil => rw [List.reverse_eq_nil_iff.1 hr]; rfl
  | cons c r =>
    have hc : bl c = false := h c (by rw [← List.mem_reverse, hr]; exact List.mem_cons_self)
    rw [List.dropWhile_cons, if_neg (by rw [hc]; decide), ← hr, List.reverse_reverse]
theorem bod_ok : ∀ c : By, bodB c = true → bl c = false ∧ c ≠ 10 ∧ c ≠ 13 := by
  have h : ∀ c : Fin 256, bodB (BitVec.ofNat 8 c.val) = true → bl (BitVec.ofNat 8 c.val) = false ∧ BitVec.ofNat 8 c.val ≠ 10 ∧ BitVec.ofNat 8 c.val ≠ 13 := by decide +kernel
  intro c
  simpa using h ⟨c.toNat, c.isLt⟩
theorem bound_all {bd : List By} (hb : boundB bd = true) : ∀ c ∈ bd, bodB c = true := by
  unfold boundB at hb
  rw [Bool.and_eq_true] at hb
  exact List.all_eq_true.1 hb.1
theorem dash_ok {bd : List By} (hb : boundB bd = true) : ∀ c ∈ 45 :: 45 :: bd, bl c = false ∧ c ≠ 10 ∧ c ≠ 13 := by
  intro c hc
  simp only [List.mem_cons] at hc
  rcases hc with rfl | rfl | hc
  · decide
  · decide
  · exact bod_ok c (bound_all hb c hc)
theorem dash_ok2 {bd : List By} (hb : boundB bd = true) : ∀ c ∈ 45 :: 45 :: (bd ++ [45, 45]), bl c = false ∧ c ≠ 10 ∧ c ≠ 13 := by
  intro c hc
  simp only [List.mem_cons, List.mem_append, List.not_mem_nil, or_false] at hc
  rcases hc with rfl | rfl | hc | rfl | rfl
  · decide
  · decide
  · exact bod_ok c (bound_all hb c hc)
  · decide
  · decide
theorem mark_one {bd : List By} (hb : boundB bd = true) : markB bd (45 :: 45 :: bd) = 1 := by
  unfold markB
  rw [cutR_self (fun c hc => (dash_ok hb c hc).1), if_pos rfl]
theorem mark_two {bd : List By} (hb : boundB bd = true) : markB bd (45 :: 45 :: (bd ++ [45, 45])) = 2 := by
  unfold markB
  rw [cutR_self (fun c hc => (dash_ok2 hb c hc).1), if_neg (fun e => by have := congrArg List.length e; simp at this), if_pos rfl]
/-! ### lines of what is joined -/
theorem lin_app : ∀ (b r x : List By), linR (b ++ 10 :: r) x = linR (b ++ [10]) x ++ linR r []
  | [], r, x => by simp [linR]
  | c :: b, r, x => by
    simp only [List.cons_append, linR]
    split
    · rw [lin_app b r []]; rfl
    · rw [lin_app b r _]
theorem lin_run : ∀ (a r x : List By), (∀ c ∈ a, c ≠ 10) → linR (a ++ r) x = linR r (x ++ a)
  | [], r, x, _ => by simp
  | c :: a, r, x, h => by
    simp only [List.cons_append, linR]
    rw [if_neg (h c List.mem_cons_self), lin_run a r _ (fun c' hc => h c' (List.mem_cons_of_mem _ hc))]
    simp
theorem lin_line {a : List By} (h : ∀ c ∈ a, c ≠ 10) (r : List By) : linB (a ++ 13 :: 10 :: r) = (a, [13, 10]) :: linB r := by
  unfold linB
  rw [lin_run a _ [] h, List.nil_append]
  simp [linR]
theorem lin_part {D : List By → Prop} (h0 : D []) : ∀ (p x : List By), (∀ q ∈ linR p x, D q.1) → ∃ L l, linR (p ++ [13, 10]) x = L ++ [(l, [13, 10])] ∧ (∀ q ∈ L, D q.1) ∧ D l ∧ x ++ p = glue L ++ l
  | [], x, h => by
    refine ⟨[], x, by simp [linR], by simp, ?_, by simp [glue]⟩
    by_cases e : x = []
    · rw [e]; exact h0
    · exact h (x, []) (by simp [linR, e])
  | c :: p, x, h => by
    by_cases hc : c = 10
    · subst hc
      simp only [linR, if_true] at h
      obtain ⟨L, l, h1, h2, h3, h4⟩ := lin_part h0 p [] (fun q hq => h q (List.mem_cons_of_mem _ hq))
      have h5 := h _ List.mem_cons_self
      simp only [List.nil_append] at h4
      by_cases e : x.getLast? = some 13
      · rw [if_pos e] at h5
        refine ⟨(x.dropLast, [13, 10]) :: L, l, by rw [List.cons_append, linR, if_pos rfl, if_pos e, h1]; rfl, ?_, h3, ?_⟩
        · intro q hq
          rcases List.mem_cons.1 hq with rfl | hq
          · exact h5
          · exact h2 q hq
        · obtain ⟨hx, e2⟩ := List.getLast?_eq_some_iff.1 e
          subst e2
          simp only [glue, List.flatMap_cons, List.dropLast_concat, h4]
          simp
      · rw [if_neg e] at h5
        refine ⟨(x, [10]) :: L, l, by rw [List.cons_append, linR, if_pos rfl, if_neg e, h1]; rfl, ?_, h3, ?_⟩
        · intro q hq
          rcases List.mem_cons.1 hq with rfl | hq
          · exact h5
          · exact h2 q hq
        · simp only [glue, List.flatMap_cons, h4]
          simp
    · simp only [linR, if_neg hc] at h
      obtain ⟨L, l, h1, h2, h3, h4⟩ := lin_part h0 p (x ++ [c]) h
      exact ⟨L, l, by rw [List.cons_append, linR, if_neg hc, h1], h2, h3, by rw [← h4]; simp⟩
theorem lin_ahead : ∀ (a x : List By), (∀ q ∈ linR a x, nd q.1) → ∀ q ∈ linR (a ++ [10]) x, nd q.1
  | [], x, h => by
    intro q hq
    have hx : nd x := by
      by_cases e : x = []
      · rw [e]; exact nd_nil
      · exact h (x, []) (by simp [linR, e])
    simp only [List.nil_append, linR, if_true, List.mem_cons, List.not_mem_nil, or_false] at hq
    subst hq
    split
    · exact nd_pre (List.dropLast_prefix x) hx
    · exact hx
  | c :: a, x, h => by
    by_cases hc : c = 10
    · subst hc
      simp only [List.cons_append, linR, if_true] at h ⊢
      intro q hq
      rcases List.mem_cons.1 hq with rfl | hq
      · exact h _ List.mem_cons_self
      · exact lin_ahead a [] (fun q hq => h q (List.mem_cons_of_mem _ hq)) q hq
    · simp only [List.cons_append, linR, if_neg hc] at h ⊢
      exact lin_ahead a _ h
/-! ### what is collected -/
theorem col_run {bd : List By} : ∀ (L : List (List By × List By)) (l e p o : List By) (m : List (List By × List By)), (∀ q ∈ L, markB bd q.1 = 0) → markB bd l = 0 → (∀ q ∈ m.head?, markB bd q.1 ≠ 0) → colR bd (L ++ (l, e) :: m) p o = (o ++ p ++ glue L ++ l, m)
  | [], l, e, p, o, m, _, hl, hm => by
    rw [List.nil_append, colR, if_pos hl]
    cases m with
    | nil => simp [colR, glue]
    | cons q m =>
      rw [colR, if_neg (hm q (by simp))]
      simp [glue]
  | (a, ea) :: L, l, e, p, o, m, h, hl, hm => by
    rw [List.cons_append, colR, if_pos (h _ List.mem_cons_self), col_run L l e ea _ m (fun q hq => h q (List.mem_cons_of_mem _ hq)) hl hm]
    simp [glue]
theorem drop_run {α : Type} (f : α → Bool) : ∀ (A : List α) (r : List α), (∀ x ∈ A, f x = true) → (∀ x ∈ r.head?, f x = false) → (A ++ r).dropWhile f = r
  | [], [], _, _ => rfl
  | [], x :: r, _, h => by rw [List.nil_append, List.dropWhile_cons, if_neg (by rw [h x (by simp)]; decide)]
  | a :: A, r, h, k => by rw [List.cons_append, List.dropWhile_cons, if_pos (h a List.mem_cons_self), drop_run f A r (fun x hx => h x (List.mem_cons_of_mem _ hx)) k]
/-- rows with a boundary's lines between -/
def jn (bd : List By) (parts : List (List By)) (behind : List By) : List By := (parts.flatMap fun p => 45 :: 45 :: bd ++ ([13, 10] ++ (p ++ [13, 10]))) ++ (45 :: 45 :: (bd ++ [45, 45]) ++ ([13, 10] ++ behind))
theorem jn_spl {bd : List By} (hb : boundB bd = true) (behind : List By) : ∀ (parts out : List (List By)), parts ≠ [] → (∀ p ∈ parts, ∀ q ∈ linB p, markB bd q.1 = 0) →
    ∃ t, linB (jn bd parts behind) = (45 :: 45 :: bd, [13, 10]) :: t ∧ splL bd (linB (jn bd parts behind)) out = some (out ++ parts)
  | [], _, h, _ => absurd rfl h
  | p :: ps, out, _, hp => by
    obtain ⟨L, l, h1, h2, h3, h4⟩ := lin_part (D := fun q => markB bd q = 0) (mark_nd nd_nil) p [] (hp p List.mem_cons_self)
    have e : linB (jn bd (p :: ps) behind) = (45 :: 45 :: bd, [13, 10]) :: (L ++ (l, [13, 10]) :: linB (jn bd ps behind)) := by
      have e0 : jn bd (p :: ps) behind = (45 :: 45 :: bd) ++ 13 :: 10 :: ((p ++ [13]) ++ 10 :: jn bd ps behind) := by simp [jn]
      rw [e0, lin_line (fun c hc => (dash_ok hb c hc).2.1)]
      unfold linB
      rw [lin_app, show p ++ [13] ++ [10] = p ++ [13, 10] by simp, h1]
      simp
    refine ⟨_, e, ?_⟩
    rw [List.nil_append] at h4
    have hlast : linB (jn bd [] behind) = (45 :: 45 :: (bd ++ [45, 45]), [13, 10]) :: linB behind := by
      have e0 : jn bd [] behind = (45 :: 45 :: (bd ++ [45, 45])) ++ 13 :: 10 :: behind := by simp [jn]
      rw [e0, lin_line (fun c hc => (dash_ok2 hb c hc).2.1)]
    have hm : ∀ q ∈ (linB (jn bd ps behind)).head?, markB bd q.1 ≠ 0 := by
      intro q hq
      cases ps with
      | nil =>
        rw [hlast] at hq
        simp only [List.head?_cons, Option.mem_some_iff] at hq
        subst hq
        rw [mark_two hb]; decide
      | cons p2 ps =>
        obtain ⟨t, ht, _⟩ := jn_spl hb behind (p2 :: ps) [] (by simp) (fun p hp' => hp p (List.mem_cons_of_mem _ hp'))
        rw [ht] at hq
        simp only [List.head?_cons, Option.mem_some_iff] at hq
        subst hq
        rw [mark_one hb]; decide
    rw [e, splL, mark_one hb, if_pos rfl, col_run L l _ [] [] _ h2 h3 hm]
    simp only [List.nil_append, ← h4]
    cases ps with
    | nil => rw [hlast, splL, mark_two hb, if_neg (by decide), if_pos rfl]
    | cons p2 ps =>
      obtain ⟨t, ht, hs⟩ := jn_spl hb behind (p2 :: ps) (out ++ [p]) (by simp) (fun p hp' => hp p (List.mem_cons_of_mem _ hp'))
      rw [hs]
      simp
theorem jn_back {bd ahead behind : List By} {parts : List (List By)} (hb : boundB bd = true) (hA : ∀ q ∈ linB ahead, nd q.1) (hne : parts ≠ []) (hP : ∀ p ∈ parts, ∀ q ∈ linB p, markB bd q.1 = 0) :
    spltB (ahead ++ 10 :: jn bd parts behind) bd = (parts, 0) := by
  obtain ⟨t, ht, hs⟩ := jn_spl hb behind parts [] hne hP
  unfold spltB
  rw [if_neg (by rw [hb]; decide)]
  have e : linB (ahead ++ 10 :: jn bd parts behind) = linB (ahead ++ [10]) ++ linB (jn bd parts behind) := lin_app _ _ _
  rw [e, drop_run _ _ _ (fun x hx => ?_) (fun x hx => ?_), hs]
  · rfl
  · rw [mark_nd (lin_ahead _ _ hA x hx)]; rfl
  · rw [ht] at hx
    simp only [List.head?_cons, Option.mem_some_iff] at hx
    subst hx
    rw [mark_one hb]; rfl
end Mim
end Go.Proofs.YtbbmhkdfdgnkpaaGreatDoor

/-
  Of no statement by itself: a mail's fields of a name: all values, without them, with one of them (layer 11), and what holds between them; no program.
  Conditions: none.
-/
namespace Go.Proofs.YtbbmhkdfdgnkpaaGreatDoor
namespace Fld
abbrev PrB := List By × List By
def allB (n : List By) (l : List PrB) : List (List By) := (l.filter fun p => sameB p.1 n).map (·.2)
/-! ### as bytes -/
def headB (l : List PrB) : List By := l.flatMap fun p => foldB p.1 p.2
def writeK (l : List PrB) (b : List By) : Nat := if l.all (fun p => nameB p.1 && valB p.2) then (if 200 < l.length ∨ 65536 < (headB l).length + 2 ∨ 2097152 < (headB l).length + 2 + b.length then 4 else 0) else 3
def writeO (l : List PrB) (b : List By) : List By := if writeK l b = 0 then headB l ++ [13, 10] ++ b else []
theorem all_cons (n : List By) (p : PrB) (l : List PrB) : allB n (p :: l) = if sameB p.1 n then p.2 :: allB n l else allB n l := by
  unfold allB
  rw [List.filter_cons]
  split <;> rfl
end Fld
end Go.Proofs.YtbbmhkdfdgnkpaaGreatDoor

/-
  Of no statement by itself: a value that is told bare is told the same again; pure; no program stands here.
  Conditions: none but each lemma's own.
-/
namespace Go.Proofs.YtbbmhkdfdgnkpaaGreatDoor
namespace Tok
open Fld
/-- what was told so far tells itself, up to whether a quoted text is open -/
def Inv (o : List By) (q : Bool) : Prop := ∀ r : List By, bareR (o ++ r) 0 false [] = bareR r 0 q o
theorem Inv.q {o : List By} {c : By} (h : Inv o true) (hc : ¬ c = 92) : Inv (o ++ [c]) (!(c == 34)) := fun r => by
  rw [List.append_assoc, h, List.singleton_append, bare_q hc]
theorem Inv.n {o : List By} {c : By} (h : Inv o false) (h1 : ¬ c = 40) (h2 : ¬ c = 41) : Inv (o ++ [c]) (c == 34) := fun r => by
  rw [List.append_assoc, h, List.singleton_append, bare_0 h1 h2]
end Tok
end Go.Proofs.YtbbmhkdfdgnkpaaGreatDoor

/-
  Of no statement by itself: an address that is told is told again; pure; no program stands here.
  Conditions: none but each lemma's own.
-/
namespace Go.Proofs.YtbbmhkdfdgnkpaaGreatDoor
namespace Tok
open Fld
theorem byte_all (p : By → Bool) (h : ∀ c : Fin 256, p (BitVec.ofNat 8 c.val) = true) (c : By) : p c = true := by simpa using h ⟨c.toNat, c.isLt⟩
theorem fst_app {c : By} : ∀ (p r : List By), (∀ d ∈ p, ¬ d = c) → fst c (p ++ c :: r) = p.length
  | [], r, _ => by
    unfold fst
    rw [List.nil_append, List.takeWhile_cons, if_neg (by simp)]
    try rfl
  | d :: p, r, h => by
    have := fst_app p r fun e he => h e (by simp [he])
    unfold fst at this ⊢
    rw [List.cons_append, List.takeWhile_cons, if_pos (by simpa using h d (by simp)), List.length_cons, this, List.length_cons]
theorem fst_spec {c : By} : ∀ (u : List By), fst c u < u.length → u = u.take (fst c u) ++ c :: u.drop (fst c u + 1)
  | [], h => by simp at h
  | d :: r, h => by
    by_cases hd : d = c
    · subst hd
      have : fst d (d :: r) = 0 := by
        unfold fst
        rw [List.takeWhile_cons, if_neg (by simp)]; rfl
      rw [this]
      rfl
    · have e : fst c (d :: r) = fst c r + 1 := by
        unfold fst
        rw [List.takeWhile_cons, if_pos (by simpa using hd)]; rfl
      rw [e] at h ⊢
      rw [List.take_succ_cons, List.drop_succ_cons, List.cons_append, ← fst_spec r (by simpa using h)]
end Tok
end Go.Proofs.YtbbmhkdfdgnkpaaGreatDoor

/-
  Of no statement by itself: ids with blanks and comments between are read as they stand; pure; no program stands here.
  Conditions: none but each lemma's own.
-/
namespace Go.Proofs.YtbbmhkdfdgnkpaaGreatDoor
namespace Tok
open Fld
end Tok
end Go.Proofs.YtbbmhkdfdgnkpaaGreatDoor

/-
  Of no statement by itself: what is written of a kind and parameters holds no comment; pure; no program stands here.
  Conditions: none but each lemma's own.
-/
namespace Go.Proofs.YtbbmhkdfdgnkpaaGreatDoor
namespace Tok
open Fld
theorem atom_all {s : List By} (h : atomB s = true) : ∀ c ∈ s, plainB c = true := by
  unfold atomB at h
  rw [Bool.and_eq_true, List.all_eq_true] at h
  exact h.1
theorem simple_all {s : List By} (h : simpleB s = true) : ∀ c ∈ s, looseB c = true := by
  unfold simpleB at h
  rw [Bool.and_eq_true, List.all_eq_true] at h
  exact h.1
theorem kind_is {k : List By} (h : kindB k = true) : ∃ a b, k = a ++ 47 :: b ∧ atomB a = true ∧ atomB b = true := by
  unfold kindB at h
  simp only [Bool.and_eq_true, decide_eq_true_eq] at h
  exact ⟨_, _, fst_spec k h.1, h.2.1, h.2.2⟩
end Tok
end Go.Proofs.YtbbmhkdfdgnkpaaGreatDoor

/-
  Of no statement by itself: what is written of a kind and parameters is read as these, blanks ahead and behind; pure; no program stands here.
  Conditions: none but each lemma's own.
-/
namespace Go.Proofs.YtbbmhkdfdgnkpaaGreatDoor
namespace Tok
open Fld
theorem sem_cons (c : By) (r : List By) (q : Bool) (x : List By) (h : ¬ (q = true ∧ c = 92)) : semR (c :: r) q x = if c = 34 then semR r (!q) (x ++ [c]) else if c = 59 ∧ q = false then x :: semR r q [] else semR r q (x ++ [c]) := by
  conv => lhs; rw [semR.eq_def]
  dsimp only
  rw [if_neg h]
theorem sem_run : ∀ (a r x : List By), (∀ c ∈ a, ¬ c = 34 ∧ ¬ c = 59) → semR (a ++ r) false x = semR r false (x ++ a)
  | [], r, x, _ => by rw [List.append_nil]; rfl
  | c :: a, r, x, h => by
    obtain ⟨h1, h2⟩ := h c (by simp)
    rw [List.cons_append, sem_cons _ _ _ _ (by rintro ⟨k, _⟩; cases k), if_neg h1, if_neg (fun k => h2 k.1), sem_run a r _ fun d hd => h d (by simp [hd]), List.append_assoc]
    rfl
theorem sem_q92 (c2 : By) (r x : List By) : semR (92 :: c2 :: r) true x = semR r true (x ++ [92, c2]) := by
  conv => lhs; rw [semR.eq_def]
  rfl
theorem plain_no {c : By} (h : plainB c = true) : ¬ c = 34 ∧ ¬ c = 59 ∧ ¬ c = 61 ∧ ¬ c = 47 ∧ bl c = false := by
  have := byte_all (fun c => !plainB c || (!decide (c = 34) && (!decide (c = 59) && (!decide (c = 61) && (!decide (c = 47) && !bl c))))) (by decide +kernel) c
  rw [h] at this
  simpa using this
theorem loose_no {c : By} (h : looseB c = true) : ¬ c = 34 ∧ ¬ c = 59 ∧ bl c = false := by
  have := byte_all (fun c => !looseB c || (!decide (c = 34) && (!decide (c = 59) && !bl c))) (by decide +kernel) c
  rw [h] at this
  simpa using this
/-- a part as it is written, behind its ; -/
def parT (p : List By × List By) : List By := [32] ++ p.1 ++ [61] ++ (if simpleB p.2 then p.2 else [34] ++ esc p.2 ++ [34])
def glue (x : List By) : List (List By × List By) → List By → List (List By)
  | [], r => [x ++ r]
  | p :: l, r => x :: glue (parT p) l r
theorem trimL_pre : ∀ (pre v : List By), (∀ c ∈ pre, bl c = true) → trimL (pre ++ v) = trimL v
  | [], v, _ => rfl
  | c :: pre, v, h => by
    show List.dropWhile bl (c :: (pre ++ v)) = _
    rw [List.dropWhile_cons, if_pos (h c (by simp))]
    exact trimL_pre pre v fun d hd => h d (by simp [hd])
theorem trimL_hd {v : List By} (h : ∀ c ∈ v.head?, bl c = false) : trimL v = v := by
  cases v with
  | nil => rfl
  | cons c r =>
    show List.dropWhile bl (c :: r) = _
    rw [List.dropWhile_cons, if_neg (by rw [h c rfl]; decide)]
theorem trim_mid {pre v post : List By} (h1 : ∀ c ∈ pre, bl c = true) (h2 : ∀ c ∈ post, bl c = true) (hv : ¬ v = []) (hh : ∀ c ∈ v.head?, bl c = false) (ht : ∀ c ∈ v.reverse.head?, bl c = false) : trim (pre ++ v ++ post) = v := by
  unfold trim
  rw [List.append_assoc, trimL_pre pre _ h1, trimL_hd (v := v ++ post) (by
    intro c hc
    cases v with
    | nil => exact absurd rfl hv
    | cons d r => exact hh c hc), List.reverse_append, trimL_pre _ _ (by simpa using h2), trimL_hd ht, List.reverse_reverse]
end Tok
end Go.Proofs.YtbbmhkdfdgnkpaaGreatDoor

/-
  Of no statement by itself: bytes as signs (base64) by groups of three, and bit by bit; bytes back from signs; lines of signs; blanks struck out; no program stands here.
  Conditions: none but each lemma's own.
-/
namespace Go.Proofs.YtbbmhkdfdgnkpaaGreatDoor
namespace Arm
abbrev By := BitVec 8
def sgL : List By := [65, 66, 67, 68, 69, 70, 71, 72, 73, 74, 75, 76, 77, 78, 79, 80, 81, 82, 83, 84, 85, 86, 87, 88, 89, 90, 97, 98, 99, 100, 101, 102, 103, 104, 105, 106, 107, 108, 109, 110, 111, 112, 113, 114, 115, 116, 117, 118, 119, 120, 121, 122, 48, 49, 50, 51, 52, 53, 54, 55, 56, 57, 43, 47]
def sg (n : Nat) : By := sgL.getD n 0
/-- bytes as signs, three by three -/
def encB : List By → List By
  | [] => []
  | [a] => [sg (a.toNat / 4), sg (a.toNat % 4 * 16), 61, 61]
  | [a, b] => [sg (a.toNat / 4), sg (a.toNat % 4 * 16 + b.toNat / 16), sg (b.toNat % 16 * 4), 61]
  | a :: b :: c :: r => sg (a.toNat / 4) :: sg (a.toNat % 4 * 16 + b.toNat / 16) :: sg (b.toNat % 16 * 4 + c.toNat / 64) :: sg (c.toNat % 64) :: encB r
theorem encB3 (a b c : By) (r : List By) : encB (a :: b :: c :: r) = sg (a.toNat / 4) :: sg (a.toNat % 4 * 16 + b.toNat / 16) :: sg (b.toNat % 16 * 4 + c.toNat / 64) :: sg (c.toNat % 64) :: encB r := by rw [encB]
/-- a row by threes -/
theorem by3 {p : List By → Prop} (h0 : p []) (h1 : ∀ a, p [a]) (h2 : ∀ a b, p [a, b]) (h3 : ∀ a b c r, p r → p (a :: b :: c :: r)) : ∀ l, p l
  | [] => h0
  | [a] => h1 a
  | [a, b] => h2 a b
  | a :: b :: c :: r => h3 a b c r (by3 h0 h1 h2 h3 r)
theorem encB_len (l : List By) : (encB l).length = (l.length + 2) / 3 * 4 := by
  refine by3 (p := fun l => (encB l).length = (l.length + 2) / 3 * 4) (by simp [encB]) (fun _ => by simp [encB]) (fun _ _ => by simp [encB]) (fun a b c r h => ?_) l
  rw [encB3]
  show (encB r).length + 4 = (r.length + 3 + 2) / 3 * 4
  omega
/-! ### bits -/
def b8 (x : Nat) : List Nat := [x / 128 % 2, x / 64 % 2, x / 32 % 2, x / 16 % 2, x / 8 % 2, x / 4 % 2, x / 2 % 2, x % 2]
def b6 (x : Nat) : List Nat := [x / 32 % 2, x / 16 % 2, x / 8 % 2, x / 4 % 2, x / 2 % 2, x % 2]
def val : List Nat → Nat := List.foldl (fun n b => 2 * n + b) 0
/-- groups of six as signs -/
def sx : List Nat → List By
  | a :: b :: c :: d :: e :: f :: r => sg (val [a, b, c, d, e, f]) :: sx r
  | _ => []
/-- groups of eight as bytes -/
def oc : List Nat → List By
  | a :: b :: c :: d :: e :: f :: g :: h :: r => BitVec.ofNat 8 (val [a, b, c, d, e, f, g, h]) :: oc r
  | _ => []
theorem oc8 (a b c d e f g h : Nat) (r : List Nat) : oc (a :: b :: c :: d :: e :: f :: g :: h :: r) = BitVec.ofNat 8 (val [a, b, c, d, e, f, g, h]) :: oc r := by rw [oc]
/-! ### back -/
/-- the bits of a sign: none of what is no sign -/
def dx (c : By) (n : Nat) : List Nat := (List.range n).flatMap fun m => if sg m = c then b6 m else []
def d6 (s : List By) : List Nat := s.flatMap fun c => dx c 64
theorem dx_sg : ∀ m : Fin 64, dx (sg m.val) 64 = b6 m.val := by decide +kernel
theorem dx_eq : dx 61 64 = [] := by decide +kernel
theorem d6_cons (c : By) (s : List By) : d6 (c :: s) = dx c 64 ++ d6 s := rfl
theorem d6_sg {m : Nat} (h : m < 64) (s : List By) : d6 (sg m :: s) = b6 m ++ d6 s := by
  rw [d6_cons, dx_sg ⟨m, h⟩]
theorem d6_61 (s : List By) : d6 (61 :: s) = d6 s := by rw [d6_cons, dx_eq]; rfl
theorem v1 {p x : Nat} (hp : p < 64) (hx : x < 64) : val [p / 32 % 2, p / 16 % 2, p / 8 % 2, p / 4 % 2, p / 2 % 2, p % 2, x / 32 % 2, x / 16 % 2] = p * 4 + x / 16 := by
  simp only [val, List.foldl]; omega
theorem v2 {x y : Nat} (_hx : x < 64) (hy : y < 64) : val [x / 8 % 2, x / 4 % 2, x / 2 % 2, x % 2, y / 32 % 2, y / 16 % 2, y / 8 % 2, y / 4 % 2] = x % 16 * 16 + y / 4 := by
  simp only [val, List.foldl]; omega
theorem v3 {y z : Nat} (_hy : y < 64) (hz : z < 64) : val [y / 2 % 2, y % 2, z / 32 % 2, z / 16 % 2, z / 8 % 2, z / 4 % 2, z / 2 % 2, z % 2] = y % 4 * 64 + z := by
  simp only [val, List.foldl]; omega
theorem of8 {n : Nat} {a : By} (h : n = a.toNat) : BitVec.ofNat 8 n = a := by rw [h, BitVec.ofNat_toNat, BitVec.setWidth_eq]
theorem oc_enc (l : List By) : oc (d6 (encB l)) = l := by
  refine by3 (p := fun l => oc (d6 (encB l)) = l) (by simp [encB, d6, oc]) (fun a => ?_) (fun a b => ?_) (fun a b c r h => ?_) l
  · have ha := a.isLt
    rw [encB, d6_sg (by omega), d6_sg (by omega), d6_61, d6_61]
    generalize hp : a.toNat / 4 = p
    generalize hx : a.toNat % 4 * 16 = x
    show oc [p / 32 % 2, p / 16 % 2, p / 8 % 2, p / 4 % 2, p / 2 % 2, p % 2, x / 32 % 2, x / 16 % 2, x / 8 % 2, x / 4 % 2, x / 2 % 2, x % 2] = _
    rw [oc8, show ∀ x y z w : Nat, oc [x, y, z, w] = [] from fun _ _ _ _ => by simp [oc], v1 (by omega) (by omega), of8 (a := a) (by omega)]
  · have ha := a.isLt
    have hb := b.isLt
    rw [encB, d6_sg (by omega), d6_sg (by omega), d6_sg (by omega), d6_61]
    generalize hp : a.toNat / 4 = p
    generalize hx : a.toNat % 4 * 16 + b.toNat / 16 = x
    generalize hy : b.toNat % 16 * 4 = y
    show oc [p / 32 % 2, p / 16 % 2, p / 8 % 2, p / 4 % 2, p / 2 % 2, p % 2, x / 32 % 2, x / 16 % 2, x / 8 % 2, x / 4 % 2, x / 2 % 2, x % 2, y / 32 % 2, y / 16 % 2, y / 8 % 2, y / 4 % 2, y / 2 % 2, y % 2] = _
    rw [oc8, oc8, show ∀ x y : Nat, oc [x, y] = [] from fun _ _ => by simp [oc], v1 (by omega) (by omega), v2 (by omega) (by omega), of8 (a := a) (by omega), of8 (a := b) (by omega)]
  · have ha := a.isLt
    have hb := b.isLt
    have hc := c.isLt
    rw [encB3, d6_sg (by omega), d6_sg (by omega), d6_sg (by omega), d6_sg (by omega)]
    generalize hp : a.toNat / 4 = p
    generalize hx : a.toNat % 4 * 16 + b.toNat / 16 = x
    generalize hy : b.toNat % 16 * 4 + c.toNat / 64 = y
    generalize hz : c.toNat % 64 = z
    simp only [b6, List.cons_append, List.nil_append]
    rw [oc8, oc8, oc8, v1 (by omega) (by omega), v2 (by omega) (by omega), v3 (by omega) (by omega), of8 (a := a) (by omega), of8 (a := b) (by omega), of8 (a := c) (by omega), h]
/-- the bytes whose signs these are -/
def decB (s : List By) : Option (List By) := if encB (oc (d6 s)) = s then some (oc (d6 s)) else none
theorem decB_enc (l : List By) : decB (encB l) = some l := by
  unfold decB
  rw [oc_enc, if_pos rfl]
theorem decB_some {s l : List By} (h : decB s = some l) : encB l = s := by
  unfold decB at h
  split at h
  · next e => cases h; exact e
  · cases h
theorem decB_iff {s l : List By} : decB s = some l ↔ encB l = s := ⟨decB_some, fun h => h ▸ decB_enc l⟩
theorem decB_none {s : List By} (h : ∀ l, encB l ≠ s) : decB s = none := by
  cases e : decB s with
  | none => rfl
  | some l => exact absurd (decB_some e) (h l)
/-! ### lines -/
def lnB (s : List By) : Nat → List By
  | 0 => []
  | i + 1 => lnB s i ++ s.getD i 0 :: (if i % 76 = 75 ∨ i + 1 = s.length then [13, 10] else [])
def linesB (l : List By) : List By := lnB (encB l) (encB l).length
def blank (c : By) : Bool := c == 32 || c == 9 || c == 13 || c == 10
def bare (l : List By) : List By := l.filter fun c => !blank c
theorem bare_append (l r : List By) : bare (l ++ r) = bare l ++ bare r := List.filter_append ..
/-- how far the line has come -/
def far (n : Nat) (c : By) : Nat := if c = 10 then 0 else n + 1
end Arm
end Go.Proofs.YtbbmhkdfdgnkpaaGreatDoor

/-
  Of no statement by itself: parts in one another: what a head and a body tell, the mail of a part, and that what is written is read as the part; pure; no program stands here. Layer 7's two functions are variables (Qd reads, Qe writes).
  Conditions: none but each lemma's own.
-/
namespace Go.Proofs.YtbbmhkdfdgnkpaaGreatDoor
namespace Mim
open Fld Tok
inductive Part where
  | mk (kind : List By) (ps : List PrB) (code : Int) (body : List By) (parts : List Part)
instance : Inhabited Part := ⟨.mk [] [] 0 [] []⟩
def Part.kind : Part → List By | .mk k _ _ _ _ => k
def Part.ps : Part → List PrB | .mk _ l _ _ _ => l
def Part.code : Part → Int | .mk _ _ c _ _ => c
def Part.body : Part → List By | .mk _ _ _ b _ => b
def Part.parts : Part → List Part | .mk _ _ _ _ l => l
/-- the value of the first parameter of a name -/
def parB (l : List PrB) (n : List By) : List By := ((l.find? fun p => decide (p.1 = n)).map (·.2)).getD []
def multiN : List By := [109, 117, 108, 116, 105, 112, 97, 114, 116, 47]
def multiB (k : List By) : Bool := decide (k.take 10 = multiN)
/-- boundary -/
def bdN : List By := [98, 111, 117, 110, 100, 97, 114, 121]
/-- content-type, content-transfer-encoding, in small letters, and as they are written -/
def ctN : List By := [99, 111, 110, 116, 101, 110, 116, 45, 116, 121, 112, 101]
def ceN : List By := [99, 111, 110, 116, 101, 110, 116, 45, 116, 114, 97, 110, 115, 102, 101, 114, 45, 101, 110, 99, 111, 100, 105, 110, 103]
def ctW : List By := [67, 111, 110, 116, 101, 110, 116, 45, 84, 121, 112, 101]
def ceW : List By := [67, 111, 110, 116, 101, 110, 116, 45, 84, 114, 97, 110, 115, 102, 101, 114, 45, 69, 110, 99, 111, 100, 105, 110, 103]
/-- text/plain -/
def tpN : List By := [116, 101, 120, 116, 47, 112, 108, 97, 105, 110]
def b7 : List By := [55, 98, 105, 116]
def b8 : List By := [56, 98, 105, 116]
def bin : List By := [98, 105, 110, 97, 114, 121]
def b64 : List By := [98, 97, 115, 101, 54, 52]
def qpN : List By := [113, 117, 111, 116, 101, 100, 45, 112, 114, 105, 110, 116, 97, 98, 108, 101]
/-- an encoding's code -/
def codB (c : List By) : Option Int := if c = b64 then some 1 else if c = qpN then some 2 else if c = [] ∨ c = b7 ∨ c = b8 ∨ c = bin then some 0 else none
def ceB (f : List PrB) : List By := match allB ceN f with
  | [] => []
  | v :: _ => (trim v).map small
def typB (f : List PrB) : List By × List PrB × Nat := match allB ctN f with
  | [] => (tpN, [], 0)
  | v :: _ => paramsB v
/-- layer 6's Read -/
def armR (b : List By) : Except Nat (List By) := match Arm.decB (Arm.bare b) with
  | some l => .ok l
  | none => .error 3
def mapE {α β : Type} (f : α → Except Nat β) : List α → Except Nat (List β)
  | [] => .ok []
  | x :: l => match f x with
    | .error e => .error e
    | .ok y => match mapE f l with
      | .error e => .error e
      | .ok ys => .ok (y :: ys)
/-- layer 11's Read -/
def readL (m : List By) : Except Nat (List PrB × List By) := if 2097152 < m.length then .error 4 else readB m
section
variable (Qd : List By → Except Nat (List By)) (Qe : List By → List By)
def bodyR (c : Int) (b : List By) : Except Nat (List By) := if c = 1 then armR b else if c = 2 then Qd b else .ok b
/-- a part, its parts by sub; none: it stands in as many multiparts as may be -/
def nodeR (sub : Option (List By → Except Nat Part)) (f : List PrB) (b : List By) : Except Nat Part :=
  if (typB f).2.2 ≠ 0 then .error (typB f).2.2
  else if multiB (typB f).1 then
    if boundB (parB (typB f).2.1 bdN) = false then .error 3
    else match sub with
      | none => .error 5
      | some g =>
        if (spltB b (parB (typB f).2.1 bdN)).2 ≠ 0 then .error (spltB b (parB (typB f).2.1 bdN)).2
        else match mapE g (spltB b (parB (typB f).2.1 bdN)).1 with
          | .error e => .error e
          | .ok l => .ok (.mk (typB f).1 (typB f).2.1 0 [] l)
  else match codB (ceB f) with
    | none => .error 3
    | some c => match bodyR Qd c b with
      | .error e => .error e
      | .ok x => .ok (.mk (typB f).1 (typB f).2.1 c x [])
def subR (r : List PrB → List By → Except Nat Part) (m : List By) : Except Nat Part := match readL m with
  | .error e => .error e
  | .ok x => r x.1 x.2
/-- a part that may stand in k multiparts more -/
def readP : Nat → List PrB → List By → Except Nat Part
  | 0 => nodeR Qd none
  | k + 1 => nodeR Qd (some (subR (readP k)))
def ceV (c : Int) : List By := if c = 1 then b64 else if c = 2 then qpN else b8
def bodyW (c : Int) (b : List By) : List By := if c = 1 then Arm.linesB b else if c = 2 then Qe b else b
def finW (f : List PrB) (b : List By) : Except Nat (List PrB × List By) := if writeK f b = 0 then .ok (f, b) else .error (writeK f b)
def nodeA (sub : Option (Part → Except Nat (List PrB × List By))) (kind : List By) (ps : List PrB) (code : Int) (body : List By) (parts : List Part) : Except Nat (List PrB × List By) :=
  if rightP kind ps = false then .error 3
  else if multiB kind then
    if parts = [] ∨ boundB (parB ps bdN) = false ∨ code ≠ 0 ∨ body ≠ [] then .error 3
    else match sub with
      | none => .error 5
      | some g => match mapE g parts with
        | .error e => .error e
        | .ok xs =>
          if spltB (jn (parB ps bdN) (xs.map fun x => writeO x.1 x.2) []) (parB ps bdN) = (xs.map (fun x => writeO x.1 x.2), 0) then finW [(ctW, writeB kind ps)] (jn (parB ps bdN) (xs.map fun x => writeO x.1 x.2) [])
          else .error 3
  else if code < 0 ∨ 2 < code ∨ parts ≠ [] then .error 3
  else finW [(ctW, writeB kind ps), (ceW, ceV code)] (bodyW Qe code body)
def nodeW (sub : Option (Part → Except Nat (List PrB × List By))) (p : Part) : Except Nat (List PrB × List By) := nodeA Qe sub p.kind p.ps p.code p.body p.parts
def writeP : Nat → Part → Except Nat (List PrB × List By)
  | 0 => nodeW Qe none
  | k + 1 => nodeW Qe (some (writeP k))
end
/-! ### the way back -/
/-- no part is printed as layer 7 has it -/
def noQ : Nat → Part → Prop
  | 0, p => p.code ≠ 2
  | k + 1, p => p.code ≠ 2 ∧ ∀ q ∈ p.parts, noQ k q
end Mim
end Go.Proofs.YtbbmhkdfdgnkpaaGreatDoor

/-
  Of no statement by itself: what the reference's Trim, Dotted and Kind (layer 10) give.
  Conditions: each theorem's own.
-/
namespace Go.Proofs.YtbbmhkdfdgnkpaaGreatDoor
set_option maxRecDepth 10000
open Sl Fld Tok
end Go.Proofs.YtbbmhkdfdgnkpaaGreatDoor

/-
  Of no statement by itself: what the reference's Bare (layer 10) gives.
  Conditions: each theorem's own.
-/
namespace Go.Proofs.YtbbmhkdfdgnkpaaGreatDoor
set_option maxRecDepth 10000
open Sl Fld Tok
structure BS where
  i : Nat
  d : Nat
  q : Bool
  o : List Fld.By
  n : Nat
  b : Nat
  cap : Nat
end Go.Proofs.YtbbmhkdfdgnkpaaGreatDoor

/-
  Of no statement by itself: what the reference's Address (layer 10) gives.
  Conditions: each theorem's own.
-/
namespace Go.Proofs.YtbbmhkdfdgnkpaaGreatDoor
set_option maxRecDepth 10000
open Sl Fld Tok
end Go.Proofs.YtbbmhkdfdgnkpaaGreatDoor

/-
  Of no statement by itself: slices of strings as answers; what the reference's Ids (layer 10) gives.
  Conditions: each theorem's own.
-/
namespace Go.Proofs.YtbbmhkdfdgnkpaaGreatDoor
set_option maxRecDepth 10000
open Sl Fld Tok
structure IS where
  i : Nat
  q : Bool
  o : List (List Fld.By)
  m : Nat
  b5 : Nat
  c5 : Nat
  x : List Fld.By
  n : Nat
  b6 : Nat
  c6 : Nat
end Go.Proofs.YtbbmhkdfdgnkpaaGreatDoor

/-
  Of no statement by itself: pairs built of two strings; what the reference's part (layer 10) gives.
  Conditions: each theorem's own.
-/
namespace Go.Proofs.YtbbmhkdfdgnkpaaGreatDoor
set_option maxRecDepth 10000
open Sl Fld Tok
theorem parA : aggT Tryz.prog 38 = true := by kernel_rfl
theorem parS : szT Tryz.prog 38 = some 2 := by kernel_rfl
theorem parZ : zc Tryz.prog 38 = some [Z [], Z []] := by kernel_rfl
section
variable {n : Nat} {E : Env} {C : World → Prop} {dst : Option Tmp} {ty : TypeId} {pos : String} {aft : Array Edge} {g : Option (Nat × Bool)} {x y : Operand}
theorem OQ.build0 : OQ Tryz.prog n E C ⟨dst, .build 38 #[], ty, pos, aft, g⟩ (.agg (pc ([], [])).toArray) := OQ.pure rfl rfl (by kernel_rfl)
theorem OQ.build2 {a b : List Bt} (hx : ev E x = some (Z a)) (hy : ev E y = some (Z b)) : OQ Tryz.prog n E C ⟨dst, .build 38 #[(0, x), (1, y)], ty, pos, aft, g⟩ (.agg (pc (a, b)).toArray) :=
  OQ.run fun k hk w _ => by
    have h1 := hk.eval hx
    have h2 := hk.eval hy
    have h3 := run_build (P := Tryz.prog) w 38 #[(0, Z a), (1, Z b)] #[Z a, Z b] (by kernel_rfl)
    simp [execOp, h1, h2, Sem.run_bind, h3, pc]
end
structure US where
  i : Nat
  o : List Fld.By
  n : Nat
  b : Nat
  cap : Nat
end Go.Proofs.YtbbmhkdfdgnkpaaGreatDoor

/-
  Of no statement by itself: what the reference's SameParams and Right (layer 10) give.
  Conditions: each theorem's own.
-/
namespace Go.Proofs.YtbbmhkdfdgnkpaaGreatDoor
set_option maxRecDepth 10000
open Sl Fld Tok
def okP (p : Pr) : Bool := atomB p.1 && decide (p.1.map small = p.1) && p.2.all sok
end Go.Proofs.YtbbmhkdfdgnkpaaGreatDoor

/-
  Of no statement by itself: what the reference's Same gives.
  Conditions: each theorem's own.
-/
namespace Go.Proofs.YtbbmhkdfdgnkpaaGreatDoor
set_option maxRecDepth 10000
open Sl

section
variable {P : Program} {n : Nat} {E : Env} {C : World → Prop} {dst : Option Tmp} {t t' ty : TypeId} {pos : String} {aft : Array Edge} {g : Option (Nat × Bool)} {x y : Operand}
end
theorem goes_same : Goes Tryz.prog 12 := ⟨_, Tryz.func12, rfl, by kernel_rfl⟩

set_option maxHeartbeats 8000000 in
theorem same_any (a b : Sl8) (w : World) (ha : a.ok w) (hb : b.ok w) (hal : a.l.length < 4611686018427387904) : Calls Tryz.prog 12 [a.v, b.v].toArray w fun e w' => e = .returned (.bool (decide (a.l = b.l))) ∧ Ext w w' := by
  refine enter (n := 26) Tryz.func12 rfl rfl rfl (Holds.start w []) ?_
  repeat (first | refine JL.q (by first | (apply OQ.move; exact rfl) | (apply OQ.assign; exact rfl) | (apply OQ.len; exact rfl; exact rfl) | (apply OQ.neN; exact rfl; exact rfl)) rfl ?_ | refine JC.seq ?_ | refine JC.region ?_ | refine JL.nil ?_ | refine JE.next ?_)
  refine JC.cond rfl (fun h => ?_) (fun h => ?_)
  · have h : ¬ a.l.length = b.l.length := by simpa using h
    repeat (first | refine JL.q (by (apply OQ.assign; exact rfl)) rfl ?_ | refine JC.seq ?_ | refine JC.region ?_ | refine JL.nil ?_ | refine JE.next ?_)
    refine JC.ret ?_
    repeat (refine JE.then_ret ?_)
    refine JE.ret1 rfl (RV.tmp rfl) fun w' hw => ⟨?_, hw.chg⟩
    rw [decide_eq_false (fun e => h (by rw [e]))]
  · have h : a.l.length = b.l.length := by simpa using h
    repeat (first | refine JL.q (by (apply OQ.assign; exact rfl)) rfl ?_ | refine JC.seq ?_ | refine JC.region ?_ | refine JC.block ?_ | refine JC.skip ?_ | refine JL.nil ?_ | refine JE.next ?_)
    refine JC.loop (fun i : Nat => [(0, a.v), (1, b.v), (5, N i)]) (fun _ => []) (fun i => a.l.length - i) (fun i => i ≤ a.l.length ∧ a.l.take i = b.l.take i) 0 ⟨by omega, by simp⟩ (by repeat (first | exact SubE.nil | refine SubE.cons _ _ _ rfl ?_)) (Less.refl _) ?_
    rintro i ⟨hi, hI⟩
    repeat (first | refine JL.q (by first | (apply OQ.move; exact rfl) | (apply OQ.len; exact rfl; exact rfl) | (apply OQ.lssN; exact rfl; exact rfl)) rfl ?_ | refine JC.seq ?_ | refine JC.region ?_ | refine JL.nil ?_ | refine JE.next ?_)
    refine JC.cond rfl (fun h2 => ?_) (fun h2 => ?_)
    · have hi' : i < a.l.length := of_decide_eq_true h2
      clear h2
      obtain ⟨ba, ja, hae, hca⟩ := ha.reads.at (by simp; omega)
      obtain ⟨bb, jb, hbe, hcb⟩ := hb.reads.at (by simp; omega)
      have hca := hca i _ (map_at U8 0 hi')
      have hcb := hcb i _ (map_at U8 0 (show i < b.l.length by omega))
      have hav : a.v = .slice (some ⟨ba, ja, none⟩) a.l.length a.cap := by rw [← hae]; rfl
      have hbv : b.v = .slice (some ⟨bb, jb, none⟩) b.l.length b.cap := by rw [← hbe]; rfl
      rw [hav, hbv]
      repeat (first | refine JC.seq ?_ | refine JC.block ?_ | refine JC.skip ?_ | refine JE.next ?_)
      refine JC.quiet mixT (by kernel_rfl) ?_
      repeat (first | refine JQ.q (by first | (apply OQ.idxS1; exact Tryz.underlying22; exact u8s; exact rfl; exact rfl; exact hi') | (apply OQ.idxS1; exact Tryz.underlying22; exact u8s; exact rfl; exact rfl; exact (show i < b.l.length by omega)) | (apply OQ.load_old; exact u8c; exact rfl; exact (block_lt_of_cell hca); exact (by simp); exact hca) | (apply OQ.load_old; exact u8c; exact rfl; exact (block_lt_of_cell hcb); exact (by simp); exact hcb) | (apply OQ.ne8; exact rfl; exact rfl) | (apply OQ.move; exact rfl)) rfl ?_ | refine JQ.nil ?_ | refine JE.next ?_)
      refine JC.cond rfl (fun h3 => ?_) (fun h3 => ?_)
      · have h3 : ¬ a.l.getD i 0 = b.l.getD i 0 := by simpa using h3
        repeat (first | refine JL.q (by (apply OQ.assign; exact rfl)) rfl ?_ | refine JC.seq ?_ | refine JC.region ?_ | refine JL.nil ?_ | refine JE.next ?_)
        refine JC.ret ?_
        repeat (first | refine JE.then_ret ?_ | refine JE.blk_ret ?_)
        refine JE.ret1 rfl (RV.tmp rfl) fun w' hw => ⟨?_, hw.chg⟩
        rw [decide_eq_false (fun e => h3 (by rw [e]))]
      · have h3 : a.l.getD i 0 = b.l.getD i 0 := by simpa using h3
        rw [← hav, ← hbv]
        repeat (first | refine JL.q (by first | (apply OQ.move; exact rfl) | (apply OQ.assign; exact rfl) | (apply OQ.addN; exact rfl; exact rfl; exact (by (try simp only []); omega))) rfl ?_ | refine JC.region ?_ | refine JC.skip ?_ | refine JL.nil ?_ | refine JE.next ?_ | refine JE.blk_normal ?_)
        refine JE.again (i := i) (i + 1) ⟨by omega, ?_⟩ (by omega) (by repeat (first | exact SubE.nil | refine SubE.cons _ _ _ rfl ?_)) (Less.refl _)
        have e1 : a.l[i]'hi' = b.l[i]'(by omega) := by
          simpa [List.getD, hi', show i < b.l.length by omega] using h3
        rw [List.take_succ_eq_append_getElem hi', List.take_succ_eq_append_getElem (show i < b.l.length by omega), hI, e1]
    · have hi' : ¬ i < a.l.length := of_decide_eq_false h2
      obtain rfl : i = a.l.length := by omega
      rw [List.take_length, h, List.take_length] at hI
      repeat (first | refine JL.q (by (apply OQ.assign; exact rfl)) rfl ?_ | refine JC.seq ?_ | refine JC.region ?_ | refine JC.exit ?_ | refine JL.nil ?_ | refine JE.next ?_ | refine JE.then_exit ?_ | refine JE.blk_hit ?_)
      refine JC.ret ?_
      skip
      refine JE.ret1 rfl (RV.tmp rfl) fun w' hw => ⟨?_, hw.chg⟩
      rw [decide_eq_true hI]

theorem same_t {a b : Sl8} {va vb : Value} (hva : a.v = va) (hvb : b.v = vb) {w : World} (ha : a.ok w) (hb : b.ok w) (hal : a.l.length < 4611686018427387904) (h : a.l = b.l) : Calls Tryz.prog 12 [va, vb].toArray w fun e w' => e = .returned (.bool true) ∧ Ext w w' := by
  have := same_any a b w ha hb hal
  rwa [hva, hvb, decide_eq_true h] at this
end Go.Proofs.YtbbmhkdfdgnkpaaGreatDoor

/-
  Of no statement by itself: parts in memory, in one another; what the reference's Same (layer 12) gives of two that are one.
  Conditions: each theorem's own.
-/
namespace Go.Proofs.YtbbmhkdfdgnkpaaGreatDoor
set_option maxRecDepth 10000
open Sl Fld Mim
theorem prC : scal Tryz.prog 33 = true := by kernel_rfl
theorem ptC : scal Tryz.prog 34 = true := by kernel_rfl
theorem bsCQ : scal Tryz.prog 22 = true := by kernel_rfl
theorem inC : scal Tryz.prog 3 = true := by kernel_rfl
theorem ptS : szT Tryz.prog 36 = some 5 := by kernel_rfl
/-- a part's cells in a world, d parts deep at most -/
def IsPart : Nat → World → Part → List Value → Prop
  | 0, _, _, _ => False
  | d + 1, w, p, cs => ∃ (ps : Sl2) (body : Sl8) (ad : Option Addr) (cap : Nat) (subs : List (List Value)),
      cs = [Z p.kind, ps.v, .int .i64 p.code, body.v, .slice ad p.parts.length cap] ∧ (ps.ok w ∧ ps.l = p.ps) ∧ (body.ok w ∧ body.l = p.body) ∧
      p.parts.length ≤ cap ∧ Reads w ad subs.flatten ∧ subs.length = p.parts.length ∧ ∀ i, i < subs.length → IsPart d w (p.parts.getD i default) (subs.getD i [])
theorem IsPart.len : ∀ {d : Nat} {w : World} {p : Part} {cs : List Value}, IsPart d w p cs → cs.length = 5
  | _ + 1, _, _, _, ⟨_, _, _, _, _, h, _⟩ => by rw [h]; rfl
theorem IsPart.ext : ∀ {d : Nat} {w w' : World} {p : Part} {cs : List Value}, IsPart d w p cs → Ext w w' → IsPart d w' p cs
  | d + 1, w, w', p, cs, ⟨ps, body, ad, cap, subs, h1, h2, h3, h4, h5, h6, h7⟩, hx =>
    ⟨ps, body, ad, cap, subs, h1, ⟨h2.1.ext hx, h2.2⟩, ⟨h3.1.holds (⟨hx, by simp, by simp⟩ : Holds w [] [] w') rfl, h3.2⟩, h4, (⟨hx, by simp, by simp⟩ : Holds w [] [] w').reads h5 (fun _ a _ => by simp), h6, fun i hi => (h7 i hi).ext hx⟩
theorem IsPart.up : ∀ {d : Nat} {w : World} {p : Part} {cs : List Value}, IsPart d w p cs → IsPart (d + 1) w p cs
  | d + 1, w, p, cs, ⟨ps, body, ad, cap, subs, h1, h2, h3, h4, h5, h6, h7⟩ => ⟨ps, body, ad, cap, subs, h1, h2, h3, h4, h5, h6, fun i hi => (h7 i hi).up⟩
theorem IsPart.mono {d k : Nat} (hk : d ≤ k) {w : World} {p : Part} {cs : List Value} (h : IsPart d w p cs) : IsPart k w p cs := by
  induction k with
  | zero => obtain rfl : d = 0 := by omega
            exact h
  | succ k ih =>
    by_cases e : d = k + 1
    · subst e; exact h
    · exact (ih (by omega)).up
end Go.Proofs.YtbbmhkdfdgnkpaaGreatDoor

/-
  Of no statement by itself: what the landed field's Name, Value, Same, small, only, blank and piece give.
  Conditions: each theorem's own.
-/
namespace Go.Proofs.YtbbmhkdfdgnkpaaGreatDoor
set_option maxRecDepth 10000
open Sl Fld
theorem goes_fonly : Goes Tryz.prog 144 := ⟨_, Tryz.func144, rfl, by kernel_rfl⟩
theorem goes_fsmall : Goes Tryz.prog 135 := ⟨_, Tryz.func135, rfl, by kernel_rfl⟩
theorem goes_fblank : Goes Tryz.prog 169 := ⟨_, Tryz.func169, rfl, by kernel_rfl⟩
theorem goes_fvalueA : Goes Tryz.prog 118 := ⟨_, Tryz.func118, rfl, by kernel_rfl⟩
theorem OQ.sub8 {P : Program} {n : Nat} {E : Env} {C : World → Prop} {dst : Option Tmp} {t t' ty : TypeId} {pos : String} {aft : Array Edge} {g : Option (Nat × Bool)} {x y : Operand} {a b : BitVec 8} (hx : ev E x = some (U8 a)) (hy : ev E y = some (U8 b)) (h : b.toNat ≤ a.toNat) : OQ P n E C ⟨dst, .binOp .sub t x y t', ty, pos, aft, g⟩ (U8 (a - b)) :=
  OQ.bin hx hy rfl fun _ => okInt (k := .u8) (show IntKind.u8.wrap ((a.toNat : Int) - b.toNat) = ((a - b).toNat : Int) by
    rw [BitVec.toNat_sub_of_le (by simpa [BitVec.le_def] using h), ← Int.ofNat_sub h, wrap8, Nat.mod_eq_of_lt (by have := a.isLt; omega)])
set_option maxHeartbeats 4000000 in
theorem only_any (s : List Bt) (fv : Value) (p : Bt → Bool) (w : World) (hF : Fun8 Tryz.prog w fv p) (hl : s.length < 9223372036854775808) : Calls Tryz.prog 144 [Z s, fv].toArray w fun e w' => e = .returned (.bool (s.all p)) ∧ Ext w w' := by
  refine enter (n := 18) Tryz.func144 rfl rfl rfl (Holds.start w []) ?_
  repeat (first | refine JL.q (by first | (apply OQ.lenS; exact Tryz.underlying9; exact rfl) | (apply OQ.move; exact rfl) | (apply OQ.assign; exact rfl)) rfl ?_ | refine JC.seq ?_ | refine JC.region ?_ | refine JC.block ?_ | refine JL.nil ?_ | refine JE.next ?_)
  refine JC.loop (fun i : Nat => [(0, Z s), (1, fv), (7, N s.length), (8, N i)]) (fun _ => []) (fun i => s.length - i) (fun i => i ≤ s.length ∧ (s.take i).all p = true) 0 ⟨Nat.zero_le _, rfl⟩ (by repeat (first | exact SubE.nil | refine SubE.cons _ _ _ rfl ?_)) (Less.refl _) ?_
  rintro i ⟨hi, ha⟩
  repeat (first | refine JL.q (by (apply OQ.lssN; exact rfl; exact rfl)) rfl ?_ | refine JC.seq ?_ | refine JC.region ?_ | refine JL.nil ?_ | refine JE.next ?_)
  refine JC.cond rfl (fun h => ?_) (fun h => ?_)
  · have hi' : i < s.length := of_decide_eq_true h
    clear h hi
    have hx := all_take p s 0 hi'
    have hbad := all_bad p s 0 hi'
    rw [ha, Bool.true_and] at hx
    have i0 := fun {n : Nat} {E : Env} {C : World → Prop} {dst : Option Tmp} {ty : TypeId} {pos : String} {aft : Array Edge} {g : Option (Nat × Bool)} {x y : Operand} => idxAt hi' (n := n) (E := E) (C := C) (dst := dst) (ty := ty) (pos := pos) (aft := aft) (g := g) (x := x) (y := y)
    generalize s.getD i 0 = c at hx hbad i0
    cases h1 : p c
    · rw [hbad h1]
      repeat (first | refine JL.q (by first | (apply i0; exact rfl; exact rfl) | (apply OQ.callF; exact hF; exact rfl; exact rfl; exact h1) | (apply OQ.not; exact rfl) | (apply OQ.move; exact rfl) | (apply OQ.assign; exact rfl)) rfl ?_ | refine JC.seq ?_ | refine JC.region ?_ | refine JC.block ?_ | refine JC.skip ?_ | refine JL.nil ?_ | refine JE.next ?_)
      refine JC.cond rfl (fun _ => ?_) (fun h => by cases h)
      repeat (first | refine JL.q (by (apply OQ.assign; exact rfl)) rfl ?_ | refine JC.seq ?_ | refine JC.region ?_ | refine JL.nil ?_ | refine JE.next ?_)
      refine JC.ret ?_
      repeat (first | refine JE.then_ret ?_ | refine JE.blk_ret ?_)
      exact JE.ret1 rfl (RV.tmp rfl) fun w' hw => ⟨rfl, hw.chg⟩
    · repeat (first | refine JL.q (by first | (apply i0; exact rfl; exact rfl) | (apply OQ.callF; exact hF; exact rfl; exact rfl; exact h1) | (apply OQ.not; exact rfl) | (apply OQ.move; exact rfl) | (apply OQ.assign; exact rfl)) rfl ?_ | refine JC.seq ?_ | refine JC.region ?_ | refine JC.block ?_ | refine JC.skip ?_ | refine JL.nil ?_ | refine JE.next ?_)
      refine JC.cond rfl (fun h => by cases h) (fun _ => ?_)
      repeat (first | refine JL.q (by first | (apply OQ.move; exact rfl) | (apply OQ.addN; exact rfl; exact rfl; exact (by (try simp only []); omega))) rfl ?_ | refine JC.region ?_ | refine JC.skip ?_ | refine JL.nil ?_ | refine JE.next ?_ | refine JE.blk_normal ?_)
      exact JE.again (i := i) (i + 1) ⟨hi', by rw [hx, h1]⟩ (by omega) (by repeat (first | exact SubE.nil | refine SubE.cons _ _ _ rfl ?_)) (Less.refl _)
  · have hi' : ¬ i < s.length := of_decide_eq_false h
    obtain rfl : i = s.length := by omega
    clear h hi hi'
    rw [List.take_length] at ha
    rw [ha]
    repeat (first | refine JL.q (by (apply OQ.assign; exact rfl)) rfl ?_ | refine JC.seq ?_ | refine JC.region ?_ | refine JC.exit ?_ | refine JL.nil ?_ | refine JE.next ?_ | refine JE.then_exit ?_ | refine JE.blk_hit ?_)
    refine JC.ret ?_
    exact JE.ret1 rfl (RV.tmp rfl) fun w' hw => ⟨rfl, hw.chg⟩
/-! ### names -/
theorem nokA_is : ∀ c : Fld.By, nok c = ((decide ((33 : Int) ≤ (c.toNat : Int)) && decide ((c.toNat : Int) ≤ 126)) && !decide (c = 58)) := by
  have h : ∀ c : Fin 256, nok (BitVec.ofNat 8 c.val) = ((decide ((33 : Int) ≤ ((BitVec.ofNat 8 c.val).toNat : Int)) && decide (((BitVec.ofNat 8 c.val).toNat : Int) ≤ 126)) && !decide (BitVec.ofNat 8 c.val = 58)) := by decide +kernel
  intro c
  simpa using h ⟨c.toNat, c.isLt⟩
set_option maxHeartbeats 4000000 in
theorem name1_any (c : Bt) (w : World) : Calls Tryz.prog 145 [U8 c].toArray w fun e w' => e = .returned (.bool (nok c)) ∧ Ext w w' := by
  refine enter (n := 14) Tryz.func145 rfl rfl rfl (Holds.start w []) ?_
  rw [nokA_is]
  cases h1 : decide ((33 : Int) ≤ (c.toNat : Int)) <;> cases h2 : decide ((c.toNat : Int) ≤ 126) <;> cases h3 : decide (c = 58)
  all_goals (repeat (first | refine JL.q (by first | (apply OQ.geqB (b := 33); exact rfl; exact rfl; exact h1) | (apply OQ.leqB (b := 126); exact rfl; exact rfl; exact h2) | (apply OQ.idxZ (l := [58]) (i := 0); exact Tryz.underlying9; exact rfl; exact rfl; exact (by decide)) | (apply OQ.ne8B (b := 58); exact rfl; exact rfl; exact h3) | (apply OQ.pick_t; exact rfl; exact rfl) | (apply OQ.pick_f; exact rfl; exact rfl) | (apply OQ.move; exact rfl) | (apply OQ.assign; exact rfl)) rfl ?_ | refine JC.seq ?_ | refine JC.region ?_ | refine JL.nil ?_ | refine JE.next ?_ | refine JL.gon rfl rfl ?_ | refine JL.gskip rfl rfl rfl rfl ?_))
  all_goals exact JC.ret (JE.ret1 rfl (RV.tmp rfl) fun w' hw => ⟨rfl, hw.chg⟩)
theorem fun_name1 (w : World) : Fun8 Tryz.prog w (.func (.func 145) #[] #[]) nok :=
  ⟨_, [], rfl, ⟨_, Tryz.func145, rfl, by kernel_rfl⟩, fun c w' _ => name1_any c w'⟩
set_option maxHeartbeats 4000000 in
theorem fname_any (s : List Bt) (w : World) (hl : s.length < 9223372036854775808) : Calls Tryz.prog 117 [Z s].toArray w fun e w' => e = .returned (.bool (nameB s)) ∧ Ext w w' := by
  refine enter (n := 14) Tryz.func117 rfl rfl rfl (Holds.start w []) ?_
  have hv : nameB s = ((!decide (s = []) && decide ((s.length : Int) ≤ 64)) && s.all nok) := by
    unfold nameB
    have e1 : decide (1 ≤ s.length) = !decide (s = []) := by
      cases s <;> simp
    have e2 : decide (s.length ≤ 64) = decide ((s.length : Int) ≤ 64) := decide_eq_decide.2 (by omega)
    rw [e1, e2]
    cases s.all nok <;> cases decide (s = []) <;> cases decide ((s.length : Int) ≤ 64) <;> rfl
  rw [hv]
  have cO := fun w' => only_any s (.func (.func 145) #[] #[]) nok w' (fun_name1 w') hl
  cases h1 : decide (s = []) <;> cases h2 : decide ((s.length : Int) ≤ 64) <;> cases h3 : s.all nok
  all_goals (repeat (first | refine JL.q (by first | (apply OQ.neSB (r := []); exact rfl; exact rfl; exact h1) | (apply OQ.lenS; exact Tryz.underlying9; exact rfl) | (apply OQ.leqB (b := 64); exact rfl; exact rfl; exact h2) | (apply OQ.callb (vs := [Z s, .func (.func 145) #[] #[]]); exact goes_fonly; exact rfl; exact cO; exact h3) | (apply OQ.pick_t; exact rfl; exact rfl) | (apply OQ.pick_f; exact rfl; exact rfl) | (apply OQ.move; exact rfl) | (apply OQ.assign; exact rfl)) rfl ?_ | refine JC.seq ?_ | refine JC.region ?_ | refine JL.nil ?_ | refine JE.next ?_ | refine JL.gon rfl rfl ?_ | refine JL.gskip rfl rfl rfl rfl ?_))
  all_goals exact JC.ret (JE.ret1 rfl (RV.tmp rfl) fun w' hw => ⟨rfl, hw.chg⟩)
/-! ### values -/
theorem sokA_is : ∀ c : Fld.By, sok c = ((decide ((32 : Int) ≤ (c.toNat : Int)) && decide ((c.toNat : Int) ≤ 126)) || decide (c = 9)) := by
  have h : ∀ c : Fin 256, sok (BitVec.ofNat 8 c.val) = ((decide ((32 : Int) ≤ ((BitVec.ofNat 8 c.val).toNat : Int)) && decide (((BitVec.ofNat 8 c.val).toNat : Int) ≤ 126)) || decide (BitVec.ofNat 8 c.val = 9)) := by decide +kernel
  intro c
  simpa using h ⟨c.toNat, c.isLt⟩
theorem OQ.eq8B {P : Program} {n : Nat} {E : Env} {C : World → Prop} {dst : Option Tmp} {t t' ty : TypeId} {pos : String} {aft : Array Edge} {g : Option (Nat × Bool)} {x y : Operand} {a b : BitVec 8} {c : Bool} (hx : ev E x = some (U8 a)) (hy : ev E y = some (U8 b)) (h : decide (a = b) = c) : OQ P n E C ⟨dst, .binOp .eql t x y t', ty, pos, aft, g⟩ (.bool c) := h ▸ OQ.eq8 hx hy
set_option maxHeartbeats 4000000 in
theorem value1_any (c : Bt) (w : World) : Calls Tryz.prog 146 [U8 c].toArray w fun e w' => e = .returned (.bool (sok c)) ∧ Ext w w' := by
  refine enter (n := 13) Tryz.func146 rfl rfl rfl (Holds.start w []) ?_
  rw [sokA_is]
  cases h1 : decide ((32 : Int) ≤ (c.toNat : Int)) <;> cases h2 : decide ((c.toNat : Int) ≤ 126) <;> cases h3 : decide (c = 9)
  all_goals (repeat (first | refine JL.q (by first | (apply OQ.geqB (b := 32); exact rfl; exact rfl; exact h1) | (apply OQ.leqB (b := 126); exact rfl; exact rfl; exact h2) | (apply OQ.eq8B (b := 9); exact rfl; exact rfl; exact h3) | (apply OQ.pick_t; exact rfl; exact rfl) | (apply OQ.pick_f; exact rfl; exact rfl) | (apply OQ.move; exact rfl) | (apply OQ.assign; exact rfl)) rfl ?_ | refine JC.seq ?_ | refine JC.region ?_ | refine JL.nil ?_ | refine JE.next ?_ | refine JL.gon rfl rfl ?_ | refine JL.gskip rfl rfl rfl rfl ?_))
  all_goals exact JC.ret (JE.ret1 rfl (RV.tmp rfl) fun w' hw => ⟨rfl, hw.chg⟩)
theorem fun_value1 (w : World) : Fun8 Tryz.prog w (.func (.func 146) #[] #[]) sok :=
  ⟨_, [], rfl, ⟨_, Tryz.func146, rfl, by kernel_rfl⟩, fun c w' _ => value1_any c w'⟩
set_option maxHeartbeats 4000000 in
theorem fvalue_any (s : List Bt) (w : World) : Calls Tryz.prog 118 [Z s].toArray w fun e w' => e = .returned (.bool (valB s)) ∧ Ext w w' := by
  refine enter (n := 16) Tryz.func118 rfl rfl rfl (Holds.start w []) ?_
  have hv : valB s = ((decide ((s.length : Int) ≤ 8192) && decide (s = trim s)) && s.all sok) := by
    rw [valB_is, Bool.and_assoc]
    congr 1
    exact decide_eq_decide.2 (by omega)
  rw [hv]
  cases h1 : decide ((s.length : Int) ≤ 8192)
  · cases h3 : s.all sok
    all_goals (repeat (first | refine JL.q (by first | (apply OQ.lenS; exact Tryz.underlying9; exact rfl) | (apply OQ.leqB (b := 8192); exact rfl; exact rfl; exact h1) | (apply OQ.pick_f; exact rfl; exact rfl) | (apply OQ.move; exact rfl) | (apply OQ.assign; exact rfl)) rfl ?_ | refine JC.seq ?_ | refine JC.region ?_ | refine JL.nil ?_ | refine JE.next ?_ | refine JL.gskip rfl rfl rfl rfl ?_))
    all_goals exact JC.ret (JE.ret1 rfl (RV.tmp rfl) fun w' hw => ⟨rfl, hw.chg⟩)
  · have hl : s.length < 9223372036854775808 := by have := of_decide_eq_true h1; omega
    have cO := fun w' => only_any s (.func (.func 146) #[] #[]) sok w' (fun_value1 w') hl
    have cT := fun w' => trimw_any s w' hl
    cases h2 : decide (s = trim s) <;> cases h3 : s.all sok
    all_goals (repeat (first | refine JL.q (by first | (apply OQ.lenS; exact Tryz.underlying9; exact rfl) | (apply OQ.leqB (b := 8192); exact rfl; exact rfl; exact h1) | (apply OQ.callx (vs := [Z s, Z [32, 9]]); exact goes_trimw; exact rfl; exact (fun w' _ => cT w')) | (apply OQ.eqSB; exact rfl; exact rfl; exact h2) | (apply OQ.callb (vs := [Z s, .func (.func 146) #[] #[]]); exact goes_fonly; exact rfl; exact cO; exact h3) | (apply OQ.pick_t; exact rfl; exact rfl) | (apply OQ.pick_f; exact rfl; exact rfl) | (apply OQ.move; exact rfl) | (apply OQ.assign; exact rfl)) rfl ?_ | refine JC.seq ?_ | refine JC.region ?_ | refine JL.nil ?_ | refine JE.next ?_ | refine JL.gon rfl rfl ?_ | refine JL.gskip rfl rfl rfl rfl ?_))
    all_goals exact JC.ret (JE.ret1 rfl (RV.tmp rfl) fun w' hw => ⟨rfl, hw.chg⟩)
/-! ### two names -/
theorem smallA_is : ∀ c : Fld.By, 65 ≤ c.toNat → c.toNat ≤ 90 → c - 65 + 97 = small c := by
  have h : ∀ c : Fin 256, 65 ≤ (BitVec.ofNat 8 c.val).toNat → (BitVec.ofNat 8 c.val).toNat ≤ 90 → BitVec.ofNat 8 c.val - 65 + 97 = small (BitVec.ofNat 8 c.val) := by decide +kernel
  intro c
  simpa using h ⟨c.toNat, c.isLt⟩
set_option maxHeartbeats 4000000 in
theorem fsmall_any (c : Bt) (w : World) : Calls Tryz.prog 135 [U8 c].toArray w fun e w' => e = .returned (U8 (small c)) ∧ Ext w w' := by
  refine enter (n := 13) Tryz.func135 rfl rfl rfl (Holds.start w []) ?_
  by_cases hb : 65 ≤ c.toNat ∧ c.toNat ≤ 90
  · have h1 : decide ((65 : Int) ≤ (c.toNat : Int)) = true := decide_eq_true (by omega)
    have h2 : decide ((c.toNat : Int) ≤ 90) = true := decide_eq_true (by omega)
    repeat (first | refine JL.q (by first | (apply OQ.geqB (b := 65); exact rfl; exact rfl; exact h1) | (apply OQ.leqB (b := 90); exact rfl; exact rfl; exact h2) | (apply OQ.pick_t; exact rfl; exact rfl) | (apply OQ.move; exact rfl) | (apply OQ.assign; exact rfl)) rfl ?_ | refine JC.seq ?_ | refine JC.region ?_ | refine JL.nil ?_ | refine JE.next ?_ | refine JL.gon rfl rfl ?_)
    refine JC.cond rfl (fun _ => ?_) (fun h => by cases h)
    repeat (first | refine JL.q (by first | (apply OQ.sub8 (b := 65); exact rfl; exact rfl; exact hb.1) | (apply OQ.add8 (b := 97); exact rfl; exact rfl) | (apply OQ.move; exact rfl) | (apply OQ.assign; exact rfl)) rfl ?_ | refine JC.seq ?_ | refine JC.region ?_ | refine JL.nil ?_ | refine JE.next ?_)
    refine JC.ret ?_
    repeat (refine JE.then_ret ?_)
    exact JE.ret1 rfl (RV.tmp rfl) fun w' hw => ⟨by rw [smallA_is c hb.1 hb.2], hw.chg⟩
  · have hs : small c = c := if_neg hb
    rw [hs]
    cases h1 : decide ((65 : Int) ≤ (c.toNat : Int)) <;> cases h2 : decide ((c.toNat : Int) ≤ 90)
    all_goals try (exfalso; have := of_decide_eq_true h1; have := of_decide_eq_true h2; omega)
    all_goals (repeat (first | refine JL.q (by first | (apply OQ.geqB (b := 65); exact rfl; exact rfl; exact h1) | (apply OQ.leqB (b := 90); exact rfl; exact rfl; exact h2) | (apply OQ.pick_t; exact rfl; exact rfl) | (apply OQ.pick_f; exact rfl; exact rfl) | (apply OQ.move; exact rfl) | (apply OQ.assign; exact rfl)) rfl ?_ | refine JC.seq ?_ | refine JC.region ?_ | refine JL.nil ?_ | refine JE.next ?_ | refine JL.gon rfl rfl ?_ | refine JL.gskip rfl rfl rfl rfl ?_))
    all_goals refine JC.cond rfl (fun h => by cases h) (fun _ => ?_)
    all_goals (repeat (first | refine JL.q (by first | (apply OQ.move; exact rfl) | (apply OQ.assign; exact rfl)) rfl ?_ | refine JC.seq ?_ | refine JC.region ?_ | refine JC.skip ?_ | refine JL.nil ?_ | refine JE.next ?_))
    all_goals exact JC.ret (JE.ret1 rfl (RV.tmp rfl) fun w' hw => ⟨rfl, hw.chg⟩)
set_option maxHeartbeats 8000000 in
theorem fsame_any (a b : List Fld.By) (w : World) (hl : a.length < 9223372036854775808) : Calls Tryz.prog 96 [Z a, Z b].toArray w fun e w' => e = .returned (.bool (sameB a b)) ∧ Ext w w' := by
  refine enter (n := 26) Tryz.func96 rfl rfl rfl (Holds.start w []) ?_
  cases h0 : decide ((a.length : Int) = (b.length : Int))
  · have hne : sameB a b = false := decide_eq_false fun h => by
      have := congrArg List.length h
      simp only [List.length_map] at this
      exact of_decide_eq_false h0 (by omega)
    rw [hne]
    repeat (first | refine JL.q (by first | (apply OQ.lenS; exact Tryz.underlying9; exact rfl) | (apply OQ.neB; exact rfl; exact rfl; exact h0) | (apply OQ.move; exact rfl) | (apply OQ.assign; exact rfl)) rfl ?_ | refine JC.seq ?_ | refine JC.region ?_ | refine JL.nil ?_ | refine JE.next ?_)
    refine JC.cond rfl (fun _ => ?_) (fun h => by cases h)
    repeat (first | refine JL.q (by (apply OQ.assign; exact rfl)) rfl ?_ | refine JC.seq ?_ | refine JC.region ?_ | refine JL.nil ?_ | refine JE.next ?_)
    refine JC.ret ?_
    repeat (refine JE.then_ret ?_)
    exact JE.ret1 rfl (RV.tmp rfl) fun w' hw => ⟨rfl, hw.chg⟩
  · have hab : a.length = b.length := by have := of_decide_eq_true h0; omega
    repeat (first | refine JL.q (by first | (apply OQ.lenS; exact Tryz.underlying9; exact rfl) | (apply OQ.neB; exact rfl; exact rfl; exact h0) | (apply OQ.move; exact rfl) | (apply OQ.assign; exact rfl)) rfl ?_ | refine JC.seq ?_ | refine JC.region ?_ | refine JL.nil ?_ | refine JE.next ?_)
    refine JC.cond rfl (fun h => by cases h) (fun _ => ?_)
    repeat (first | refine JL.q (by first | (apply OQ.lenS; exact Tryz.underlying9; exact rfl) | (apply OQ.move; exact rfl)) rfl ?_ | refine JC.seq ?_ | refine JC.region ?_ | refine JC.block ?_ | refine JC.skip ?_ | refine JL.nil ?_ | refine JE.next ?_)
    refine JC.loop (fun i : Nat => [(0, Z a), (1, Z b), (12, N a.length), (13, N i)]) (fun _ => []) (fun i => a.length - i) (fun i => i ≤ a.length ∧ (a.take i).map small = (b.take i).map small) 0 ⟨Nat.zero_le _, rfl⟩ (by repeat (first | exact SubE.nil | refine SubE.cons _ _ _ rfl ?_)) (Less.refl _) ?_
    rintro i ⟨hi, ha⟩
    repeat (first | refine JL.q (by (apply OQ.lssN; exact rfl; exact rfl)) rfl ?_ | refine JC.seq ?_ | refine JC.region ?_ | refine JL.nil ?_ | refine JE.next ?_)
    refine JC.cond rfl (fun h => ?_) (fun h => ?_)
    · have hi' : i < a.length := of_decide_eq_true h
      have hi2 : i < b.length := by omega
      clear h hi
      have hx := map_take_eq a b hi' hi2 ha
      have hbad := map_at_ne a b hi' hi2
      have i0 := fun {n : Nat} {E : Env} {C : World → Prop} {dst : Option Tmp} {ty : TypeId} {pos : String} {aft : Array Edge} {g : Option (Nat × Bool)} {x y : Operand} => idxAt hi' (n := n) (E := E) (C := C) (dst := dst) (ty := ty) (pos := pos) (aft := aft) (g := g) (x := x) (y := y)
      have i1 := fun {n : Nat} {E : Env} {C : World → Prop} {dst : Option Tmp} {ty : TypeId} {pos : String} {aft : Array Edge} {g : Option (Nat × Bool)} {x y : Operand} => idxAt hi2 (n := n) (E := E) (C := C) (dst := dst) (ty := ty) (pos := pos) (aft := aft) (g := g) (x := x) (y := y)
      generalize a.getD i 0 = c at hx hbad i0
      generalize b.getD i 0 = d at hx hbad i1
      cases h1 : decide (small c = small d)
      · rw [hbad (of_decide_eq_false h1)]
        repeat (first | refine JL.q (by first | (apply OQ.move; exact rfl) | (apply OQ.assign; exact rfl)) rfl ?_ | refine JC.seq ?_ | refine JC.region ?_ | refine JC.block ?_ | refine JC.skip ?_ | refine JL.nil ?_ | refine JE.next ?_)
        refine JC.quiet mixT (by kernel_rfl) ?_
        repeat (first | refine JQ.q (by first | (apply i0; exact rfl; exact rfl) | (apply i1; exact rfl; exact rfl) | (apply OQ.callx (vs := [U8 c]); exact goes_fsmall; exact rfl; exact (fun w' _ => fsmall_any c w')) | (apply OQ.callx (vs := [U8 d]); exact goes_fsmall; exact rfl; exact (fun w' _ => fsmall_any d w')) | (apply OQ.ne8B; exact rfl; exact rfl; exact h1) | (apply OQ.move; exact rfl)) rfl ?_ | refine JQ.nil ?_ | refine JE.next ?_)
        refine JC.cond rfl (fun _ => ?_) (fun h => by cases h)
        repeat (first | refine JL.q (by (apply OQ.assign; exact rfl)) rfl ?_ | refine JC.seq ?_ | refine JC.region ?_ | refine JL.nil ?_ | refine JE.next ?_)
        refine JC.ret ?_
        repeat (first | refine JE.then_ret ?_ | refine JE.blk_ret ?_)
        exact JE.ret1 rfl (RV.tmp rfl) fun w' hw => ⟨rfl, hw.chg⟩
      · repeat (first | refine JL.q (by first | (apply OQ.move; exact rfl) | (apply OQ.assign; exact rfl)) rfl ?_ | refine JC.seq ?_ | refine JC.region ?_ | refine JC.block ?_ | refine JC.skip ?_ | refine JL.nil ?_ | refine JE.next ?_)
        refine JC.quiet mixT (by kernel_rfl) ?_
        repeat (first | refine JQ.q (by first | (apply i0; exact rfl; exact rfl) | (apply i1; exact rfl; exact rfl) | (apply OQ.callx (vs := [U8 c]); exact goes_fsmall; exact rfl; exact (fun w' _ => fsmall_any c w')) | (apply OQ.callx (vs := [U8 d]); exact goes_fsmall; exact rfl; exact (fun w' _ => fsmall_any d w')) | (apply OQ.ne8B; exact rfl; exact rfl; exact h1) | (apply OQ.move; exact rfl)) rfl ?_ | refine JQ.nil ?_ | refine JE.next ?_)
        refine JC.cond rfl (fun h => by cases h) (fun _ => ?_)
        repeat (first | refine JL.q (by first | (apply OQ.move; exact rfl) | (apply OQ.addN; exact rfl; exact rfl; exact (by (try simp only []); omega))) rfl ?_ | refine JC.region ?_ | refine JC.skip ?_ | refine JL.nil ?_ | refine JE.next ?_ | refine JE.blk_normal ?_)
        exact JE.again (i := i) (i + 1) ⟨hi', hx (of_decide_eq_true h1)⟩ (by omega) (by repeat (first | exact SubE.nil | refine SubE.cons _ _ _ rfl ?_)) (Less.refl _)
    · have hi' : ¬ i < a.length := of_decide_eq_false h
      obtain rfl : i = a.length := by omega
      clear h hi hi'
      rw [List.take_length, List.take_of_length_le (by omega)] at ha
      rw [show sameB a b = true from decide_eq_true ha]
      repeat (first | refine JL.q (by (apply OQ.assign; exact rfl)) rfl ?_ | refine JC.seq ?_ | refine JC.region ?_ | refine JC.exit ?_ | refine JL.nil ?_ | refine JE.next ?_ | refine JE.then_exit ?_ | refine JE.blk_hit ?_)
      refine JC.ret ?_
      exact JE.ret1 rfl (RV.tmp rfl) fun w' hw => ⟨rfl, hw.chg⟩
/-! ### blanks and pieces -/
theorem blank_ix : ∀ c : Fld.By, decide ((0 : Int) ≤ ixC c [32, 9]) = bl c := by
  have h : ∀ c : Fin 256, decide ((0 : Int) ≤ ixC (BitVec.ofNat 8 c.val) [32, 9]) = bl (BitVec.ofNat 8 c.val) := by decide +kernel
  intro c
  simpa using h ⟨c.toNat, c.isLt⟩
theorem fblank_any (c : Bt) (w : World) : Calls Tryz.prog 169 [U8 c].toArray w fun e w' => e = .returned (.bool (bl c)) ∧ Ext w w' := by
  refine enter (n := 6) Tryz.func169 rfl rfl rfl (Holds.start w []) ?_
  repeat (first | refine JL.q (by first | (apply OQ.callx (vs := [Z [32, 9], U8 c]); exact goes_idxb; exact rfl; exact (fun w' _ => idxb_any [32, 9] c w')) | (apply OQ.geqB (b := 0); exact rfl; exact rfl; exact (blank_ix c)) | (apply OQ.move; exact rfl) | (apply OQ.assign; exact rfl)) rfl ?_ | refine JC.seq ?_ | refine JC.region ?_ | refine JL.nil ?_ | refine JE.next ?_)
  exact JC.ret (JE.ret1 rfl (RV.tmp rfl) fun w' hw => ⟨rfl, hw.chg⟩)
end Go.Proofs.YtbbmhkdfdgnkpaaGreatDoor

/-
  Of no statement by itself: what the reference's Right and SameFields (layer 9) give.
  Conditions: each theorem's own.
-/
namespace Go.Proofs.YtbbmhkdfdgnkpaaGreatDoor
set_option maxRecDepth 10000
open Sl Fld
theorem fieldA : aggT Tryz.prog 51 = true := by kernel_rfl
theorem fieldS : szT Tryz.prog 51 = some 2 := by kernel_rfl
end Go.Proofs.YtbbmhkdfdgnkpaaGreatDoor

/-
  Of no statement by itself: append onto a slice of bytes that a conversion of a string has made (its block bears a mark behind its cells); over X's partial knowledge, for any program P.
  Conditions: each rule's own hypotheses.
-/
namespace Go.Proofs.YtbbmhkdfdgnkpaaGreatDoor
namespace Sl
/-- a slice's own cells, first in their block, none of which is frozen -/
def OwnF (e : TypeId) (n cap : Nat) (xs : List Value) : Obj → Prop := fun o => ∃ (sp : List Value) (fr : Nat × Nat), o = .cells (xs ++ sp).toArray e fr ∧ (cap ≤ fr.1 ∨ fr.2 = 0) ∧ (xs ++ sp).length = cap ∧ xs.length = n ∧ n ≤ cap
theorem OwnF.cells {e : TypeId} {n cap : Nat} {xs : List Value} : ∀ o, OwnF e n cap xs o → hasCells o 0 xs := by
  rintro o ⟨sp, fr, rfl, _⟩
  exact ⟨_, _, _, rfl, fun i hi => by simp [List.getElem?_append_left hi]⟩
section
variable {P : Program} {t tx e : TypeId}
variable {n : Nat} {w0 : World} {S : List Nat} {ops : Array Oper} {Q : Exit → Act → World → Prop} {l : List Oper} {E : Env} {M : List Ent} {d b : Nat} {ty : TypeId} {pos : String} {aft : Array Edge} {x y : Operand}
end
end Sl
end Go.Proofs.YtbbmhkdfdgnkpaaGreatDoor

/-
  Of no statement by itself: what the reference's Fold (layer 9) gives.
  Conditions: each theorem's own.
-/
namespace Go.Proofs.YtbbmhkdfdgnkpaaGreatDoor
set_option maxRecDepth 10000
open Sl Fld
end Go.Proofs.YtbbmhkdfdgnkpaaGreatDoor

/-
  Of no statement by itself: what a field as lines is, with its number (field's Fold); which functions go.
  Conditions: none.
-/
namespace Go.Proofs.YtbbmhkdfdgnkpaaGreatDoor
set_option maxRecDepth 10000
open Sl Fld
theorem goes_fname : Goes Tryz.prog 117 := ⟨_, Tryz.func117, rfl, by kernel_rfl⟩
theorem goes_fsame : Goes Tryz.prog 96 := ⟨_, Tryz.func96, rfl, by kernel_rfl⟩
end Go.Proofs.YtbbmhkdfdgnkpaaGreatDoor

/-
  Of no statement by itself: what the landed mime's encodingOf, nameOf, hasParts and boundaryOf give, where the encodings' table lies in its variable.
  Conditions: each theorem's own.
-/
namespace Go.Proofs.YtbbmhkdfdgnkpaaGreatDoor
set_option maxRecDepth 10000
open Sl Fld Mim
/-- the encodings' names, and their codes, as the table has them -/
def encN : List (List Bt) := [b8, b64, qpN, b7, bin, []]
def encC : List Int := [0, 1, 2, 0, 0, 0]
def encT : List Value := [Z b8, .int .i64 0, Z b64, .int .i64 1, Z qpN, .int .i64 2, Z b7, .int .i64 0, Z bin, .int .i64 0, Z [], .int .i64 0]
/-- the variable mime.encodings holds the table -/
def EncOk (w : World) : Prop := ∃ e fr, w.heap[0]? = some (.cells encT.toArray e fr)
theorem EncOk.lt {w : World} (h : EncOk w) : 0 < w.heap.size := by
  obtain ⟨e, fr, h⟩ := h
  exact (Array.getElem?_eq_some_iff.1 h).1
theorem EncOk.ext {w w' : World} (h : EncOk w) (hx : Ext w w') : EncOk w' := by
  have hl := h.lt
  obtain ⟨e, fr, h⟩ := h
  exact ⟨e, fr, (hx.block _ hl (by simp)).trans h⟩
theorem EncOk.holds {w0 w : World} {M : List Ent} (h : EncOk w0) (hw : Holds w0 [] M w) : EncOk w := h.ext hw.chg
theorem EncOk.cell {w : World} (h : EncOk w) : ∀ i u, encT[i]? = some u → w.cell? ⟨0, 0 + i, none⟩ = some u := fun i u hu => by
  obtain ⟨e, fr, h⟩ := h
  exact cell_of h (by show (encT.toArray)[0 + i]? = some u; rw [Nat.zero_add]; simpa using hu)
theorem goes_encof : Goes Tryz.prog 67 := ⟨_, Tryz.func67, rfl, by kernel_rfl⟩
theorem goes_hasp : Goes Tryz.prog 38 := ⟨_, Tryz.func38, rfl, by kernel_rfl⟩
theorem goes_bof : Goes Tryz.prog 45 := ⟨_, Tryz.func45, rfl, by kernel_rfl⟩
theorem tbA : aggT Tryz.prog 98 = true := by kernel_rfl
theorem tbS : szT Tryz.prog 98 = some 12 := by kernel_rfl
theorem tbU : Tryz.prog.underlying 98 = some (.array 6 97) := by kernel_rfl
theorem roA : aggT Tryz.prog 97 = true := by kernel_rfl
theorem roS : szT Tryz.prog 97 = some 2 := by kernel_rfl
theorem roZ : zc Tryz.prog 97 = some [Z [], .int .i64 0] := by kernel_rfl
theorem paA : aggT Tryz.prog 38 = true := by kernel_rfl
theorem paS : szT Tryz.prog 38 = some 2 := by kernel_rfl
theorem paZ : zc Tryz.prog 38 = some [Z [], Z []] := by kernel_rfl
section
variable {n : Nat} {E : Env} {C : World → Prop} {dst : Option Tmp} {ty : TypeId} {pos : String} {aft : Array Edge} {g : Option (Nat × Bool)} {x : Operand} {b : Nat}
theorem ro_fld0 (hx : ev E x = some (.pointer (some ⟨b, 0, none⟩))) : OQ Tryz.prog n E C ⟨dst, .fieldAddr 97 x 0, ty, pos, aft, g⟩ (.pointer (some ⟨b, 0, none⟩)) := OQ.fldx (o := 0) Tryz.underlying97 rfl rfl (by decide) hx rfl
theorem ro_fld1 (hx : ev E x = some (.pointer (some ⟨b, 0, none⟩))) : OQ Tryz.prog n E C ⟨dst, .fieldAddr 97 x 1, ty, pos, aft, g⟩ (.pointer (some ⟨b, 1, none⟩)) := OQ.fldx (o := 1) Tryz.underlying97 rfl rfl (by decide) hx rfl
end
theorem inCE : scal Tryz.prog 3 = true := by kernel_rfl
theorem OQ.indexG {P : Program} {n : Nat} {E : Env} {C : World → Prop} {dst : Option Tmp} {t ty e : TypeId} {pos : String} {aft : Array Edge} {g : Option (Nat × Bool)} {x y : Operand} {len i sz : Nat} {cs ds : List Value} (hu : P.underlying t = some (.array len e)) (hz : szT P e = some sz) (ha : aggT P e = true) (hx : ev E x = some (.agg cs.toArray)) (hy : ev E y = some (N i)) (hi : i < len) (hv : (cs.drop (i * sz)).take sz = ds) :
    OQ P n E C ⟨dst, .index t x y, ty, pos, aft, g⟩ (.agg ds.toArray) :=
  OQ.run fun a hk w _ => by
    have h1 := hk.eval hx
    have h2 := hk.eval hy
    have h3 : (underlying t).run P w = .ok (.array len e) w := run_underlying hu w
    simp [execOp, h1, h2, Instr.index, asIntOf, Sem.run_bind, h3, hi, sizeOf_run hz, part, isAgg_agg ha, hv]
theorem enc_row {i : Nat} (h : i < 6) : (encT.drop (i * 2)).take 2 = [Z (encN.getD i []), .int .i64 (encC.getD i 0)] := by
  have : i = 0 ∨ i = 1 ∨ i = 2 ∨ i = 3 ∨ i = 4 ∨ i = 5 := by omega
  rcases this with rfl | rfl | rfl | rfl | rfl | rfl <;> rfl
theorem enc_len (i : Nat) : (encN.getD i []).length < 9223372036854775808 := by
  by_cases h : i < 6
  · have : i = 0 ∨ i = 1 ∨ i = 2 ∨ i = 3 ∨ i = 4 ∨ i = 5 := by omega
    rcases this with rfl | rfl | rfl | rfl | rfl | rfl <;> decide
  · rw [List.getD_eq_getElem?_getD, List.getElem?_eq_none (by show 6 ≤ i; omega)]
    decide
theorem enc_hit {i : Nat} (h : i < 6) {c : List Fld.By} (hs : sameB (encN.getD i []) c = true) : codB (c.map small) = some (encC.getD i 0) := by
  have hs := of_decide_eq_true hs
  rw [← hs]
  have : i = 0 ∨ i = 1 ∨ i = 2 ∨ i = 3 ∨ i = 4 ∨ i = 5 := by omega
  rcases this with rfl | rfl | rfl | rfl | rfl | rfl <;> decide
theorem enc_miss {c : List Fld.By} (h : ∀ j, j < 6 → sameB (encN.getD j []) c = false) : codB (c.map small) = none := by
  have k := fun j hj => of_decide_eq_false (h j hj)
  have h0 : ¬ b8 = c.map small := k 0 (by decide)
  have h1 : ¬ b64 = c.map small := k 1 (by decide)
  have h2 : ¬ qpN = c.map small := k 2 (by decide)
  have h3 : ¬ b7 = c.map small := k 3 (by decide)
  have h4 : ¬ bin = c.map small := k 4 (by decide)
  have h5 : ¬ [] = c.map small := k 5 (by decide)
  unfold codB
  rw [if_neg (fun e => h1 e.symm), if_neg (fun e => h2 e.symm), if_neg]
  rintro (e | e | e | e)
  · exact h5 e.symm
  · exact h3 e.symm
  · exact h0 e.symm
  · exact h4 e.symm
set_option maxHeartbeats 16000000 in
theorem encof_any (c : List Bt) (w : World) (hE : EncOk w) : Calls Tryz.prog 67 [Z c].toArray w fun e w' => e = .returned (.tuple #[.int .i64 ((codB (c.map small)).getD 0), .bool (codB (c.map small)).isSome]) ∧ Ext w w' := by
  refine enter (n := 17) Tryz.func67 rfl rfl rfl (Holds.start w []) ?_
  repeat (first | refine JL.q (by first | (apply OQ.load_agg_old (cs := encT); exact tbA; exact rfl; exact tbS; exact hE.lt; exact (by simp); exact hE.cell) | (apply OQ.move; exact rfl) | (apply OQ.assign; exact rfl)) rfl ?_ | refine JC.seq ?_ | refine JC.region ?_ | refine JC.block ?_ | refine JL.nil ?_ | refine JE.next ?_)
  refine JC.loop (fun i : Nat => [(0, Z c), (6, .agg encT.toArray), (7, N i)]) (fun _ => []) (fun i => 6 - i) (fun i => i ≤ 6 ∧ ∀ j, j < i → sameB (encN.getD j []) c = false) 0 ⟨by decide, fun j hj => by omega⟩ (by repeat (first | exact SubE.nil | refine SubE.cons _ _ _ rfl ?_)) (Less.refl _) ?_
  rintro i ⟨hi, hno⟩
  repeat (first | refine JL.q (by (apply OQ.lssN; exact rfl; exact rfl)) rfl ?_ | refine JC.seq ?_ | refine JC.region ?_ | refine JL.nil ?_ | refine JE.next ?_)
  refine JC.cond rfl (fun h => ?_) (fun h => ?_)
  · have hi' : i < 6 := of_decide_eq_true h
    clear h hi
    repeat (first | refine JL.q (by (apply OQ.indexG (cs := encT); exact tbU; exact roS; exact roA; exact rfl; exact rfl; exact hi'; exact (enc_row hi'))) rfl ?_ | refine JC.seq ?_ | refine JC.region ?_ | refine JC.block ?_ | refine JC.skip ?_ | refine JE.next ?_)
    refine JL.alloc roZ rfl fun b5 _ => ?_
    refine JL.store_all (cs := [Z (encN.getD i []), .int .i64 (encC.getD i 0)]) roS rfl rfl rfl rfl .here rfl ?_
    have cs := fun w' => fsame_any (encN.getD i []) c w' (enc_len i)
    cases hb : sameB (encN.getD i []) c
    · rw [hb] at cs
      repeat (first | refine JL.q (by first | (apply ro_fld0; exact rfl) | (apply OQ.load; exact strC; exact rfl; exact .here; exact (Row.cell (v := Z (encN.getD i [])) rfl)) | (apply OQ.callx (vs := [Z (encN.getD i []), Z c]); exact goes_fsame; exact rfl; exact (fun w' _ => cs w')) | (apply OQ.move; exact rfl)) rfl ?_ | refine JC.seq ?_ | refine JC.region ?_ | refine JL.nil ?_ | refine JE.next ?_)
      refine JC.cond rfl (fun h => by cases h) (fun _ => ?_)
      repeat (first | refine JL.q (by first | (apply OQ.move; exact rfl) | (apply OQ.addN; exact rfl; exact rfl; exact (by (try simp only []); omega))) rfl ?_ | refine JC.region ?_ | refine JC.skip ?_ | refine JL.nil ?_ | refine JE.next ?_ | refine JE.blk_normal ?_)
      refine JE.again (i := i) (i + 1) ⟨hi', fun j hj => ?_⟩ (by omega) (by repeat (first | exact SubE.nil | refine SubE.cons _ _ _ rfl ?_)) (.nil _)
      by_cases e : j = i
      · subst e; exact hb
      · exact hno j (by omega)
    · rw [hb] at cs
      rw [enc_hit hi' hb]
      repeat (first | refine JL.q (by first | (apply ro_fld0; exact rfl) | (apply OQ.load; exact strC; exact rfl; exact .here; exact (Row.cell (v := Z (encN.getD i [])) rfl)) | (apply OQ.callx (vs := [Z (encN.getD i []), Z c]); exact goes_fsame; exact rfl; exact (fun w' _ => cs w')) | (apply OQ.move; exact rfl)) rfl ?_ | refine JC.seq ?_ | refine JC.region ?_ | refine JL.nil ?_ | refine JE.next ?_)
      refine JC.cond rfl (fun _ => ?_) (fun h => by cases h)
      repeat (first | refine JL.q (by first | (apply ro_fld1; exact rfl) | (apply OQ.load; exact inCE; exact rfl; exact .here; exact (Row.cell (v := .int .i64 (encC.getD i 0)) rfl)) | (apply OQ.assign; exact rfl)) rfl ?_ | refine JC.seq ?_ | refine JC.region ?_ | refine JL.nil ?_ | refine JE.next ?_)
      refine JC.ret ?_
      repeat (first | refine JE.then_ret ?_ | refine JE.blk_ret ?_)
      exact JE.ret2 rfl (RV.tmp rfl) (RV.tmp rfl) fun w' hw => ⟨rfl, hw.chg⟩
  · have hi' : ¬ i < 6 := of_decide_eq_false h
    obtain rfl : i = 6 := by omega
    rw [enc_miss hno]
    repeat (first | refine JL.q (by (apply OQ.assign; exact rfl)) rfl ?_ | refine JC.seq ?_ | refine JC.region ?_ | refine JC.exit ?_ | refine JL.nil ?_ | refine JE.next ?_ | refine JE.then_exit ?_ | refine JE.blk_hit ?_)
    exact JC.ret (JE.ret2 rfl (RV.tmp rfl) (RV.tmp rfl) fun w' hw => ⟨rfl, hw.chg⟩)
theorem hasp_any (k : List Bt) (v1 v2 v3 v4 : Value) (h1 : v1.cells = #[v1]) (w : World) : Calls Tryz.prog 38 [.agg #[Z k, v1, v2, v3, v4]].toArray w fun e w' => e = .returned (.bool (multiB k)) ∧ Ext w w' := by
  refine enter (n := 6) Tryz.func38 rfl rfl rfl (Holds.start w []) ?_
  refine JC.seq (JC.region (JL.box (r := [Z k, v1, v2, v3, v4]) rfl rfl rfl fun b _ => ?_))
  have hq := fun w' => shpx_any k multiN w'
  have e10 : decide (k.take multiN.length = multiN) = multiB k := rfl
  rw [e10] at hq
  repeat (first | refine JL.q (by first | (apply OQ.load; exact strC; exact rfl; exact .here; exact (Row.cell (v := Z k) rfl)) | (apply OQ.callx (vs := [Z k, Z multiN]); exact goes_shpx; exact rfl; exact (fun w' _ => hq w')) | (apply OQ.assign; exact rfl) | (apply OQ.fld; exact rfl; exact rfl; exact rfl; exact (by decide); exact rfl)) rfl ?_ | refine JC.seq ?_ | refine JC.region ?_ | refine JL.nil ?_ | refine JE.next ?_)
  exact JC.ret (JE.ret1 rfl (RV.tmp rfl) fun w' hw => ⟨rfl, hw.chg⟩)
theorem par_step {l : List PrB} {i : Nat} (hi : i < l.length) (hno : ∀ j, j < i → ¬ (l.getD j ([], [])).1 = bdN) (h : (l.getD i ([], [])).1 = bdN) : parB l bdN = (l.getD i ([], [])).2 := by
  induction l generalizing i with
  | nil => simp at hi
  | cons p l ih =>
    cases i with
    | zero =>
      unfold parB
      rw [List.find?_cons_of_pos (by simpa using h)]
      rfl
    | succ i =>
      have h0 : ¬ p.1 = bdN := hno 0 (by omega)
      have := ih (i := i) (by simpa using hi) (fun j hj => by simpa using hno (j + 1) (by omega)) (by simpa using h)
      unfold parB at this ⊢
      rw [List.find?_cons_of_neg (by simpa using h0), this]
      simp
theorem par_none {l : List PrB} (hno : ∀ j, j < l.length → ¬ (l.getD j ([], [])).1 = bdN) : parB l bdN = [] := by
  have : l.find? (fun p => decide (p.1 = bdN)) = none := by
    rw [List.find?_eq_none]
    intro p hp
    obtain ⟨j, hj, rfl⟩ := List.getElem_of_mem hp
    have := hno j hj
    rw [List.getD_eq_getElem?_getD, List.getElem?_eq_getElem hj] at this
    simpa using this
  unfold parB
  rw [this]
  rfl
set_option maxHeartbeats 16000000 in
theorem bof_any (k : List Bt) (ps : Sl2) (v2 v3 v4 : Value) (w : World) (hp : ps.ok w) (hl : ps.l.length < 9223372036854775807) : Calls Tryz.prog 45 [.agg #[Z k, ps.v, v2, v3, v4]].toArray w fun e w' => e = .returned (Z (parB ps.l bdN)) ∧ Ext w w' := by
  refine enter (n := 18) Tryz.func45 rfl rfl rfl (Holds.start w []) ?_
  refine JC.seq (JC.region (JL.box (r := [Z k, ps.v, v2, v3, v4]) rfl rfl rfl fun b _ => ?_))
  repeat (first | refine JL.q (by first | (apply OQ.load; exact prC; exact rfl; exact .here; exact (Row.cell (v := ps.v) rfl)) | (apply OQ.len; exact Tryz.underlying33; exact rfl) | (apply OQ.move; exact rfl) | (apply OQ.assign; exact rfl) | (apply OQ.fld; exact rfl; exact rfl; exact rfl; exact (by decide); exact rfl)) rfl ?_ | refine JC.seq ?_ | refine JC.region ?_ | refine JC.block ?_ | refine JL.nil ?_ | refine JE.next ?_)
  refine JC.loop (fun i : Nat => [(6, ps.v), (7, N ps.l.length), (8, N i)]) (fun _ => []) (fun i => ps.l.length - i) (fun i => i ≤ ps.l.length ∧ ∀ j, j < i → ¬ (ps.l.getD j ([], [])).1 = bdN) 0 ⟨Nat.zero_le _, fun j hj => by omega⟩ (by repeat (first | exact SubE.nil | refine SubE.cons _ _ _ rfl ?_)) (.nil _) ?_
  rintro i ⟨hi, hno⟩
  repeat (first | refine JL.q (by (apply OQ.lssN; exact rfl; exact rfl)) rfl ?_ | refine JC.seq ?_ | refine JC.region ?_ | refine JL.nil ?_ | refine JE.next ?_)
  refine JC.cond rfl (fun h => ?_) (fun h => ?_)
  · have hi' : i < ps.l.length := of_decide_eq_true h
    clear h hi
    obtain ⟨ba, ja, eA, la, ca1, ca2⟩ := hp.at hi'
    have vA : ps.v = .slice (some ⟨ba, ja, none⟩) ps.l.length ps.cap := by rw [← eA]; rfl
    have hstep := fun h => par_step hi' hno h
    have hnext : ¬ (ps.l.getD i ([], [])).1 = bdN → ∀ j, j < i + 1 → ¬ (ps.l.getD j ([], [])).1 = bdN := fun h j hj => by
      by_cases e : j = i
      · subst e; exact h
      · exact hno j (by omega)
    generalize ps.l.getD i ([], []) = pr at ca1 ca2 hstep hnext
    have hcs : ∀ k' u, ([Z pr.1, Z pr.2] : List Value)[k']? = some u → w.cell? ⟨ba, ja + i * 2 + k', none⟩ = some u := fun k' u hu => by
      match k', hu with
      | 0, hu => cases hu; exact ca1
      | 1, hu => cases hu; exact ca2
      | k' + 2, hu => simp at hu
    rw [vA]
    repeat (first | refine JL.q (by first | (apply OQ.idxS; exact Tryz.underlying33; exact paS; exact rfl; exact rfl; exact hi') | (apply OQ.load_agg_old (cs := [Z pr.1, Z pr.2]); exact paA; exact rfl; exact paS; exact la; exact (by simp); exact hcs)) rfl ?_ | refine JC.seq ?_ | refine JC.region ?_ | refine JC.block ?_ | refine JC.skip ?_ | refine JE.next ?_)
    refine JL.alloc paZ rfl fun b4 _ => ?_
    refine JL.store_all (cs := [Z pr.1, Z pr.2]) paS rfl rfl rfl rfl .here rfl ?_
    cases hb : decide (pr.1 = bdN)
    · repeat (first | refine JL.q (by first | (apply OQ.load; exact strC; exact rfl; exact .here; exact (Row.cell (v := Z pr.1) rfl)) | (apply OQ.eqSB (l := pr.1) (r := bdN); exact rfl; exact rfl; exact hb) | (apply OQ.fld; exact rfl; exact rfl; exact rfl; exact (by decide); exact rfl)) rfl ?_ | refine JC.seq ?_ | refine JC.region ?_ | refine JL.nil ?_ | refine JE.next ?_)
      refine JC.cond rfl (fun h => by cases h) (fun _ => ?_)
      repeat (first | refine JL.q (by first | (apply OQ.move; exact rfl) | (apply OQ.addN; exact rfl; exact rfl; exact (by (try simp only []); omega))) rfl ?_ | refine JC.region ?_ | refine JC.skip ?_ | refine JL.nil ?_ | refine JE.next ?_ | refine JE.blk_normal ?_)
      rw [← vA]
      exact JE.again (i := i) (i + 1) ⟨hi', hnext (of_decide_eq_false hb)⟩ (by omega) (by repeat (first | exact SubE.nil | refine SubE.cons _ _ _ rfl ?_)) (.nil _)
    · rw [hstep (of_decide_eq_true hb)]
      repeat (first | refine JL.q (by first | (apply OQ.load; exact strC; exact rfl; exact .here; exact (Row.cell (v := Z pr.1) rfl)) | (apply OQ.eqSB (l := pr.1) (r := bdN); exact rfl; exact rfl; exact hb) | (apply OQ.fld; exact rfl; exact rfl; exact rfl; exact (by decide); exact rfl)) rfl ?_ | refine JC.seq ?_ | refine JC.region ?_ | refine JL.nil ?_ | refine JE.next ?_)
      refine JC.cond rfl (fun _ => ?_) (fun h => by cases h)
      repeat (first | refine JL.q (by first | (apply OQ.load; exact strC; exact rfl; exact .here; exact (Row.cell (v := Z pr.2) rfl)) | (apply OQ.assign; exact rfl) | (apply OQ.fld; exact rfl; exact rfl; exact rfl; exact (by decide); exact rfl)) rfl ?_ | refine JC.seq ?_ | refine JC.region ?_ | refine JL.nil ?_ | refine JE.next ?_)
      refine JC.ret ?_
      repeat (first | refine JE.then_ret ?_ | refine JE.blk_ret ?_)
      exact JE.ret1 rfl (RV.tmp rfl) fun w' hw => ⟨rfl, hw.chg⟩
  · have hi' : ¬ i < ps.l.length := of_decide_eq_false h
    obtain rfl : i = ps.l.length := by omega
    rw [par_none hno]
    repeat (first | refine JL.q (by (apply OQ.assign; exact rfl)) rfl ?_ | refine JC.seq ?_ | refine JC.region ?_ | refine JC.exit ?_ | refine JL.nil ?_ | refine JE.next ?_ | refine JE.then_exit ?_ | refine JE.blk_hit ?_)
    exact JC.ret (JE.ret1 rfl (RV.tmp rfl) fun w' hw => ⟨rfl, hw.chg⟩)
end Go.Proofs.YtbbmhkdfdgnkpaaGreatDoor

/-
  Of no statement by itself: how long what is read of a mail may be; a multipart's parts by themselves; pure; no program stands here.
  Conditions: none but each lemma's own.
-/
namespace Go.Proofs.YtbbmhkdfdgnkpaaGreatDoor
namespace Mim
open Fld Tok
theorem cut_le {b l r : List By} (h : cut b = some (l, r)) : r.length ≤ b.length := by
  unfold cut at h
  split at h
  · cases h
    rw [List.length_drop]
    omega
  · cases h
theorem rd_low : ∀ (n k : Nat) (b : List By) (fs : List PrB) (R : List By), b.length ≤ n → k ≤ 200 → rd k b = .ok (fs, R) → R.length ≤ b.length ∧ fs.length + k ≤ 200 ∧ ∀ p ∈ fs, p.1.length ≤ 64 ∧ p.2.length ≤ 8192 := by
  intro n
  induction n with
  | zero =>
    intro k b fs R hb hk h
    obtain rfl : b = [] := List.eq_nil_of_length_eq_zero (by omega)
    rw [rd_none (by rfl)] at h
    cases h
  | succ n ih =>
    intro k b fs R hb hk h
    unfold rd at h
    split at h
    · cases h
    · next l r hc =>
      have hr := cut_le hc
      split at h
      · cases h
        exact ⟨hr, by simpa using hk, by simp⟩
      · split at h
        · cases h
        · next hnm =>
          split at h
          · cases h
          · next hk2 =>
            split at h
            · cases h
            · next vs r' hcn =>
              split at h
              · cases h
              · next hv =>
                split at h
                · cases h
                · split at h
                  · next hlt =>
                    cases hq : rd (k + 1) r' with
                    | error e => rw [hq] at h; cases h
                    | ok q =>
                      rw [hq] at h
                      obtain ⟨qf, qr⟩ := q
                      cases h
                      obtain ⟨i1, i2, i3⟩ := ih (k + 1) r' qf _ (by omega) (by omega) hq
                      refine ⟨by show qr.length ≤ b.length; omega, by simp only [List.length_cons]; omega, fun p hp => ?_⟩
                      rcases List.mem_cons.1 hp with rfl | hp
                      · refine ⟨?_, by show (trim _).length ≤ 8192; omega⟩
                        have hn : nameB (l.takeWhile (· != 58)) = true := Decidable.byContradiction fun hh => hnm (.inr hh)
                        unfold nameB at hn
                        rw [Bool.and_eq_true, Bool.and_eq_true] at hn
                        exact of_decide_eq_true hn.2
                      · exact i3 p hp
                  · cases h
/-- what is read of a mail is no longer than it -/
theorem readL_low {m : List By} {fs : List PrB} {R : List By} (h : readL m = .ok (fs, R)) : R.length ≤ m.length ∧ fs.length ≤ 200 ∧ ∀ p ∈ fs, p.1.length ≤ 64 ∧ p.2.length ≤ 8192 := by
  unfold readL readB at h
  split at h
  · cases h
  · split at h
    · cases h
    · obtain ⟨h1, h2, h3⟩ := rd_low _ 0 m fs R (Nat.le_refl _) (by decide) h
      exact ⟨h1, by omega, h3⟩
/-- what stands between is no longer than all -/
theorem splt_le {b bd : List By} : ∀ y ∈ (spltB b bd).1, y.length ≤ b.length := by
  intro y hy
  unfold spltB at hy
  split at hy
  · cases hy
  · have h0 := linR_sum b []
    have h1 := sum_drop (fun x => markB bd x.1 != 1) (linB b)
    split at hy
    · cases hy
    · next out ho =>
      obtain ⟨_, h2⟩ := splL_sum bd _ _ [] out (Nat.le_refl _) ho
      rcases h2 y hy with h | h
      · cases h
      · have : sumL (linB b) ≤ b.length + 0 := h0.1
        omega
section
variable (Qd : List By → Except Nat (List By))
/-- a multipart's parts -/
def partsR (sub : Option (List By → Except Nat Part)) (b bd : List By) : Except Nat (List Part) :=
  if boundB bd = false then .error 3
  else match sub with
    | none => .error 5
    | some g => if (spltB b bd).2 ≠ 0 then .error (spltB b bd).2 else mapE g (spltB b bd).1
def multO (r : Except Nat (List Part)) (k : List By) (ps : List PrB) : Except Nat Part := match r with
  | .error e => .error e
  | .ok l => .ok (.mk k ps 0 [] l)
def leafO (r : Option Int) (b : List By) (k : List By) (ps : List PrB) : Except Nat Part := match r with
  | none => .error 3
  | some c => match bodyR Qd c b with
    | .error e => .error e
    | .ok x => .ok (.mk k ps c x [])
theorem nodeR_is (sub : Option (List By → Except Nat Part)) (f : List PrB) (b : List By) : nodeR Qd sub f b =
    if (typB f).2.2 ≠ 0 then .error (typB f).2.2
    else if multiB (typB f).1 then multO (partsR sub b (parB (typB f).2.1 bdN)) (typB f).1 (typB f).2.1
    else leafO Qd (codB (ceB f)) b (typB f).1 (typB f).2.1 := by
  unfold nodeR partsR multO leafO
  by_cases h1 : (typB f).2.2 ≠ 0
  · rw [if_pos h1, if_pos h1]
  · rw [if_neg h1, if_neg h1]
    by_cases h2 : multiB (typB f).1 = true
    · rw [if_pos h2, if_pos h2]
      by_cases h3 : boundB (parB (typB f).2.1 bdN) = false
      · rw [if_pos h3, if_pos h3]
      · rw [if_neg h3, if_neg h3]
        cases sub with
        | none => rfl
        | some g =>
          dsimp only
          by_cases h4 : (spltB b (parB (typB f).2.1 bdN)).2 ≠ 0
          · rw [if_pos h4, if_pos h4]
          · rw [if_neg h4, if_neg h4] <;> (cases mapE g (spltB b (parB (typB f).2.1 bdN)).1 <;> rfl)
    · rw [if_neg h2, if_neg h2]
      all_goals cases codB (ceB f) with
      | none => rfl
      | some c => dsimp only; cases bodyR Qd c b <;> rfl
end
theorem mapE_snoc {α β : Type} {f : α → Except Nat β} {l : List α} {xs : List β} {a : α} {y : β} (h : mapE f l = .ok xs) (ha : f a = .ok y) : mapE f (l ++ [a]) = .ok (xs ++ [y]) := by
  induction l generalizing xs with
  | nil =>
    cases h
    show mapE f [a] = _
    unfold mapE
    rw [ha]
    rfl
  | cons b l ih =>
    rw [List.cons_append]
    unfold mapE at h ⊢
    cases e1 : f b with
    | error e => rw [e1] at h; cases h
    | ok z =>
      rw [e1] at h
      cases e2 : mapE f l with
      | error e => rw [e2] at h; cases h
      | ok zs =>
        rw [e2] at h
        cases h
        rw [ih e2]
        rfl
theorem mapE_err {α β : Type} {f : α → Except Nat β} {l r : List α} {xs : List β} {a : α} {e : Nat} (h : mapE f l = .ok xs) (ha : f a = .error e) : mapE f (l ++ a :: r) = .error e := by
  induction l generalizing xs with
  | nil =>
    show mapE f (a :: r) = _
    unfold mapE
    rw [ha]
  | cons b l ih =>
    rw [List.cons_append]
    unfold mapE at h ⊢
    cases e1 : f b with
    | error e' => rw [e1] at h; cases h
    | ok z =>
      rw [e1] at h
      cases e2 : mapE f l with
      | error e' => rw [e2] at h; cases h
      | ok zs =>
        rw [ih e2]
theorem all_ctW (f : List PrB) : allB ctW f = allB ctN f := by
  have e : ctW.map small = ctN.map small := by decide
  unfold allB sameB
  rw [e]
theorem all_ceW (f : List PrB) : allB ceW f = allB ceN f := by
  have e : ceW.map small = ceN.map small := by decide
  unfold allB sameB
  rw [e]
theorem ceB_head (f : List PrB) : ceB f = (trim ((allB ceN f).headD [])).map small := by
  unfold ceB
  cases allB ceN f with
  | nil => rfl
  | cons v l => rfl
theorem head_low {f : List PrB} {n : List By} {m : Nat} (h : ∀ p ∈ f, sameB p.1 n = true → p.2.length ≤ m) : ((allB n f).headD []).length ≤ m := by
  cases e : allB n f with
  | nil => exact Nat.zero_le _
  | cons v l =>
    have hv : v ∈ allB n f := by rw [e]; exact List.mem_cons_self
    unfold allB at hv
    obtain ⟨p, hp, rfl⟩ := List.mem_map.1 hv
    obtain ⟨h1, h2⟩ := List.mem_filter.1 hp
    exact h p h1 h2
theorem rd_ne : ∀ (n k : Nat) (b : List By) (e : Nat), b.length ≤ n → rd k b = .error e → e ≠ 0 := by
  intro n
  induction n with
  | zero =>
    intro k b e hb h
    obtain rfl : b = [] := List.eq_nil_of_length_eq_zero (by omega)
    rw [rd_none (by rfl)] at h
    cases h
    decide
  | succ n ih =>
    intro k b e hb h
    unfold rd at h
    split at h
    · cases h; decide
    · next l r hc =>
      split at h
      · cases h
      · split at h
        · cases h; decide
        · split at h
          · cases h; decide
          · split at h
            · cases h; decide
            · next vs r' hcn =>
              split at h
              · cases h; decide
              · split at h
                · cases h; decide
                · split at h
                  · next hlt =>
                    cases hq : rd (k + 1) r' with
                    | error e' =>
                      rw [hq] at h
                      cases h
                      exact ih _ _ _ (by omega) hq
                    | ok q => rw [hq] at h; cases h
                  · cases h; decide
theorem readL_ne {m : List By} {e : Nat} (h : readL m = .error e) : e ≠ 0 := by
  unfold readL readB at h
  split at h
  · cases h; decide
  · split at h
    · cases h; decide
    · exact rd_ne _ 0 m e (Nat.le_refl _) h
theorem mapE_ne {α β : Type} {f : α → Except Nat β} (hf : ∀ a e, f a = .error e → e ≠ 0) : ∀ (l : List α) (e : Nat), mapE f l = .error e → e ≠ 0
  | [], e, h => by cases h
  | a :: l, e, h => by
    unfold mapE at h
    cases e1 : f a with
    | error e' => rw [e1] at h; cases h; exact hf _ _ e1
    | ok y =>
      rw [e1] at h
      cases e2 : mapE f l with
      | error e' => rw [e2] at h; cases h; exact mapE_ne hf l _ e2
      | ok ys => rw [e2] at h; cases h
theorem nodeR_ne {Qd : List By → Except Nat (List By)} (hQ : ∀ b e, Qd b = .error e → e ≠ 0) {sub : Option (List By → Except Nat Part)} (hs : ∀ g, sub = some g → ∀ m e, g m = .error e → e ≠ 0) {f : List PrB} {b : List By} {e : Nat} (h : nodeR Qd sub f b = .error e) : e ≠ 0 := by
  rw [nodeR_is] at h
  split at h
  · next hk => cases h; exact hk
  · split at h
    · cases hp : partsR sub b (parB (typB f).2.1 bdN) with
      | error e' =>
        rw [hp] at h
        unfold multO at h
        cases h
        unfold partsR at hp
        split at hp
        · cases hp; decide
        · cases sub with
          | none => cases hp; decide
          | some g =>
            dsimp only at hp
            split at hp
            · next hk => cases hp; exact hk
            · exact mapE_ne (hs g rfl) _ _ hp
      | ok l => rw [hp] at h; unfold multO at h; cases h
    · unfold leafO at h
      cases hc : codB (ceB f) with
      | none => rw [hc] at h; cases h; decide
      | some c =>
        rw [hc] at h
        dsimp only at h
        cases hb : bodyR Qd c b with
        | error e' =>
          rw [hb] at h
          cases h
          unfold bodyR armR at hb
          split at hb
          · split at hb <;> cases hb
            decide
          · split at hb
            · exact hQ _ _ hb
            · cases hb
        | ok y => rw [hb] at h; cases h
theorem readP_ne {Qd : List By → Except Nat (List By)} (hQ : ∀ b e, Qd b = .error e → e ≠ 0) : ∀ (k : Nat) (f : List PrB) (b : List By) (e : Nat), readP Qd k f b = .error e → e ≠ 0
  | 0, f, b, e, h => nodeR_ne hQ (fun g hg => by cases hg) h
  | k + 1, f, b, e, h => nodeR_ne hQ (fun g hg m e he => by
      cases hg
      unfold subR at he
      cases hr : readL m with
      | error e' => rw [hr] at he; cases he; exact readL_ne hr
      | ok x => rw [hr] at he; exact readP_ne hQ k _ _ _ he) h
end Mim
end Go.Proofs.YtbbmhkdfdgnkpaaGreatDoor

/-
  Of no statement by itself: what the reference's Read (layer 9) gives.
  Conditions: the theorem's own.
-/
namespace Go.Proofs.YtbbmhkdfdgnkpaaGreatDoor
set_option maxRecDepth 10000
open Sl Fld
structure R9 where
  i : Nat
  fs : List Pr
  b : Nat
  cap : Nat
structure V9 where
  t : Nat
  m : Nat
  v : List Bt
  b : Nat
  cap : Nat
end Go.Proofs.YtbbmhkdfdgnkpaaGreatDoor

/-
  Of no statement by itself: what the reference's All, Drop and Set (layer 11) give.
  Conditions: each theorem's own.
-/
namespace Go.Proofs.YtbbmhkdfdgnkpaaGreatDoor
set_option maxRecDepth 10000
open Sl Fld
theorem fieldI : EI Tryz.prog 51 (.agg (pc ([], [])).toArray) 2 32 := by unfold EI; kernel_rfl
theorem fsC : scal Tryz.prog 39 = true := by kernel_rfl
theorem drop_pr {l : List Pr} {i : Nat} (h : i < l.length) : l.drop i = l.getD i ([], []) :: l.drop (i + 1) := by
  rw [List.drop_eq_getElem_cons h, List.getD_eq_getElem?_getD, List.getElem?_eq_getElem h]; rfl
structure AT where
  i : Nat
  o : List (List Bt)
  b : Nat
  cap : Nat
theorem pc_one (p : Pr) : ∀ v ∈ pc p, v.oneCell' = true := by
  intro v hv
  simp only [pc, List.mem_cons, List.not_mem_nil, or_false] at hv
  rcases hv with rfl | rfl <;> rfl
structure DT where
  i : Nat
  o : List Pr
  b : Nat
  cap : Nat
theorem OQ.buildF {n : Nat} {E : Env} {C : World → Prop} {dst : Option Tmp} {ty : TypeId} {pos : String} {aft : Array Edge} {g : Option (Nat × Bool)} {x y : Operand} {a b : List Bt} (hx : ev E x = some (Z a)) (hy : ev E y = some (Z b)) : OQ Tryz.prog n E C ⟨dst, .build 51 #[(0, x), (1, y)], ty, pos, aft, g⟩ (.agg (pc (a, b)).toArray) := by
  refine OQ.run fun k hk w _ => ?_
  have h1 := hk.eval hx
  have h2 := hk.eval hy
  have h3 := run_build (P := Tryz.prog) w 51 #[(0, Z a), (1, Z b)] #[Z a, Z b] (by kernel_rfl)
  simp [execOp, h1, h2, Sem.run_bind, h3, pc]
structure ST where
  i : Nat
  o : List Pr
  d : Bool
  b : Nat
  cap : Nat
end Go.Proofs.YtbbmhkdfdgnkpaaGreatDoor

/-
  Of no statement by itself: what the reference's Param and Multi (layer 12) and Read (layer 11) give.
  Conditions: each theorem's own.
-/
namespace Go.Proofs.YtbbmhkdfdgnkpaaGreatDoor
set_option maxRecDepth 10000
open Sl Fld Mim
end Go.Proofs.YtbbmhkdfdgnkpaaGreatDoor

/-
  Of no statement by itself: append of one element of many cells, that a literal holds, onto nil or onto a slice of the function's own; parts that some blocks hold.
  Conditions: each rule's own hypotheses.
-/
namespace Go.Proofs.YtbbmhkdfdgnkpaaGreatDoor
set_option maxRecDepth 10000
open Sl Mim
namespace Sl
section
variable {P : Program} {n : Nat} {w0 : World} {S : List Nat} {ops : Array Oper} {Q : Exit → Act → World → Prop} {l : List Oper} {E : Env} {M M' M0 : List Ent} {d : Nat} {t e ty : TypeId} {pos : String} {aft : Array Edge} {x y : Operand}
def accC (e : TypeId) (sz : Nat) (q : Acc) (L : List (List Value)) : List Ent := match q with
  | none => []
  | some p => [⟨p.1, Sl.Own e sz L.length p.2 L.flatten, true⟩]
theorem accC_wr (e : TypeId) (sz : Nat) (q : Acc) (L : List (List Value)) : ∀ x ∈ accC e sz q L, x.wr = true := by
  cases q with
  | none => nofun
  | some p => intro x hx; rw [List.mem_singleton.1 hx]
/-- one element more -/
theorem JL.appendC {z : Value} {by' bl sz : Nat} {c : List Value} {L : List (List Value)} (q : Acc) (hu : P.underlying t = some (.slice e)) (hi : EI P e z sz by') (hq : q = none → L = []) (hx : ev E x = some (accV q L.length)) (hy : ev E y = some (.slice (some ⟨bl, 0, none⟩) 1 1))
    (hcl : c.length = sz) (h1 : ∀ v ∈ c, v.oneCell' = true) (hzz : z.cells.size = sz) (h0 : 0 < sz) (hsm : (L.length + 1) * by' ≤ 140737488355328) (hsm2 : L.length + 1 < 9223372036854775808) (hd : Nat.blt d n = true)
    (kk : ∀ b' cap', JL P n w0 S ops Q l ((d, accV (some (b', cap')) (L ++ [c]).length) :: E) (accC e sz (some (b', cap')) (L ++ [c]) ++ M0)) :
    JL P n w0 S ops Q (⟨some d, .call ⟨.builtin .append, #[x, y], #[t, t]⟩, ty, pos, aft, none⟩ :: l) E (⟨bl, Row e c, true⟩ :: (accC e sz q L ++ M0)) := by
  have hr : ∀ w, Holds w0 S (⟨bl, Row e c, true⟩ :: (accC e sz q L ++ M0)) w → Reads w (some ⟨bl, 0, none⟩) c := fun w hw => by
    obtain ⟨o, ho, hA⟩ := hw.get (b := bl) (A := Row e c) (wr := true) .here
    exact Reads.block ho (Row.all _ hA)
  have eN : (L ++ [c]).length = L.length + 1 := List.length_append
  have eF : (L ++ [c]).flatten = L.flatten ++ c := by rw [List.flatten_append]; simp
  cases q with
  | none =>
    obtain rfl := hq rfl
    refine JL.append_nil (cs := c) (m := 1) hu hi hx hy (by rw [hcl, Nat.one_mul]) hr (by decide) hzz h0 (by simpa using hsm) (by decide) hd fun b' cap' _ => ?_
    refine (kk b' cap').lessM ?_
    refine .keep _ _ _ _ _ _ (fun o h => ?_) (.drop _ _ _ (Less.refl _))
    rw [eF]
    exact h
  | some r =>
    refine JL.append (cs := c) (m := 1) (b := r.1) (cap := r.2) (k := L.length) (xs := L.flatten) (fun b' cap' => ⟨bl, Row e c, true⟩ :: (accC e sz (some (b', cap')) (L ++ [c]) ++ M0)) hu hi hx hy (fun b' cap' => ?_) (by rw [hcl, Nat.one_mul]) hr h1 hzz h0 hsm hsm2 hd fun b' cap' => ?_
    · show Repl (_ :: ⟨r.1, Sl.Own e sz L.length r.2 L.flatten, true⟩ :: M0) _ _ _ _ (_ :: ⟨b', Sl.Own e sz (L ++ [c]).length cap' (L ++ [c]).flatten, true⟩ :: M0)
      rw [eN, eF]
      exact .there .here
    · have := kk b' cap'
      rw [show accV (some (b', cap')) (L ++ [c]).length = Value.slice (some ⟨b', 0, none⟩) (L.length + 1) cap' by rw [eN]; rfl] at this
      exact this.lessM (.drop _ _ _ (Less.refl _))
end
end Sl
/-- what is known of some blocks makes five cells a part -/
structure PartE (d : Nat) (p : Part) (cs : List Value) (M : List Ent) : Prop where
  len : cs.length = 5
  one : cs.all Value.oneCell' = true
  wr : ∀ e ∈ M, e.wr = true
  is : ∀ (w0 : World) (S : List Nat) (w' : World), Holds w0 S M w' → IsPart d w' p cs
theorem PartE.less {d : Nat} {p : Part} {cs : List Value} {M M' : List Ent} (h : PartE d p cs M) (hM : Less M M') (hw : ∀ e ∈ M', e.wr = true) : PartE d p cs M' := ⟨h.len, h.one, hw, fun w0 S w' hw' => h.is w0 S w' (Sl.Holds.weak hw' hM)⟩
/-- no parts in it: its parameters and its bytes are some blocks' -/
theorem partE_leaf {k : List Fld.By} {ps : Sl2} {c : Int} {x : Sl8} (h2 : ps.ad = none → ps.l = []) (hx : x.ad = none → x.l = []) : PartE 1 (.mk k ps.l c x.l []) [Z k, ps.v, .int .i64 c, x.v, .slice none 0 0] (x.ents ++ ps.ents) where
  len := rfl
  one := rfl
  wr := fun e he => by
    rcases List.mem_append.1 he with h | h
    · exact x.ents_wr e h
    · exact ps.ents_wr e h
  is := fun w0 S w' hw => ⟨ps, x, none, 0, [], rfl, ⟨Sl2.ents_ok (M := x.ents) (hw.perm' List.perm_append_comm) h2, rfl⟩, ⟨Sl8.ents_ok hw hx, rfl⟩, Nat.le_refl _, Reads.nil _ _, rfl, nofun⟩
theorem flatE_less {Ms : List (List Ent)} {i : Nat} (h : i < Ms.length) : Less (Ms.getD i []) Ms.flatten := by
  rw [List.getD_eq_getElem?_getD, List.getElem?_eq_getElem h]
  exact less_of_sub (List.sublist_flatten_of_mem (List.getElem_mem h))
/-- parts in it: each stands in some blocks -/
theorem partE_node {d : Nat} {k : List Fld.By} {ps : Sl2} {L : List Part} {subs : List (List Value)} {Ms : List (List Ent)} {q : Acc} (h2 : ps.ad = none → ps.l = []) (hq : q = none → subs = []) (hl : subs.length = L.length) (hm : Ms.length = L.length)
    (hs : ∀ i, i < subs.length → PartE d (L.getD i default) (subs.getD i []) (Ms.getD i [])) : PartE (d + 1) (.mk k ps.l 0 [] L) [Z k, ps.v, .int .i64 0, nilS.v, accV q L.length] (accC 36 5 q subs ++ (ps.ents ++ Ms.flatten)) where
  len := rfl
  one := by cases q <;> rfl
  wr := fun e he => by
    rcases List.mem_append.1 he with h | h
    · exact accC_wr _ _ _ _ e h
    rcases List.mem_append.1 h with h | h
    · exact ps.ents_wr e h
    · obtain ⟨M, hM, hm'⟩ := List.mem_flatten.1 h
      obtain ⟨i, hi, rfl⟩ := List.getElem_of_mem hM
      have := (hs i (by omega)).wr e
      rw [List.getD_eq_getElem?_getD, List.getElem?_eq_getElem hi] at this
      exact this hm'
  is := fun w0 S w' hw => by
    have hps : ps.ok w' := Sl2.ents_ok (M := Ms.flatten) (Sl.Holds.weak hw (less_of_sub (List.sublist_append_right _ _))) h2
    have hsub : ∀ i, i < subs.length → IsPart d w' (L.getD i default) (subs.getD i []) := fun i hi =>
      (hs i hi).is w0 S w' (Sl.Holds.weak (Sl.Holds.weak hw (less_of_sub ((List.sublist_append_right _ _).trans (List.sublist_append_right _ _)))) (flatE_less (by omega)))
    cases q with
    | none =>
      have h0 := hq rfl
      have hL : L = [] := List.eq_nil_of_length_eq_zero (by rw [← hl, h0]; rfl)
      subst h0 hL
      exact ⟨ps, nilS, none, 0, [], rfl, ⟨hps, rfl⟩, ⟨nilS_ok w', rfl⟩, Nat.le_refl _, Reads.nil _ _, rfl, nofun⟩
    | some r =>
      obtain ⟨o, ho, hA⟩ := hw.get (b := r.1) (A := Sl.Own 36 5 subs.length r.2 subs.flatten) (wr := true) .here
      have hh := Sl.Own.cells _ hA
      obtain ⟨sp, _, _, _, h4⟩ := hA
      exact ⟨ps, nilS, some ⟨r.1, 0, none⟩, r.2, subs, rfl, ⟨hps, rfl⟩, ⟨nilS_ok w', rfl⟩, by show L.length ≤ r.2; omega, Reads.block ho hh, hl, hsub⟩
end Go.Proofs.YtbbmhkdfdgnkpaaGreatDoor

/-
  Of no statement by itself: what the reference's Params (layer 10) gives.
  Conditions: each theorem's own.
-/
namespace Go.Proofs.YtbbmhkdfdgnkpaaGreatDoor
set_option maxRecDepth 10000
open Sl Fld Tok
theorem parI : EI Tryz.prog 38 (.agg (pc ([], [])).toArray) 2 32 := by unfold EI; kernel_rfl
theorem semV_cons (c : Fld.By) (r : List Fld.By) (q : Bool) (x : List Fld.By) (h : ¬ (q = true ∧ c = 92)) : semR (c :: r) q x = if c = 34 then semR r (!q) (x ++ [c]) else if c = 59 ∧ q = false then x :: semR r q [] else semR r q (x ++ [c]) := by
  conv => lhs; rw [semR.eq_def]
  dsimp only
  rw [if_neg h]
theorem semV_92 (c2 : Fld.By) (r x : List Fld.By) : semR (92 :: c2 :: r) true x = semR r true (x ++ [92, c2]) := by
  conv => lhs; rw [semR.eq_def]
  rfl
theorem semV_92e (x : List Fld.By) : semR [92] true x = [x ++ [92]] := by
  conv => lhs; rw [semR.eq_def]
  rfl
theorem semV_e (q : Bool) (x : List Fld.By) : semR [] q x = [x] := by rw [semR.eq_def]
theorem semV_len : ∀ (n : Nat) (r : List Fld.By) (q : Bool) (x : List Fld.By), r.length ≤ n → (semR r q x).length ≤ r.length + 1 := by
  intro n
  induction n with
  | zero =>
    intro r q x h
    obtain rfl : r = [] := List.eq_nil_of_length_eq_zero (by omega)
    rw [semV_e]; simp
  | succ n ih =>
    intro r q x h
    match r, h with
    | [], _ => rw [semV_e]; simp
    | c :: r, h =>
      simp only [List.length_cons] at h ⊢
      by_cases h9 : q = true ∧ c = 92
      · obtain ⟨rfl, rfl⟩ := h9
        match r, h with
        | [], _ => rw [semV_92e]; simp
        | c2 :: r, h =>
          simp only [List.length_cons] at h ⊢
          rw [semV_92]
          have := ih r true (x ++ [92, c2]) (by omega)
          omega
      · rw [semV_cons _ _ _ _ h9]
        have h1 := ih r (!q) (x ++ [c]) (by omega)
        have h2 := ih r q [] (by omega)
        have h3 := ih r q (x ++ [c]) (by omega)
        split
        · omega
        split
        · rw [List.length_cons]; omega
        · omega
structure QS where
  i : Nat
  fr : Nat
  q : Bool
  o : List (List Fld.By)
  b : Nat
  cap : Nat
structure QT where
  i : Nat
  o : List Pr
  b : Nat
  cap : Nat
end Go.Proofs.YtbbmhkdfdgnkpaaGreatDoor

/-
  Of no statement by itself: what lines of printed signs tell (quoted-printable), step by step; pure; no program stands here.
  Conditions: none.
-/
namespace Go.Proofs.YtbbmhkdfdgnkpaaGreatDoor
namespace Quo
open Fld
def hexV (c : By) : Int := if 48 ≤ c.toNat ∧ c.toNat ≤ 57 then (c.toNat : Int) - 48 else if 65 ≤ c.toNat ∧ c.toNat ≤ 70 then (c.toNat : Int) - 55 else if 97 ≤ c.toNat ∧ c.toNat ≤ 102 then (c.toNat : Int) - 87 else -1
/-- how many blanks stand at the beginning -/
def bkn (b : List By) : Nat := (b.takeWhile bl).length
/-- how many bytes of a line's end, or of a LF alone, stand there -/
def enq : List By → Nat
  | [] => 0
  | c :: r => if c = 10 then 1 else if c = 13 ∧ r.head? = some 10 then 2 else 0
theorem enq_cons (c : By) (r : List By) : enq (c :: r) = if c = 10 then 1 else if c = 13 ∧ r.head? = some 10 then 2 else 0 := rfl
def endsq (b : List By) : Bool := decide (b = []) || decide (0 < enq b)
/-- the byte that two digits tell -/
def hexs (b : List By) : Option By := if 3 ≤ b.length ∧ 0 ≤ hexV (b.getD 1 0) ∧ 0 ≤ hexV (b.getD 2 0) then some (BitVec.ofInt 8 (16 * hexV (b.getD 1 0) + hexV (b.getD 2 0))) else none
/-- behind =, that two digits don't follow: how much is read -/
def softQ (b : List By) : Option Nat := if endsq (b.drop (1 + bkn (b.drop 1))) then some (1 + bkn (b.drop 1) + enq (b.drop (1 + bkn (b.drop 1)))) else none
/-- what is made first, and how much is read of it; none: there is nothing that may stand there -/
def stepQ (b : List By) : Option (List By × Nat) :=
  if b.getD 0 0 = 61 then
    match hexs b with
    | some c => some ([c], 3)
    | none => (softQ b).map fun k => ([], k)
  else if 0 < bkn b then some (if endsq (b.drop (bkn b)) then [] else b.take (bkn b), bkn b)
  else if 0 < enq b then some ([13, 10], enq b)
  else some ([b.getD 0 0], 1)
def accQ (o : List By) : Option (List By) → Option (List By)
  | none => none
  | some x => some (o ++ x)
def decF : Nat → List By → Option (List By)
  | 0, _ => some []
  | n + 1, b => if b = [] then some [] else match stepQ b with
    | none => none
    | some p => accQ p.1 (decF n (b.drop p.2))
def decQ (b : List By) : Option (List By) := decF b.length b
theorem accQ_nil (x : Option (List By)) : accQ [] x = x := by cases x <;> rfl
theorem accQ_acc (a b : List By) (x : Option (List By)) : accQ a (accQ b x) = accQ (a ++ b) x := by cases x <;> simp [accQ]
theorem bkn_le (b : List By) : bkn b ≤ b.length := (List.takeWhile_prefix _).length_le
theorem enq_le : ∀ b : List By, enq b ≤ b.length
  | [] => Nat.le_refl _
  | c :: r => by
    rw [enq_cons]
    split
    · simp
    · split
      · next h => cases r with
        | nil => cases h.2
        | cons d r => simp
      · exact Nat.zero_le _
theorem step_pos {b : List By} {p : List By × Nat} (hb : b ≠ []) (h : stepQ b = some p) : 1 ≤ p.2 ∧ p.2 ≤ b.length := by
  have hl : 1 ≤ b.length := List.length_pos_iff.2 hb
  unfold stepQ at h
  split at h
  · split at h
    · next c hc =>
      cases h
      unfold hexs at hc
      split at hc
      · next h3 => exact ⟨show 1 ≤ 3 by decide, h3.1⟩
      · cases hc
    · obtain ⟨k, hk, rfl⟩ := Option.map_eq_some_iff.1 h
      unfold softQ at hk
      split at hk
      · cases hk
        have h1 := enq_le (b.drop (1 + bkn (b.drop 1)))
        have h2 := bkn_le (b.drop 1)
        rw [List.length_drop] at h1 h2
        dsimp only
        omega
      · cases hk
  · split at h
    · next hk => cases h; exact ⟨hk, bkn_le b⟩
    · split at h
      · next hk => cases h; exact ⟨hk, enq_le b⟩
      · cases h; exact ⟨Nat.le_refl _, hl⟩
theorem decF_enough : ∀ (n m : Nat) (b : List By), b.length ≤ n → b.length ≤ m → decF n b = decF m b
  | 0, 0, _, _, _ => rfl
  | 0, m + 1, b, h, _ => by
    obtain rfl : b = [] := List.eq_nil_of_length_eq_zero (by omega)
    rw [decF, decF, if_pos rfl]
  | n + 1, 0, b, _, h => by
    obtain rfl : b = [] := List.eq_nil_of_length_eq_zero (by omega)
    rw [decF, decF, if_pos rfl]
  | n + 1, m + 1, b, h1, h2 => by
    rw [decF, decF]
    by_cases hb : b = []
    · rw [if_pos hb, if_pos hb]
    · rw [if_neg hb, if_neg hb]
      cases hs : stepQ b with
      | none => rfl
      | some p =>
        have hp := step_pos hb hs
        dsimp only
        rw [decF_enough n m (b.drop p.2) (by rw [List.length_drop]; omega) (by rw [List.length_drop]; omega)]
theorem decQ_step {b : List By} (hb : b ≠ []) : decQ b = match stepQ b with
    | none => none
    | some p => accQ p.1 (decQ (b.drop p.2)) := by
  have hl : 1 ≤ b.length := List.length_pos_iff.2 hb
  unfold decQ
  obtain ⟨n, hn⟩ : ∃ n, b.length = n + 1 := ⟨b.length - 1, by omega⟩
  rw [hn, decF, if_neg hb]
  cases hs : stepQ b with
  | none => rfl
  | some p =>
    have hp := step_pos hb hs
    dsimp only
    rw [decF_enough n (b.drop p.2).length (b.drop p.2) (by rw [List.length_drop]; omega) (Nat.le_refl _)]
theorem bkn_cons (c : By) (r : List By) : bkn (c :: r) = if bl c then bkn r + 1 else 0 := by
  unfold bkn
  rw [List.takeWhile_cons]
  cases bl c <;> simp
theorem enq_no {c : By} {r : List By} (h : 0 < enq (c :: r)) : bl c = false ∧ c ≠ 61 := by
  rw [enq_cons] at h
  split at h
  · next e => subst e; exact ⟨by decide, by decide⟩
  · split at h
    · next e => obtain ⟨rfl, _⟩ := e; exact ⟨by decide, by decide⟩
    · cases h
/-- an end at the beginning -/
theorem dec_end {b : List By} (h : 0 < enq b) : decQ b = accQ [13, 10] (decQ (b.drop (enq b))) := by
  cases b with
  | nil => cases h
  | cons c r =>
    obtain ⟨h1, h2⟩ := enq_no h
    have hk : bkn (c :: r) = 0 := by rw [bkn_cons, h1]; rfl
    rw [decQ_step (by simp)]
    have hs : stepQ (c :: r) = some ([13, 10], enq (c :: r)) := by
      unfold stepQ
      rw [if_neg (by simpa using h2), if_neg (by omega), if_pos h]
    rw [hs]
theorem dec_hex {b : List By} {x : By} (h1 : b.getD 0 0 = 61) (h2 : hexs b = some x) : decQ b = accQ [x] (decQ (b.drop 3)) := by
  have hb : b ≠ [] := by rintro rfl; cases h1
  have hs : stepQ b = some ([x], 3) := by
    unfold stepQ
    rw [if_pos h1, h2]
  rw [decQ_step hb, hs]
theorem dec_soft {b : List By} {k : Nat} (h1 : b.getD 0 0 = 61) (h2 : hexs b = none) (h3 : softQ b = some k) : decQ b = decQ (b.drop k) := by
  have hb : b ≠ [] := by rintro rfl; cases h1
  have hs : stepQ b = some ([], k) := by
    unfold stepQ
    rw [if_pos h1, h2, h3]
    rfl
  rw [decQ_step hb, hs]
  exact accQ_nil _
theorem dec_bad {b : List By} (h1 : b.getD 0 0 = 61) (h2 : hexs b = none) (h3 : softQ b = none) : decQ b = none := by
  have hb : b ≠ [] := by rintro rfl; cases h1
  have hs : stepQ b = none := by
    unfold stepQ
    rw [if_pos h1, h2, h3]
    rfl
  rw [decQ_step hb, hs]
/-- the code, and the bytes -/
def codeQ : Option (List By) → Nat
  | none => 3
  | some _ => 0
def outQ : Option (List By) → List By
  | none => []
  | some x => x
def Qd (b : List By) : Except Nat (List By) := match decQ b with
  | none => .error 3
  | some x => .ok x
end Quo
end Go.Proofs.YtbbmhkdfdgnkpaaGreatDoor

/-
  Of no statement by itself: rules for the walk of the reference's Read (layer 12): answers that are parts, the first text of an answer, what holds in all worlds of a piece of code.
  Conditions: each theorem's own.
-/
namespace Go.Proofs.YtbbmhkdfdgnkpaaGreatDoor
set_option maxRecDepth 10000
open Sl Fld Mim Tok
theorem ptA9 : aggT Tryz.prog 36 = true := by kernel_rfl
theorem ptZ9 : zc Tryz.prog 36 = some [Z [], nil2.v, .int .i64 0, nilS.v, .slice none 0 0] := by kernel_rfl
/-- a part as a function's answer -/
structure PA (d : Nat) (r : Except Nat Part) where
  cs : List Value
  M : List Ent
  len : cs.length = 5
  one : cs.all Value.oneCell' = true
  wr : ∀ e ∈ M, e.wr = true
  is : ∀ p, r = .ok p → PartE d p cs M
def pz : List Value := [Z [], nil2.v, .int .i64 0, nilS.v, .slice none 0 0]
def PA.err {d : Nat} {e : Nat} : PA d (.error e) := ⟨pz, [], rfl, rfl, nofun, nofun⟩
theorem OQ.build_P0 {n : Nat} {E : Env} {C : World → Prop} {dst : Option Tmp} {ty : TypeId} {pos : String} {aft : Array Edge} {g : Option (Nat × Bool)} : OQ Tryz.prog n E C ⟨dst, .build 36 #[], ty, pos, aft, g⟩ (.agg pz.toArray) := by
  refine OQ.run fun k hk w _ => ?_
  have h3 := run_build (P := Tryz.prog) w 36 #[] pz.toArray (by kernel_rfl)
  simp [execOp, Sem.run_bind, h3]
theorem OQ.build_P1 {n : Nat} {E : Env} {C : World → Prop} {dst : Option Tmp} {ty : TypeId} {pos : String} {aft : Array Edge} {g : Option (Nat × Bool)} {a : List Bt} : OQ Tryz.prog n E C ⟨dst, .build 36 #[(0, .const (Z a))], ty, pos, aft, g⟩ (.agg ([Z a, nil2.v, .int .i64 0, nilS.v, .slice none 0 0] : List Value).toArray) := by
  refine OQ.run fun k hk w _ => ?_
  have h3 := run_build (P := Tryz.prog) w 36 #[(0, Z a)] ([Z a, nil2.v, .int .i64 0, nilS.v, .slice none 0 0] : List Value).toArray (by kernel_rfl)
  simp [execOp, Act.eval, Sem.run_bind, h3]
theorem JC.known {P : Program} {n : Nat} {w0 : World} {S : List Nat} {Q : Exit → Act → World → Prop} {E : Env} {M : List Ent} {F : Prop} {c : Code} (h : ∀ w, Holds w0 S M w → F) (k : F → JC P n w0 S Q c E M) : JC P n w0 S Q c E M := ⟨fun a w ha hw => (k (h w hw)).go a w ha hw⟩
theorem JL.known {P : Program} {n : Nat} {w0 : World} {S : List Nat} {ops : Array Oper} {Q : Exit → Act → World → Prop} {l : List Oper} {E : Env} {M : List Ent} {F : Prop} (h : ∀ w, Holds w0 S M w → F) (k : F → JL P n w0 S ops Q l E M) : JL P n w0 S ops Q l E M := ⟨fun a w ha hw => (k (h w hw)).go a w ha hw⟩
/-- the first text of an answer -/
theorem Gz.first {A : List (List Bt)} (y : Gz A) (h : A ≠ []) (hs : ∀ a, y.z.ad = some a → a.spot = none) : ∃ b off cap X, y.z.v = .slice (some ⟨b, off, none⟩) A.length cap ∧ y.z.ents = [⟨b, X, true⟩] ∧ ∀ o, X o → cellAt o (off + 0) = some (Z (A.getD 0 [])) := by
  obtain ⟨⟨ad, cap, l⟩, h1, h2⟩ := y
  dsimp only at h1 h2
  subst h1
  cases ad with
  | none => exact absurd (h2 rfl) h
  | some a =>
    obtain ⟨b, j, sp⟩ := a
    cases sp with
    | none =>
      refine ⟨b, j, cap, _, rfl, rfl, fun o hX => ?_⟩
      obtain ⟨⟨c, e, fr, rfl, hc⟩, _⟩ := hX
      have hp : 0 < l.length := List.length_pos_iff.2 h
      have := hc 0 (by show 0 < (l.map Z).length; rw [List.length_map]; exact hp)
      show c[j + 0]? = _
      rw [this]
      exact map_at Z [] hp
    | some s => cases hs _ rfl
end Go.Proofs.YtbbmhkdfdgnkpaaGreatDoor

/-
  Of no statement by itself: what the landed field's Fold gives.
  Conditions: each theorem's own.
-/
namespace Go.Proofs.YtbbmhkdfdgnkpaaGreatDoor
set_option maxRecDepth 10000
open Sl Fld
end Go.Proofs.YtbbmhkdfdgnkpaaGreatDoor
