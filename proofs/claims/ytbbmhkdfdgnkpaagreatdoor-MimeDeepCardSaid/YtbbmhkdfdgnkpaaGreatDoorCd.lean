/-
  Of no statement by itself: the texts MibE, MibQ, RfC, LetW, RfD, MimG, TokV, QuoS, RfE, FibB, FibC, FibD, LtR, LtS, LtA, LtB, LtC, LetL, LetK, LtD, ArmP, ArmE, ArmD, ArmI, ArmJ, ArmG in one.
  Conditions: each theorem's own.
-/
import Derived.Test.YtbbmhkdfdgnkpaaGreatDoorCc
import Derived.Laws.Tables
set_option linter.unusedSimpArgs false
set_option linter.unusedVariables false
/-
  Of no statement by itself: what the landed mime's encodingOf, nameOf, hasParts and boundaryOf give, where the encodings' table lies in its variable.
  Conditions: each theorem's own.
-/
namespace Go.Proofs.YtbbmhkdfdgnkpaaGreatDoor
set_option maxRecDepth 10000
open Sl Fld Mim
/-- the encodings' names, and their codes, as the table has them -/
def encN : List (List Bt) := [b8, b64, qpN, b7, bin, []]
def encC : List Int := [0, 1, 2, 0, 0, 0]
def encT : List Value := [Z b8, .int .i64 0, Z b64, .int .i64 1, Z qpN, .int .i64 2, Z b7, .int .i64 0, Z bin, .int .i64 0, Z [], .int .i64 0]
/-- the variable mime.encodings holds the table -/
def EncOk (w : World) : Prop := ∃ e fr, w.heap[0]? = some (.cells encT.toArray e fr)
theorem EncOk.lt {w : World} (h : EncOk w) : 0 < w.heap.size := by
  obtain ⟨e, fr, h⟩ := h
  exact (Array.getElem?_eq_some_iff.1 h).1
theorem EncOk.ext {w w' : World} (h : EncOk w) (hx : Ext w w') : EncOk w' := by
  have hl := h.lt
  obtain ⟨e, fr, h⟩ := h
  exact ⟨e, fr, (hx.block _ hl (by simp)).trans h⟩
theorem EncOk.holds {w0 w : World} {M : List Ent} (h : EncOk w0) (hw : Holds w0 [] M w) : EncOk w := h.ext hw.chg
theorem EncOk.cell {w : World} (h : EncOk w) : ∀ i u, encT[i]? = some u → w.cell? ⟨0, 0 + i, none⟩ = some u := fun i u hu => by
  obtain ⟨e, fr, h⟩ := h
  exact cell_of h (by show (encT.toArray)[0 + i]? = some u; rw [Nat.zero_add]; simpa using hu)
theorem goes_encof : Goes Tryz.prog 67 := ⟨_, Tryz.func67, rfl, by kernel_rfl⟩
theorem goes_nameof : Goes Tryz.prog 40 := ⟨_, Tryz.func40, rfl, by kernel_rfl⟩
theorem goes_hasp : Goes Tryz.prog 38 := ⟨_, Tryz.func38, rfl, by kernel_rfl⟩
theorem goes_bof : Goes Tryz.prog 45 := ⟨_, Tryz.func45, rfl, by kernel_rfl⟩
theorem tbA : aggT Tryz.prog 98 = true := by kernel_rfl
theorem tbS : szT Tryz.prog 98 = some 12 := by kernel_rfl
theorem tbU : Tryz.prog.underlying 98 = some (.array 6 97) := by kernel_rfl
theorem roA : aggT Tryz.prog 97 = true := by kernel_rfl
theorem roS : szT Tryz.prog 97 = some 2 := by kernel_rfl
theorem roZ : zc Tryz.prog 97 = some [Z [], .int .i64 0] := by kernel_rfl
theorem paA : aggT Tryz.prog 38 = true := by kernel_rfl
theorem paS : szT Tryz.prog 38 = some 2 := by kernel_rfl
theorem paZ : zc Tryz.prog 38 = some [Z [], Z []] := by kernel_rfl
section
variable {n : Nat} {E : Env} {C : World → Prop} {dst : Option Tmp} {ty : TypeId} {pos : String} {aft : Array Edge} {g : Option (Nat × Bool)} {x : Operand} {b : Nat}
theorem ro_fld0 (hx : ev E x = some (.pointer (some ⟨b, 0, none⟩))) : OQ Tryz.prog n E C ⟨dst, .fieldAddr 97 x 0, ty, pos, aft, g⟩ (.pointer (some ⟨b, 0, none⟩)) := OQ.fldx (o := 0) Tryz.underlying97 rfl rfl (by decide) hx rfl
theorem ro_fld1 (hx : ev E x = some (.pointer (some ⟨b, 0, none⟩))) : OQ Tryz.prog n E C ⟨dst, .fieldAddr 97 x 1, ty, pos, aft, g⟩ (.pointer (some ⟨b, 1, none⟩)) := OQ.fldx (o := 1) Tryz.underlying97 rfl rfl (by decide) hx rfl
end
theorem inCE : scal Tryz.prog 3 = true := by kernel_rfl
theorem OQ.indexG {P : Program} {n : Nat} {E : Env} {C : World → Prop} {dst : Option Tmp} {t ty e : TypeId} {pos : String} {aft : Array Edge} {g : Option (Nat × Bool)} {x y : Operand} {len i sz : Nat} {cs ds : List Value} (hu : P.underlying t = some (.array len e)) (hz : szT P e = some sz) (ha : aggT P e = true) (hx : ev E x = some (.agg cs.toArray)) (hy : ev E y = some (N i)) (hi : i < len) (hv : (cs.drop (i * sz)).take sz = ds) :
    OQ P n E C ⟨dst, .index t x y, ty, pos, aft, g⟩ (.agg ds.toArray) :=
  OQ.run fun a hk w _ => by
    have h1 := hk.eval hx
    have h2 := hk.eval hy
    have h3 : (underlying t).run P w = .ok (.array len e) w := run_underlying hu w
    simp [execOp, h1, h2, Instr.index, asIntOf, Sem.run_bind, h3, hi, sizeOf_run hz, part, isAgg_agg ha, hv]
theorem enc_row {i : Nat} (h : i < 6) : (encT.drop (i * 2)).take 2 = [Z (encN.getD i []), .int .i64 (encC.getD i 0)] := by
  have : i = 0 ∨ i = 1 ∨ i = 2 ∨ i = 3 ∨ i = 4 ∨ i = 5 := by omega
  rcases this with rfl | rfl | rfl | rfl | rfl | rfl <;> rfl
theorem enc_len (i : Nat) : (encN.getD i []).length < 9223372036854775808 := by
  by_cases h : i < 6
  · have : i = 0 ∨ i = 1 ∨ i = 2 ∨ i = 3 ∨ i = 4 ∨ i = 5 := by omega
    rcases this with rfl | rfl | rfl | rfl | rfl | rfl <;> decide
  · rw [List.getD_eq_getElem?_getD, List.getElem?_eq_none (by show 6 ≤ i; omega)]
    decide
theorem enc_hit {i : Nat} (h : i < 6) {c : List Fld.By} (hs : sameB (encN.getD i []) c = true) : codB (c.map small) = some (encC.getD i 0) := by
  have hs := of_decide_eq_true hs
  rw [← hs]
  have : i = 0 ∨ i = 1 ∨ i = 2 ∨ i = 3 ∨ i = 4 ∨ i = 5 := by omega
  rcases this with rfl | rfl | rfl | rfl | rfl | rfl <;> decide
theorem enc_miss {c : List Fld.By} (h : ∀ j, j < 6 → sameB (encN.getD j []) c = false) : codB (c.map small) = none := by
  have k := fun j hj => of_decide_eq_false (h j hj)
  have h0 : ¬ b8 = c.map small := k 0 (by decide)
  have h1 : ¬ b64 = c.map small := k 1 (by decide)
  have h2 : ¬ qpN = c.map small := k 2 (by decide)
  have h3 : ¬ b7 = c.map small := k 3 (by decide)
  have h4 : ¬ bin = c.map small := k 4 (by decide)
  have h5 : ¬ [] = c.map small := k 5 (by decide)
  unfold codB
  rw [if_neg (fun e => h1 e.symm), if_neg (fun e => h2 e.symm), if_neg]
  rintro (e | e | e | e)
  · exact h5 e.symm
  · exact h3 e.symm
  · exact h0 e.symm
  · exact h4 e.symm
set_option maxHeartbeats 16000000 in
theorem encof_any (c : List Bt) (w : World) (hE : EncOk w) : Calls Tryz.prog 67 [Z c].toArray w fun e w' => e = .returned (.tuple #[.int .i64 ((codB (c.map small)).getD 0), .bool (codB (c.map small)).isSome]) ∧ Ext w w' := by
  refine enter (n := 17) Tryz.func67 rfl rfl rfl (Holds.start w []) ?_
  repeat (first | refine JL.q (by first | (apply OQ.load_agg_old (cs := encT); exact tbA; exact rfl; exact tbS; exact hE.lt; exact (by simp); exact hE.cell) | (apply OQ.move; exact rfl) | (apply OQ.assign; exact rfl)) rfl ?_ | refine JC.seq ?_ | refine JC.region ?_ | refine JC.block ?_ | refine JL.nil ?_ | refine JE.next ?_)
  refine JC.loop (fun i : Nat => [(0, Z c), (6, .agg encT.toArray), (7, N i)]) (fun _ => []) (fun i => 6 - i) (fun i => i ≤ 6 ∧ ∀ j, j < i → sameB (encN.getD j []) c = false) 0 ⟨by decide, fun j hj => by omega⟩ (by repeat (first | exact SubE.nil | refine SubE.cons _ _ _ rfl ?_)) (Less.refl _) ?_
  rintro i ⟨hi, hno⟩
  repeat (first | refine JL.q (by (apply OQ.lssN; exact rfl; exact rfl)) rfl ?_ | refine JC.seq ?_ | refine JC.region ?_ | refine JL.nil ?_ | refine JE.next ?_)
  refine JC.cond rfl (fun h => ?_) (fun h => ?_)
  · have hi' : i < 6 := of_decide_eq_true h
    clear h hi
    repeat (first | refine JL.q (by (apply OQ.indexG (cs := encT); exact tbU; exact roS; exact roA; exact rfl; exact rfl; exact hi'; exact (enc_row hi'))) rfl ?_ | refine JC.seq ?_ | refine JC.region ?_ | refine JC.block ?_ | refine JC.skip ?_ | refine JE.next ?_)
    refine JL.alloc roZ rfl fun b5 _ => ?_
    refine JL.store_all (cs := [Z (encN.getD i []), .int .i64 (encC.getD i 0)]) roS rfl rfl rfl rfl .here rfl ?_
    have cs := fun w' => fsame_any (encN.getD i []) c w' (enc_len i)
    cases hb : sameB (encN.getD i []) c
    · rw [hb] at cs
      repeat (first | refine JL.q (by first | (apply ro_fld0; exact rfl) | (apply OQ.load; exact strC; exact rfl; exact .here; exact (Row.cell (v := Z (encN.getD i [])) rfl)) | (apply OQ.callx (vs := [Z (encN.getD i []), Z c]); exact goes_fsame; exact rfl; exact (fun w' _ => cs w')) | (apply OQ.move; exact rfl)) rfl ?_ | refine JC.seq ?_ | refine JC.region ?_ | refine JL.nil ?_ | refine JE.next ?_)
      refine JC.cond rfl (fun h => by cases h) (fun _ => ?_)
      repeat (first | refine JL.q (by first | (apply OQ.move; exact rfl) | (apply OQ.addN; exact rfl; exact rfl; exact (by (try simp only []); omega))) rfl ?_ | refine JC.region ?_ | refine JC.skip ?_ | refine JL.nil ?_ | refine JE.next ?_ | refine JE.blk_normal ?_)
      refine JE.again (i := i) (i + 1) ⟨hi', fun j hj => ?_⟩ (by omega) (by repeat (first | exact SubE.nil | refine SubE.cons _ _ _ rfl ?_)) (.nil _)
      by_cases e : j = i
      · subst e; exact hb
      · exact hno j (by omega)
    · rw [hb] at cs
      rw [enc_hit hi' hb]
      repeat (first | refine JL.q (by first | (apply ro_fld0; exact rfl) | (apply OQ.load; exact strC; exact rfl; exact .here; exact (Row.cell (v := Z (encN.getD i [])) rfl)) | (apply OQ.callx (vs := [Z (encN.getD i []), Z c]); exact goes_fsame; exact rfl; exact (fun w' _ => cs w')) | (apply OQ.move; exact rfl)) rfl ?_ | refine JC.seq ?_ | refine JC.region ?_ | refine JL.nil ?_ | refine JE.next ?_)
      refine JC.cond rfl (fun _ => ?_) (fun h => by cases h)
      repeat (first | refine JL.q (by first | (apply ro_fld1; exact rfl) | (apply OQ.load; exact inCE; exact rfl; exact .here; exact (Row.cell (v := .int .i64 (encC.getD i 0)) rfl)) | (apply OQ.assign; exact rfl)) rfl ?_ | refine JC.seq ?_ | refine JC.region ?_ | refine JL.nil ?_ | refine JE.next ?_)
      refine JC.ret ?_
      repeat (first | refine JE.then_ret ?_ | refine JE.blk_ret ?_)
      exact JE.ret2 rfl (RV.tmp rfl) (RV.tmp rfl) fun w' hw => ⟨rfl, hw.chg⟩
  · have hi' : ¬ i < 6 := of_decide_eq_false h
    obtain rfl : i = 6 := by omega
    rw [enc_miss hno]
    repeat (first | refine JL.q (by (apply OQ.assign; exact rfl)) rfl ?_ | refine JC.seq ?_ | refine JC.region ?_ | refine JC.exit ?_ | refine JL.nil ?_ | refine JE.next ?_ | refine JE.then_exit ?_ | refine JE.blk_hit ?_)
    exact JC.ret (JE.ret2 rfl (RV.tmp rfl) (RV.tmp rfl) fun w' hw => ⟨rfl, hw.chg⟩)
/-- a code's name -/
def namB (c : Int) : Option (List Bt) := if c = 0 then some b8 else if c = 1 then some b64 else if c = 2 then some qpN else none
theorem nam_hit {i : Nat} (h : i < 6) {c : Int} (hc : encC.getD i 0 = c) (hno : ∀ j, j < i → ¬ encC.getD j 0 = c) : namB c = some (encN.getD i []) := by
  subst hc
  have : i = 0 ∨ i = 1 ∨ i = 2 ∨ i = 3 ∨ i = 4 ∨ i = 5 := by omega
  rcases this with rfl | rfl | rfl | rfl | rfl | rfl
  · rfl
  · rfl
  · rfl
  · exact absurd rfl (hno 0 (by decide))
  · exact absurd rfl (hno 0 (by decide))
  · exact absurd rfl (hno 0 (by decide))
theorem nam_miss {c : Int} (hno : ∀ j, j < 6 → ¬ encC.getD j 0 = c) : namB c = none := by
  have h0 : ¬ (0 : Int) = c := hno 0 (by decide)
  have h1 : ¬ (1 : Int) = c := hno 1 (by decide)
  have h2 : ¬ (2 : Int) = c := hno 2 (by decide)
  unfold namB
  rw [if_neg (fun e => h0 e.symm), if_neg (fun e => h1 e.symm), if_neg (fun e => h2 e.symm)]
set_option maxHeartbeats 16000000 in
theorem nameof_any (c : Int) (w : World) (hE : EncOk w) : Calls Tryz.prog 40 [.int .i64 c].toArray w fun e w' => e = .returned (.tuple #[Z ((namB c).getD []), .bool (namB c).isSome]) ∧ Ext w w' := by
  refine enter (n := 17) Tryz.func40 rfl rfl rfl (Holds.start w []) ?_
  repeat (first | refine JL.q (by first | (apply OQ.load_agg_old (cs := encT); exact tbA; exact rfl; exact tbS; exact hE.lt; exact (by simp); exact hE.cell) | (apply OQ.move; exact rfl) | (apply OQ.assign; exact rfl)) rfl ?_ | refine JC.seq ?_ | refine JC.region ?_ | refine JC.block ?_ | refine JL.nil ?_ | refine JE.next ?_)
  refine JC.loop (fun i : Nat => [(0, .int .i64 c), (6, .agg encT.toArray), (7, N i)]) (fun _ => []) (fun i => 6 - i) (fun i => i ≤ 6 ∧ ∀ j, j < i → ¬ encC.getD j 0 = c) 0 ⟨by decide, fun j hj => by omega⟩ (by repeat (first | exact SubE.nil | refine SubE.cons _ _ _ rfl ?_)) (Less.refl _) ?_
  rintro i ⟨hi, hno⟩
  repeat (first | refine JL.q (by (apply OQ.lssN; exact rfl; exact rfl)) rfl ?_ | refine JC.seq ?_ | refine JC.region ?_ | refine JL.nil ?_ | refine JE.next ?_)
  refine JC.cond rfl (fun h => ?_) (fun h => ?_)
  · have hi' : i < 6 := of_decide_eq_true h
    clear h hi
    repeat (first | refine JL.q (by (apply OQ.indexG (cs := encT); exact tbU; exact roS; exact roA; exact rfl; exact rfl; exact hi'; exact (enc_row hi'))) rfl ?_ | refine JC.seq ?_ | refine JC.region ?_ | refine JC.block ?_ | refine JC.skip ?_ | refine JE.next ?_)
    refine JL.alloc roZ rfl fun b5 _ => ?_
    refine JL.store_all (cs := [Z (encN.getD i []), .int .i64 (encC.getD i 0)]) roS rfl rfl rfl rfl .here rfl ?_
    cases hb : decide (encC.getD i 0 = c)
    · repeat (first | refine JL.q (by first | (apply ro_fld1; exact rfl) | (apply OQ.load; exact inCE; exact rfl; exact .here; exact (Row.cell (v := .int .i64 (encC.getD i 0)) rfl)) | (apply OQ.eqB (a := encC.getD i 0) (b := c); exact rfl; exact rfl; exact hb) | (apply OQ.move; exact rfl)) rfl ?_ | refine JC.seq ?_ | refine JC.region ?_ | refine JL.nil ?_ | refine JE.next ?_)
      refine JC.cond rfl (fun h => by cases h) (fun _ => ?_)
      repeat (first | refine JL.q (by first | (apply OQ.move; exact rfl) | (apply OQ.addN; exact rfl; exact rfl; exact (by (try simp only []); omega))) rfl ?_ | refine JC.region ?_ | refine JC.skip ?_ | refine JL.nil ?_ | refine JE.next ?_ | refine JE.blk_normal ?_)
      refine JE.again (i := i) (i + 1) ⟨hi', fun j hj => ?_⟩ (by omega) (by repeat (first | exact SubE.nil | refine SubE.cons _ _ _ rfl ?_)) (.nil _)
      by_cases e : j = i
      · subst e; exact of_decide_eq_false hb
      · exact hno j (by omega)
    · rw [nam_hit hi' (of_decide_eq_true hb) hno]
      repeat (first | refine JL.q (by first | (apply ro_fld1; exact rfl) | (apply OQ.load; exact inCE; exact rfl; exact .here; exact (Row.cell (v := .int .i64 (encC.getD i 0)) rfl)) | (apply OQ.eqB (a := encC.getD i 0) (b := c); exact rfl; exact rfl; exact hb) | (apply OQ.move; exact rfl)) rfl ?_ | refine JC.seq ?_ | refine JC.region ?_ | refine JL.nil ?_ | refine JE.next ?_)
      refine JC.cond rfl (fun _ => ?_) (fun h => by cases h)
      repeat (first | refine JL.q (by first | (apply ro_fld0; exact rfl) | (apply OQ.load; exact strC; exact rfl; exact .here; exact (Row.cell (v := Z (encN.getD i [])) rfl)) | (apply OQ.assign; exact rfl)) rfl ?_ | refine JC.seq ?_ | refine JC.region ?_ | refine JL.nil ?_ | refine JE.next ?_)
      refine JC.ret ?_
      repeat (first | refine JE.then_ret ?_ | refine JE.blk_ret ?_)
      exact JE.ret2 rfl (RV.tmp rfl) (RV.tmp rfl) fun w' hw => ⟨rfl, hw.chg⟩
  · have hi' : ¬ i < 6 := of_decide_eq_false h
    obtain rfl : i = 6 := by omega
    rw [nam_miss hno]
    repeat (first | refine JL.q (by (apply OQ.assign; exact rfl)) rfl ?_ | refine JC.seq ?_ | refine JC.region ?_ | refine JC.exit ?_ | refine JL.nil ?_ | refine JE.next ?_ | refine JE.then_exit ?_ | refine JE.blk_hit ?_)
    exact JC.ret (JE.ret2 rfl (RV.tmp rfl) (RV.tmp rfl) fun w' hw => ⟨rfl, hw.chg⟩)
theorem hasp_any (k : List Bt) (v1 v2 v3 v4 : Value) (h1 : v1.cells = #[v1]) (w : World) : Calls Tryz.prog 38 [.agg #[Z k, v1, v2, v3, v4]].toArray w fun e w' => e = .returned (.bool (multiB k)) ∧ Ext w w' := by
  refine enter (n := 6) Tryz.func38 rfl rfl rfl (Holds.start w []) ?_
  refine JC.seq (JC.region (JL.box (r := [Z k, v1, v2, v3, v4]) rfl rfl rfl fun b _ => ?_))
  have hq := fun w' => shpx_any k multiN w'
  have e10 : decide (k.take multiN.length = multiN) = multiB k := rfl
  rw [e10] at hq
  repeat (first | refine JL.q (by first | (apply OQ.load; exact strC; exact rfl; exact .here; exact (Row.cell (v := Z k) rfl)) | (apply OQ.callx (vs := [Z k, Z multiN]); exact goes_shpx; exact rfl; exact (fun w' _ => hq w')) | (apply OQ.assign; exact rfl) | (apply OQ.fld; exact rfl; exact rfl; exact rfl; exact (by decide); exact rfl)) rfl ?_ | refine JC.seq ?_ | refine JC.region ?_ | refine JL.nil ?_ | refine JE.next ?_)
  exact JC.ret (JE.ret1 rfl (RV.tmp rfl) fun w' hw => ⟨rfl, hw.chg⟩)
theorem par_step {l : List PrB} {i : Nat} (hi : i < l.length) (hno : ∀ j, j < i → ¬ (l.getD j ([], [])).1 = bdN) (h : (l.getD i ([], [])).1 = bdN) : parB l bdN = (l.getD i ([], [])).2 := by
  induction l generalizing i with
  | nil => simp at hi
  | cons p l ih =>
    cases i with
    | zero =>
      unfold parB
      rw [List.find?_cons_of_pos (by simpa using h)]
      rfl
    | succ i =>
      have h0 : ¬ p.1 = bdN := hno 0 (by omega)
      have := ih (i := i) (by simpa using hi) (fun j hj => by simpa using hno (j + 1) (by omega)) (by simpa using h)
      unfold parB at this ⊢
      rw [List.find?_cons_of_neg (by simpa using h0), this]
      simp
theorem par_none {l : List PrB} (hno : ∀ j, j < l.length → ¬ (l.getD j ([], [])).1 = bdN) : parB l bdN = [] := by
  have : l.find? (fun p => decide (p.1 = bdN)) = none := by
    rw [List.find?_eq_none]
    intro p hp
    obtain ⟨j, hj, rfl⟩ := List.getElem_of_mem hp
    have := hno j hj
    rw [List.getD_eq_getElem?_getD, List.getElem?_eq_getElem hj] at this
    simpa using this
  unfold parB
  rw [this]
  rfl
set_option maxHeartbeats 16000000 in
theorem bof_any (k : List Bt) (ps : Sl2) (v2 v3 v4 : Value) (w : World) (hp : ps.ok w) (hl : ps.l.length < 9223372036854775807) : Calls Tryz.prog 45 [.agg #[Z k, ps.v, v2, v3, v4]].toArray w fun e w' => e = .returned (Z (parB ps.l bdN)) ∧ Ext w w' := by
  refine enter (n := 18) Tryz.func45 rfl rfl rfl (Holds.start w []) ?_
  refine JC.seq (JC.region (JL.box (r := [Z k, ps.v, v2, v3, v4]) rfl rfl rfl fun b _ => ?_))
  repeat (first | refine JL.q (by first | (apply OQ.load; exact prC; exact rfl; exact .here; exact (Row.cell (v := ps.v) rfl)) | (apply OQ.len; exact Tryz.underlying33; exact rfl) | (apply OQ.move; exact rfl) | (apply OQ.assign; exact rfl) | (apply OQ.fld; exact rfl; exact rfl; exact rfl; exact (by decide); exact rfl)) rfl ?_ | refine JC.seq ?_ | refine JC.region ?_ | refine JC.block ?_ | refine JL.nil ?_ | refine JE.next ?_)
  refine JC.loop (fun i : Nat => [(6, ps.v), (7, N ps.l.length), (8, N i)]) (fun _ => []) (fun i => ps.l.length - i) (fun i => i ≤ ps.l.length ∧ ∀ j, j < i → ¬ (ps.l.getD j ([], [])).1 = bdN) 0 ⟨Nat.zero_le _, fun j hj => by omega⟩ (by repeat (first | exact SubE.nil | refine SubE.cons _ _ _ rfl ?_)) (.nil _) ?_
  rintro i ⟨hi, hno⟩
  repeat (first | refine JL.q (by (apply OQ.lssN; exact rfl; exact rfl)) rfl ?_ | refine JC.seq ?_ | refine JC.region ?_ | refine JL.nil ?_ | refine JE.next ?_)
  refine JC.cond rfl (fun h => ?_) (fun h => ?_)
  · have hi' : i < ps.l.length := of_decide_eq_true h
    clear h hi
    obtain ⟨ba, ja, eA, la, ca1, ca2⟩ := hp.at hi'
    have vA : ps.v = .slice (some ⟨ba, ja, none⟩) ps.l.length ps.cap := by rw [← eA]; rfl
    have hstep := fun h => par_step hi' hno h
    have hnext : ¬ (ps.l.getD i ([], [])).1 = bdN → ∀ j, j < i + 1 → ¬ (ps.l.getD j ([], [])).1 = bdN := fun h j hj => by
      by_cases e : j = i
      · subst e; exact h
      · exact hno j (by omega)
    generalize ps.l.getD i ([], []) = pr at ca1 ca2 hstep hnext
    have hcs : ∀ k' u, ([Z pr.1, Z pr.2] : List Value)[k']? = some u → w.cell? ⟨ba, ja + i * 2 + k', none⟩ = some u := fun k' u hu => by
      match k', hu with
      | 0, hu => cases hu; exact ca1
      | 1, hu => cases hu; exact ca2
      | k' + 2, hu => simp at hu
    rw [vA]
    repeat (first | refine JL.q (by first | (apply OQ.idxS; exact Tryz.underlying33; exact paS; exact rfl; exact rfl; exact hi') | (apply OQ.load_agg_old (cs := [Z pr.1, Z pr.2]); exact paA; exact rfl; exact paS; exact la; exact (by simp); exact hcs)) rfl ?_ | refine JC.seq ?_ | refine JC.region ?_ | refine JC.block ?_ | refine JC.skip ?_ | refine JE.next ?_)
    refine JL.alloc paZ rfl fun b4 _ => ?_
    refine JL.store_all (cs := [Z pr.1, Z pr.2]) paS rfl rfl rfl rfl .here rfl ?_
    cases hb : decide (pr.1 = bdN)
    · repeat (first | refine JL.q (by first | (apply OQ.load; exact strC; exact rfl; exact .here; exact (Row.cell (v := Z pr.1) rfl)) | (apply OQ.eqSB (l := pr.1) (r := bdN); exact rfl; exact rfl; exact hb) | (apply OQ.fld; exact rfl; exact rfl; exact rfl; exact (by decide); exact rfl)) rfl ?_ | refine JC.seq ?_ | refine JC.region ?_ | refine JL.nil ?_ | refine JE.next ?_)
      refine JC.cond rfl (fun h => by cases h) (fun _ => ?_)
      repeat (first | refine JL.q (by first | (apply OQ.move; exact rfl) | (apply OQ.addN; exact rfl; exact rfl; exact (by (try simp only []); omega))) rfl ?_ | refine JC.region ?_ | refine JC.skip ?_ | refine JL.nil ?_ | refine JE.next ?_ | refine JE.blk_normal ?_)
      rw [← vA]
      exact JE.again (i := i) (i + 1) ⟨hi', hnext (of_decide_eq_false hb)⟩ (by omega) (by repeat (first | exact SubE.nil | refine SubE.cons _ _ _ rfl ?_)) (.nil _)
    · rw [hstep (of_decide_eq_true hb)]
      repeat (first | refine JL.q (by first | (apply OQ.load; exact strC; exact rfl; exact .here; exact (Row.cell (v := Z pr.1) rfl)) | (apply OQ.eqSB (l := pr.1) (r := bdN); exact rfl; exact rfl; exact hb) | (apply OQ.fld; exact rfl; exact rfl; exact rfl; exact (by decide); exact rfl)) rfl ?_ | refine JC.seq ?_ | refine JC.region ?_ | refine JL.nil ?_ | refine JE.next ?_)
      refine JC.cond rfl (fun _ => ?_) (fun h => by cases h)
      repeat (first | refine JL.q (by first | (apply OQ.load; exact strC; exact rfl; exact .here; exact (Row.cell (v := Z pr.2) rfl)) | (apply OQ.assign; exact rfl) | (apply OQ.fld; exact rfl; exact rfl; exact rfl; exact (by decide); exact rfl)) rfl ?_ | refine JC.seq ?_ | refine JC.region ?_ | refine JL.nil ?_ | refine JE.next ?_)
      refine JC.ret ?_
      repeat (first | refine JE.then_ret ?_ | refine JE.blk_ret ?_)
      exact JE.ret1 rfl (RV.tmp rfl) fun w' hw => ⟨rfl, hw.chg⟩
  · have hi' : ¬ i < ps.l.length := of_decide_eq_false h
    obtain rfl : i = ps.l.length := by omega
    rw [par_none hno]
    repeat (first | refine JL.q (by (apply OQ.assign; exact rfl)) rfl ?_ | refine JC.seq ?_ | refine JC.region ?_ | refine JC.exit ?_ | refine JL.nil ?_ | refine JE.next ?_ | refine JE.then_exit ?_ | refine JE.blk_hit ?_)
    exact JC.ret (JE.ret1 rfl (RV.tmp rfl) fun w' hw => ⟨rfl, hw.chg⟩)
end Go.Proofs.YtbbmhkdfdgnkpaaGreatDoor

/-
  Of no statement by itself: how long what is read of a mail may be; a multipart's parts by themselves; pure; no program stands here.
  Conditions: none but each lemma's own.
-/
namespace Go.Proofs.YtbbmhkdfdgnkpaaGreatDoor
namespace Mim
open Fld Tok
theorem cut_le {b l r : List By} (h : cut b = some (l, r)) : r.length ≤ b.length := by
  unfold cut at h
  split at h
  · cases h
    rw [List.length_drop]
    omega
  · cases h
theorem rd_low : ∀ (n k : Nat) (b : List By) (fs : List PrB) (R : List By), b.length ≤ n → k ≤ 200 → rd k b = .ok (fs, R) → R.length ≤ b.length ∧ fs.length + k ≤ 200 ∧ ∀ p ∈ fs, p.1.length ≤ 64 ∧ p.2.length ≤ 8192 := by
  intro n
  induction n with
  | zero =>
    intro k b fs R hb hk h
    obtain rfl : b = [] := List.eq_nil_of_length_eq_zero (by omega)
    rw [rd_none (by rfl)] at h
    cases h
  | succ n ih =>
    intro k b fs R hb hk h
    unfold rd at h
    split at h
    · cases h
    · next l r hc =>
      have hr := cut_le hc
      split at h
      · cases h
        exact ⟨hr, by simpa using hk, by simp⟩
      · split at h
        · cases h
        · next hnm =>
          split at h
          · cases h
          · next hk2 =>
            split at h
            · cases h
            · next vs r' hcn =>
              split at h
              · cases h
              · next hv =>
                split at h
                · cases h
                · split at h
                  · next hlt =>
                    cases hq : rd (k + 1) r' with
                    | error e => rw [hq] at h; cases h
                    | ok q =>
                      rw [hq] at h
                      obtain ⟨qf, qr⟩ := q
                      cases h
                      obtain ⟨i1, i2, i3⟩ := ih (k + 1) r' qf _ (by omega) (by omega) hq
                      refine ⟨by show qr.length ≤ b.length; omega, by simp only [List.length_cons]; omega, fun p hp => ?_⟩
                      rcases List.mem_cons.1 hp with rfl | hp
                      · refine ⟨?_, by show (trim _).length ≤ 8192; omega⟩
                        have hn : nameB (l.takeWhile (· != 58)) = true := Decidable.byContradiction fun hh => hnm (.inr hh)
                        unfold nameB at hn
                        rw [Bool.and_eq_true, Bool.and_eq_true] at hn
                        exact of_decide_eq_true hn.2
                      · exact i3 p hp
                  · cases h
/-- what is read of a mail is no longer than it -/
theorem readL_low {m : List By} {fs : List PrB} {R : List By} (h : readL m = .ok (fs, R)) : R.length ≤ m.length ∧ fs.length ≤ 200 ∧ ∀ p ∈ fs, p.1.length ≤ 64 ∧ p.2.length ≤ 8192 := by
  unfold readL readB at h
  split at h
  · cases h
  · split at h
    · cases h
    · obtain ⟨h1, h2, h3⟩ := rd_low _ 0 m fs R (Nat.le_refl _) (by decide) h
      exact ⟨h1, by omega, h3⟩
/-- what stands between is no longer than all -/
theorem splt_le {b bd : List By} : ∀ y ∈ (spltB b bd).1, y.length ≤ b.length := by
  intro y hy
  unfold spltB at hy
  split at hy
  · cases hy
  · have h0 := linR_sum b []
    have h1 := sum_drop (fun x => markB bd x.1 != 1) (linB b)
    split at hy
    · cases hy
    · next out ho =>
      obtain ⟨_, h2⟩ := splL_sum bd _ _ [] out (Nat.le_refl _) ho
      rcases h2 y hy with h | h
      · cases h
      · have : sumL (linB b) ≤ b.length + 0 := h0.1
        omega
section
variable (Qd : List By → Except Nat (List By))
/-- a multipart's parts -/
def partsR (sub : Option (List By → Except Nat Part)) (b bd : List By) : Except Nat (List Part) :=
  if boundB bd = false then .error 3
  else match sub with
    | none => .error 5
    | some g => if (spltB b bd).2 ≠ 0 then .error (spltB b bd).2 else mapE g (spltB b bd).1
def multO (r : Except Nat (List Part)) (k : List By) (ps : List PrB) : Except Nat Part := match r with
  | .error e => .error e
  | .ok l => .ok (.mk k ps 0 [] l)
def leafO (r : Option Int) (b : List By) (k : List By) (ps : List PrB) : Except Nat Part := match r with
  | none => .error 3
  | some c => match bodyR Qd c b with
    | .error e => .error e
    | .ok x => .ok (.mk k ps c x [])
theorem nodeR_is (sub : Option (List By → Except Nat Part)) (f : List PrB) (b : List By) : nodeR Qd sub f b =
    if (typB f).2.2 ≠ 0 then .error (typB f).2.2
    else if multiB (typB f).1 then multO (partsR sub b (parB (typB f).2.1 bdN)) (typB f).1 (typB f).2.1
    else leafO Qd (codB (ceB f)) b (typB f).1 (typB f).2.1 := by
  unfold nodeR partsR multO leafO
  by_cases h1 : (typB f).2.2 ≠ 0
  · rw [if_pos h1, if_pos h1]
  · rw [if_neg h1, if_neg h1]
    by_cases h2 : multiB (typB f).1 = true
    · rw [if_pos h2, if_pos h2]
      by_cases h3 : boundB (parB (typB f).2.1 bdN) = false
      · rw [if_pos h3, if_pos h3]
      · rw [if_neg h3, if_neg h3]
        cases sub with
        | none => rfl
        | some g =>
          dsimp only
          by_cases h4 : (spltB b (parB (typB f).2.1 bdN)).2 ≠ 0
          · rw [if_pos h4, if_pos h4]
          · rw [if_neg h4, if_neg h4]
            cases mapE g (spltB b (parB (typB f).2.1 bdN)).1 <;> rfl
    · rw [if_neg h2, if_neg h2]
      cases codB (ceB f) with
      | none => rfl
      | some c => dsimp only; cases bodyR Qd c b <;> rfl
end
theorem mapE_snoc {α β : Type} {f : α → Except Nat β} {l : List α} {xs : List β} {a : α} {y : β} (h : mapE f l = .ok xs) (ha : f a = .ok y) : mapE f (l ++ [a]) = .ok (xs ++ [y]) := by
  induction l generalizing xs with
  | nil =>
    cases h
    show mapE f [a] = _
    unfold mapE
    rw [ha]
    rfl
  | cons b l ih =>
    rw [List.cons_append]
    unfold mapE at h ⊢
    cases e1 : f b with
    | error e => rw [e1] at h; cases h
    | ok z =>
      rw [e1] at h
      cases e2 : mapE f l with
      | error e => rw [e2] at h; cases h
      | ok zs =>
        rw [e2] at h
        cases h
        rw [ih e2]
        rfl
theorem mapE_err {α β : Type} {f : α → Except Nat β} {l r : List α} {xs : List β} {a : α} {e : Nat} (h : mapE f l = .ok xs) (ha : f a = .error e) : mapE f (l ++ a :: r) = .error e := by
  induction l generalizing xs with
  | nil =>
    show mapE f (a :: r) = _
    unfold mapE
    rw [ha]
  | cons b l ih =>
    rw [List.cons_append]
    unfold mapE at h ⊢
    cases e1 : f b with
    | error e' => rw [e1] at h; cases h
    | ok z =>
      rw [e1] at h
      cases e2 : mapE f l with
      | error e' => rw [e2] at h; cases h
      | ok zs =>
        rw [ih e2]
theorem all_ctW (f : List PrB) : allB ctW f = allB ctN f := by
  have e : ctW.map small = ctN.map small := by decide
  unfold allB sameB
  rw [e]
theorem all_ceW (f : List PrB) : allB ceW f = allB ceN f := by
  have e : ceW.map small = ceN.map small := by decide
  unfold allB sameB
  rw [e]
theorem ceB_head (f : List PrB) : ceB f = (trim ((allB ceN f).headD [])).map small := by
  unfold ceB
  cases allB ceN f with
  | nil => rfl
  | cons v l => rfl
theorem head_low {f : List PrB} {n : List By} {m : Nat} (h : ∀ p ∈ f, sameB p.1 n = true → p.2.length ≤ m) : ((allB n f).headD []).length ≤ m := by
  cases e : allB n f with
  | nil => exact Nat.zero_le _
  | cons v l =>
    have hv : v ∈ allB n f := by rw [e]; exact List.mem_cons_self
    unfold allB at hv
    obtain ⟨p, hp, rfl⟩ := List.mem_map.1 hv
    obtain ⟨h1, h2⟩ := List.mem_filter.1 hp
    exact h p h1 h2
theorem rd_ne : ∀ (n k : Nat) (b : List By) (e : Nat), b.length ≤ n → rd k b = .error e → e ≠ 0 := by
  intro n
  induction n with
  | zero =>
    intro k b e hb h
    obtain rfl : b = [] := List.eq_nil_of_length_eq_zero (by omega)
    rw [rd_none (by rfl)] at h
    cases h
    decide
  | succ n ih =>
    intro k b e hb h
    unfold rd at h
    split at h
    · cases h; decide
    · next l r hc =>
      split at h
      · cases h
      · split at h
        · cases h; decide
        · split at h
          · cases h; decide
          · split at h
            · cases h; decide
            · next vs r' hcn =>
              split at h
              · cases h; decide
              · split at h
                · cases h; decide
                · split at h
                  · next hlt =>
                    cases hq : rd (k + 1) r' with
                    | error e' =>
                      rw [hq] at h
                      cases h
                      exact ih _ _ _ (by omega) hq
                    | ok q => rw [hq] at h; cases h
                  · cases h; decide
theorem readL_ne {m : List By} {e : Nat} (h : readL m = .error e) : e ≠ 0 := by
  unfold readL readB at h
  split at h
  · cases h; decide
  · split at h
    · cases h; decide
    · exact rd_ne _ 0 m e (Nat.le_refl _) h
theorem mapE_ne {α β : Type} {f : α → Except Nat β} (hf : ∀ a e, f a = .error e → e ≠ 0) : ∀ (l : List α) (e : Nat), mapE f l = .error e → e ≠ 0
  | [], e, h => by cases h
  | a :: l, e, h => by
    unfold mapE at h
    cases e1 : f a with
    | error e' => rw [e1] at h; cases h; exact hf _ _ e1
    | ok y =>
      rw [e1] at h
      cases e2 : mapE f l with
      | error e' => rw [e2] at h; cases h; exact mapE_ne hf l _ e2
      | ok ys => rw [e2] at h; cases h
theorem nodeR_ne {Qd : List By → Except Nat (List By)} (hQ : ∀ b e, Qd b = .error e → e ≠ 0) {sub : Option (List By → Except Nat Part)} (hs : ∀ g, sub = some g → ∀ m e, g m = .error e → e ≠ 0) {f : List PrB} {b : List By} {e : Nat} (h : nodeR Qd sub f b = .error e) : e ≠ 0 := by
  rw [nodeR_is] at h
  split at h
  · next hk => cases h; exact hk
  · split at h
    · cases hp : partsR sub b (parB (typB f).2.1 bdN) with
      | error e' =>
        rw [hp] at h
        unfold multO at h
        cases h
        unfold partsR at hp
        split at hp
        · cases hp; decide
        · cases sub with
          | none => cases hp; decide
          | some g =>
            dsimp only at hp
            split at hp
            · next hk => cases hp; exact hk
            · exact mapE_ne (hs g rfl) _ _ hp
      | ok l => rw [hp] at h; unfold multO at h; cases h
    · unfold leafO at h
      cases hc : codB (ceB f) with
      | none => rw [hc] at h; cases h; decide
      | some c =>
        rw [hc] at h
        dsimp only at h
        cases hb : bodyR Qd c b with
        | error e' =>
          rw [hb] at h
          cases h
          unfold bodyR armR at hb
          split at hb
          · split at hb <;> cases hb
            decide
          · split at hb
            · exact hQ _ _ hb
            · cases hb
        | ok y => rw [hb] at h; cases h
theorem readP_ne {Qd : List By → Except Nat (List By)} (hQ : ∀ b e, Qd b = .error e → e ≠ 0) : ∀ (k : Nat) (f : List PrB) (b : List By) (e : Nat), readP Qd k f b = .error e → e ≠ 0
  | 0, f, b, e, h => nodeR_ne hQ (fun g hg => by cases hg) h
  | k + 1, f, b, e, h => nodeR_ne hQ (fun g hg m e he => by
      cases hg
      unfold subR at he
      cases hr : readL m with
      | error e' => rw [hr] at he; cases he; exact readL_ne hr
      | ok x => rw [hr] at he; exact readP_ne hQ k _ _ _ he) h
end Mim
end Go.Proofs.YtbbmhkdfdgnkpaaGreatDoor

/-
  Of no statement by itself: what the reference's Read (layer 9) gives.
  Conditions: the theorem's own.
-/
namespace Go.Proofs.YtbbmhkdfdgnkpaaGreatDoor
set_option maxRecDepth 10000
open Sl Fld
structure R9 where
  i : Nat
  fs : List Pr
  b : Nat
  cap : Nat
structure V9 where
  t : Nat
  m : Nat
  v : List Bt
  b : Nat
  cap : Nat
end Go.Proofs.YtbbmhkdfdgnkpaaGreatDoor

/-
  Of no statement by itself: what the reference's All, Drop and Set (layer 11) give.
  Conditions: each theorem's own.
-/
namespace Go.Proofs.YtbbmhkdfdgnkpaaGreatDoor
set_option maxRecDepth 10000
open Sl Fld
theorem fieldI : EI Tryz.prog 51 (.agg (pc ([], [])).toArray) 2 32 := by unfold EI; kernel_rfl
theorem fsC : scal Tryz.prog 39 = true := by kernel_rfl
theorem drop_pr {l : List Pr} {i : Nat} (h : i < l.length) : l.drop i = l.getD i ([], []) :: l.drop (i + 1) := by
  rw [List.drop_eq_getElem_cons h, List.getD_eq_getElem?_getD, List.getElem?_eq_getElem h]; rfl
structure AT where
  i : Nat
  o : List (List Bt)
  b : Nat
  cap : Nat
theorem pc_one (p : Pr) : ∀ v ∈ pc p, v.oneCell' = true := by
  intro v hv
  simp only [pc, List.mem_cons, List.not_mem_nil, or_false] at hv
  rcases hv with rfl | rfl <;> rfl
structure DT where
  i : Nat
  o : List Pr
  b : Nat
  cap : Nat
theorem OQ.buildF {n : Nat} {E : Env} {C : World → Prop} {dst : Option Tmp} {ty : TypeId} {pos : String} {aft : Array Edge} {g : Option (Nat × Bool)} {x y : Operand} {a b : List Bt} (hx : ev E x = some (Z a)) (hy : ev E y = some (Z b)) : OQ Tryz.prog n E C ⟨dst, .build 51 #[(0, x), (1, y)], ty, pos, aft, g⟩ (.agg (pc (a, b)).toArray) := by
  refine OQ.run fun k hk w _ => ?_
  have h1 := hk.eval hx
  have h2 := hk.eval hy
  have h3 := run_build (P := Tryz.prog) w 51 #[(0, Z a), (1, Z b)] #[Z a, Z b] (by kernel_rfl)
  simp [execOp, h1, h2, Sem.run_bind, h3, pc]
structure ST where
  i : Nat
  o : List Pr
  d : Bool
  b : Nat
  cap : Nat
end Go.Proofs.YtbbmhkdfdgnkpaaGreatDoor

/-
  Of no statement by itself: what the reference's Param and Multi (layer 12) and Read (layer 11) give.
  Conditions: each theorem's own.
-/
namespace Go.Proofs.YtbbmhkdfdgnkpaaGreatDoor
set_option maxRecDepth 10000
open Sl Fld Mim
end Go.Proofs.YtbbmhkdfdgnkpaaGreatDoor

/-
  Of no statement by itself: append of one element of many cells, that a literal holds, onto nil or onto a slice of the function's own; parts that some blocks hold.
  Conditions: each rule's own hypotheses.
-/
namespace Go.Proofs.YtbbmhkdfdgnkpaaGreatDoor
set_option maxRecDepth 10000
open Sl Mim
namespace Sl
section
variable {P : Program} {n : Nat} {w0 : World} {S : List Nat} {ops : Array Oper} {Q : Exit → Act → World → Prop} {l : List Oper} {E : Env} {M M' M0 : List Ent} {d : Nat} {t e ty : TypeId} {pos : String} {aft : Array Edge} {x y : Operand}
def accC (e : TypeId) (sz : Nat) (q : Acc) (L : List (List Value)) : List Ent := match q with
  | none => []
  | some p => [⟨p.1, Sl.Own e sz L.length p.2 L.flatten, true⟩]
theorem accC_wr (e : TypeId) (sz : Nat) (q : Acc) (L : List (List Value)) : ∀ x ∈ accC e sz q L, x.wr = true := by
  cases q with
  | none => nofun
  | some p => intro x hx; rw [List.mem_singleton.1 hx]
/-- one element more -/
theorem JL.appendC {z : Value} {by' bl sz : Nat} {c : List Value} {L : List (List Value)} (q : Acc) (hu : P.underlying t = some (.slice e)) (hi : EI P e z sz by') (hq : q = none → L = []) (hx : ev E x = some (accV q L.length)) (hy : ev E y = some (.slice (some ⟨bl, 0, none⟩) 1 1))
    (hcl : c.length = sz) (h1 : ∀ v ∈ c, v.oneCell' = true) (hzz : z.cells.size = sz) (h0 : 0 < sz) (hsm : (L.length + 1) * by' ≤ 140737488355328) (hsm2 : L.length + 1 < 9223372036854775808) (hd : Nat.blt d n = true)
    (kk : ∀ b' cap', JL P n w0 S ops Q l ((d, accV (some (b', cap')) (L ++ [c]).length) :: E) (accC e sz (some (b', cap')) (L ++ [c]) ++ M0)) :
    JL P n w0 S ops Q (⟨some d, .call ⟨.builtin .append, #[x, y], #[t, t]⟩, ty, pos, aft, none⟩ :: l) E (⟨bl, Row e c, true⟩ :: (accC e sz q L ++ M0)) := by
  have hr : ∀ w, Holds w0 S (⟨bl, Row e c, true⟩ :: (accC e sz q L ++ M0)) w → Reads w (some ⟨bl, 0, none⟩) c := fun w hw => by
    obtain ⟨o, ho, hA⟩ := hw.get (b := bl) (A := Row e c) (wr := true) .here
    exact Reads.block ho (Row.all _ hA)
  have eN : (L ++ [c]).length = L.length + 1 := List.length_append
  have eF : (L ++ [c]).flatten = L.flatten ++ c := by rw [List.flatten_append]; simp
  cases q with
  | none =>
    obtain rfl := hq rfl
    refine JL.append_nil (cs := c) (m := 1) hu hi hx hy (by rw [hcl, Nat.one_mul]) hr (by decide) hzz h0 (by simpa using hsm) (by decide) hd fun b' cap' _ => ?_
    refine (kk b' cap').lessM ?_
    refine .keep _ _ _ _ _ _ (fun o h => ?_) (.drop _ _ _ (Less.refl _))
    rw [eF]
    exact h
  | some r =>
    refine JL.append (cs := c) (m := 1) (b := r.1) (cap := r.2) (k := L.length) (xs := L.flatten) (fun b' cap' => ⟨bl, Row e c, true⟩ :: (accC e sz (some (b', cap')) (L ++ [c]) ++ M0)) hu hi hx hy (fun b' cap' => ?_) (by rw [hcl, Nat.one_mul]) hr h1 hzz h0 hsm hsm2 hd fun b' cap' => ?_
    · show Repl (_ :: ⟨r.1, Sl.Own e sz L.length r.2 L.flatten, true⟩ :: M0) _ _ _ _ (_ :: ⟨b', Sl.Own e sz (L ++ [c]).length cap' (L ++ [c]).flatten, true⟩ :: M0)
      rw [eN, eF]
      exact .there .here
    · have := kk b' cap'
      rw [show accV (some (b', cap')) (L ++ [c]).length = Value.slice (some ⟨b', 0, none⟩) (L.length + 1) cap' by rw [eN]; rfl] at this
      exact this.lessM (.drop _ _ _ (Less.refl _))
end
end Sl
/-- what is known of some blocks makes five cells a part -/
structure PartE (d : Nat) (p : Part) (cs : List Value) (M : List Ent) : Prop where
  len : cs.length = 5
  one : cs.all Value.oneCell' = true
  wr : ∀ e ∈ M, e.wr = true
  is : ∀ (w0 : World) (S : List Nat) (w' : World), Holds w0 S M w' → IsPart d w' p cs
theorem PartE.less {d : Nat} {p : Part} {cs : List Value} {M M' : List Ent} (h : PartE d p cs M) (hM : Less M M') (hw : ∀ e ∈ M', e.wr = true) : PartE d p cs M' := ⟨h.len, h.one, hw, fun w0 S w' hw' => h.is w0 S w' (Sl.Holds.weak hw' hM)⟩
/-- no parts in it: its parameters and its bytes are some blocks' -/
theorem partE_leaf {k : List Fld.By} {ps : Sl2} {c : Int} {x : Sl8} (h2 : ps.ad = none → ps.l = []) (hx : x.ad = none → x.l = []) : PartE 1 (.mk k ps.l c x.l []) [Z k, ps.v, .int .i64 c, x.v, .slice none 0 0] (x.ents ++ ps.ents) where
  len := rfl
  one := rfl
  wr := fun e he => by
    rcases List.mem_append.1 he with h | h
    · exact x.ents_wr e h
    · exact ps.ents_wr e h
  is := fun w0 S w' hw => ⟨ps, x, none, 0, [], rfl, ⟨Sl2.ents_ok (M := x.ents) (hw.perm' List.perm_append_comm) h2, rfl⟩, ⟨Sl8.ents_ok hw hx, rfl⟩, Nat.le_refl _, Reads.nil _ _, rfl, nofun⟩
theorem flatE_less {Ms : List (List Ent)} {i : Nat} (h : i < Ms.length) : Less (Ms.getD i []) Ms.flatten := by
  rw [List.getD_eq_getElem?_getD, List.getElem?_eq_getElem h]
  exact less_of_sub (List.sublist_flatten_of_mem (List.getElem_mem h))
/-- parts in it: each stands in some blocks -/
theorem partE_node {d : Nat} {k : List Fld.By} {ps : Sl2} {L : List Part} {subs : List (List Value)} {Ms : List (List Ent)} {q : Acc} (h2 : ps.ad = none → ps.l = []) (hq : q = none → subs = []) (hl : subs.length = L.length) (hm : Ms.length = L.length)
    (hs : ∀ i, i < subs.length → PartE d (L.getD i default) (subs.getD i []) (Ms.getD i [])) : PartE (d + 1) (.mk k ps.l 0 [] L) [Z k, ps.v, .int .i64 0, nilS.v, accV q L.length] (accC 36 5 q subs ++ (ps.ents ++ Ms.flatten)) where
  len := rfl
  one := by cases q <;> rfl
  wr := fun e he => by
    rcases List.mem_append.1 he with h | h
    · exact accC_wr _ _ _ _ e h
    rcases List.mem_append.1 h with h | h
    · exact ps.ents_wr e h
    · obtain ⟨M, hM, hm'⟩ := List.mem_flatten.1 h
      obtain ⟨i, hi, rfl⟩ := List.getElem_of_mem hM
      have := (hs i (by omega)).wr e
      rw [List.getD_eq_getElem?_getD, List.getElem?_eq_getElem hi] at this
      exact this hm'
  is := fun w0 S w' hw => by
    have hps : ps.ok w' := Sl2.ents_ok (M := Ms.flatten) (Sl.Holds.weak hw (less_of_sub (List.sublist_append_right _ _))) h2
    have hsub : ∀ i, i < subs.length → IsPart d w' (L.getD i default) (subs.getD i []) := fun i hi =>
      (hs i hi).is w0 S w' (Sl.Holds.weak (Sl.Holds.weak hw (less_of_sub ((List.sublist_append_right _ _).trans (List.sublist_append_right _ _)))) (flatE_less (by omega)))
    cases q with
    | none =>
      have h0 := hq rfl
      have hL : L = [] := List.eq_nil_of_length_eq_zero (by rw [← hl, h0]; rfl)
      subst h0 hL
      exact ⟨ps, nilS, none, 0, [], rfl, ⟨hps, rfl⟩, ⟨nilS_ok w', rfl⟩, Nat.le_refl _, Reads.nil _ _, rfl, nofun⟩
    | some r =>
      obtain ⟨o, ho, hA⟩ := hw.get (b := r.1) (A := Sl.Own 36 5 subs.length r.2 subs.flatten) (wr := true) .here
      have hh := Sl.Own.cells _ hA
      obtain ⟨sp, _, _, _, h4⟩ := hA
      exact ⟨ps, nilS, some ⟨r.1, 0, none⟩, r.2, subs, rfl, ⟨hps, rfl⟩, ⟨nilS_ok w', rfl⟩, by show L.length ≤ r.2; omega, Reads.block ho hh, hl, hsub⟩
end Go.Proofs.YtbbmhkdfdgnkpaaGreatDoor

/-
  Of no statement by itself: what the reference's Params (layer 10) gives.
  Conditions: each theorem's own.
-/
namespace Go.Proofs.YtbbmhkdfdgnkpaaGreatDoor
set_option maxRecDepth 10000
open Sl Fld Tok
theorem parI : EI Tryz.prog 38 (.agg (pc ([], [])).toArray) 2 32 := by unfold EI; kernel_rfl
theorem semV_cons (c : Fld.By) (r : List Fld.By) (q : Bool) (x : List Fld.By) (h : ¬ (q = true ∧ c = 92)) : semR (c :: r) q x = if c = 34 then semR r (!q) (x ++ [c]) else if c = 59 ∧ q = false then x :: semR r q [] else semR r q (x ++ [c]) := by
  conv => lhs; rw [semR.eq_def]
  dsimp only
  rw [if_neg h]
theorem semV_92 (c2 : Fld.By) (r x : List Fld.By) : semR (92 :: c2 :: r) true x = semR r true (x ++ [92, c2]) := by
  conv => lhs; rw [semR.eq_def]
  rfl
theorem semV_92e (x : List Fld.By) : semR [92] true x = [x ++ [92]] := by
  conv => lhs; rw [semR.eq_def]
  rfl
theorem semV_e (q : Bool) (x : List Fld.By) : semR [] q x = [x] := by rw [semR.eq_def]
theorem semV_len : ∀ (n : Nat) (r : List Fld.By) (q : Bool) (x : List Fld.By), r.length ≤ n → (semR r q x).length ≤ r.length + 1 := by
  intro n
  induction n with
  | zero =>
    intro r q x h
    obtain rfl : r = [] := List.eq_nil_of_length_eq_zero (by omega)
    rw [semV_e]; simp
  | succ n ih =>
    intro r q x h
    match r, h with
    | [], _ => rw [semV_e]; simp
    | c :: r, h =>
      simp only [List.length_cons] at h ⊢
      by_cases h9 : q = true ∧ c = 92
      · obtain ⟨rfl, rfl⟩ := h9
        match r, h with
        | [], _ => rw [semV_92e]; simp
        | c2 :: r, h =>
          simp only [List.length_cons] at h ⊢
          rw [semV_92]
          have := ih r true (x ++ [92, c2]) (by omega)
          omega
      · rw [semV_cons _ _ _ _ h9]
        have h1 := ih r (!q) (x ++ [c]) (by omega)
        have h2 := ih r q [] (by omega)
        have h3 := ih r q (x ++ [c]) (by omega)
        split
        · omega
        split
        · rw [List.length_cons]; omega
        · omega
structure QS where
  i : Nat
  fr : Nat
  q : Bool
  o : List (List Fld.By)
  b : Nat
  cap : Nat
structure QT where
  i : Nat
  o : List Pr
  b : Nat
  cap : Nat
end Go.Proofs.YtbbmhkdfdgnkpaaGreatDoor

/-
  Of no statement by itself: what lines of printed signs tell (quoted-printable), step by step; pure; no program stands here.
  Conditions: none.
-/
namespace Go.Proofs.YtbbmhkdfdgnkpaaGreatDoor
namespace Quo
open Fld
def hexV (c : By) : Int := if 48 ≤ c.toNat ∧ c.toNat ≤ 57 then (c.toNat : Int) - 48 else if 65 ≤ c.toNat ∧ c.toNat ≤ 70 then (c.toNat : Int) - 55 else if 97 ≤ c.toNat ∧ c.toNat ≤ 102 then (c.toNat : Int) - 87 else -1
/-- how many blanks stand at the beginning -/
def bkn (b : List By) : Nat := (b.takeWhile bl).length
/-- how many bytes of a line's end, or of a LF alone, stand there -/
def enq : List By → Nat
  | [] => 0
  | c :: r => if c = 10 then 1 else if c = 13 ∧ r.head? = some 10 then 2 else 0
theorem enq_cons (c : By) (r : List By) : enq (c :: r) = if c = 10 then 1 else if c = 13 ∧ r.head? = some 10 then 2 else 0 := rfl
def endsq (b : List By) : Bool := decide (b = []) || decide (0 < enq b)
/-- the byte that two digits tell -/
def hexs (b : List By) : Option By := if 3 ≤ b.length ∧ 0 ≤ hexV (b.getD 1 0) ∧ 0 ≤ hexV (b.getD 2 0) then some (BitVec.ofInt 8 (16 * hexV (b.getD 1 0) + hexV (b.getD 2 0))) else none
/-- behind =, that two digits don't follow: how much is read -/
def softQ (b : List By) : Option Nat := if endsq (b.drop (1 + bkn (b.drop 1))) then some (1 + bkn (b.drop 1) + enq (b.drop (1 + bkn (b.drop 1)))) else none
/-- what is made first, and how much is read of it; none: there is nothing that may stand there -/
def stepQ (b : List By) : Option (List By × Nat) :=
  if b.getD 0 0 = 61 then
    match hexs b with
    | some c => some ([c], 3)
    | none => (softQ b).map fun k => ([], k)
  else if 0 < bkn b then some (if endsq (b.drop (bkn b)) then [] else b.take (bkn b), bkn b)
  else if 0 < enq b then some ([13, 10], enq b)
  else some ([b.getD 0 0], 1)
def accQ (o : List By) : Option (List By) → Option (List By)
  | none => none
  | some x => some (o ++ x)
def decF : Nat → List By → Option (List By)
  | 0, _ => some []
  | n + 1, b => if b = [] then some [] else match stepQ b with
    | none => none
    | some p => accQ p.1 (decF n (b.drop p.2))
def decQ (b : List By) : Option (List By) := decF b.length b
theorem accQ_nil (x : Option (List By)) : accQ [] x = x := by cases x <;> rfl
theorem accQ_acc (a b : List By) (x : Option (List By)) : accQ a (accQ b x) = accQ (a ++ b) x := by cases x <;> simp [accQ]
theorem bkn_le (b : List By) : bkn b ≤ b.length := (List.takeWhile_prefix _).length_le
theorem enq_le : ∀ b : List By, enq b ≤ b.length
  | [] => Nat.le_refl _
  | c :: r => by
    rw [enq_cons]
    split
    · simp
    · split
      · next h => cases r with
        | nil => cases h.2
        | cons d r => simp
      · exact Nat.zero_le _
theorem step_pos {b : List By} {p : List By × Nat} (hb : b ≠ []) (h : stepQ b = some p) : 1 ≤ p.2 ∧ p.2 ≤ b.length := by
  have hl : 1 ≤ b.length := List.length_pos_iff.2 hb
  unfold stepQ at h
  split at h
  · split at h
    · next c hc =>
      cases h
      unfold hexs at hc
      split at hc
      · next h3 => exact ⟨show 1 ≤ 3 by decide, h3.1⟩
      · cases hc
    · obtain ⟨k, hk, rfl⟩ := Option.map_eq_some_iff.1 h
      unfold softQ at hk
      split at hk
      · cases hk
        have h1 := enq_le (b.drop (1 + bkn (b.drop 1)))
        have h2 := bkn_le (b.drop 1)
        rw [List.length_drop] at h1 h2
        dsimp only
        omega
      · cases hk
  · split at h
    · next hk => cases h; exact ⟨hk, bkn_le b⟩
    · split at h
      · next hk => cases h; exact ⟨hk, enq_le b⟩
      · cases h; exact ⟨Nat.le_refl _, hl⟩
theorem decF_enough : ∀ (n m : Nat) (b : List By), b.length ≤ n → b.length ≤ m → decF n b = decF m b
  | 0, 0, _, _, _ => rfl
  | 0, m + 1, b, h, _ => by
    obtain rfl : b = [] := List.eq_nil_of_length_eq_zero (by omega)
    rw [decF, decF, if_pos rfl]
  | n + 1, 0, b, _, h => by
    obtain rfl : b = [] := List.eq_nil_of_length_eq_zero (by omega)
    rw [decF, decF, if_pos rfl]
  | n + 1, m + 1, b, h1, h2 => by
    rw [decF, decF]
    by_cases hb : b = []
    · rw [if_pos hb, if_pos hb]
    · rw [if_neg hb, if_neg hb]
      cases hs : stepQ b with
      | none => rfl
      | some p =>
        have hp := step_pos hb hs
        dsimp only
        rw [decF_enough n m (b.drop p.2) (by rw [List.length_drop]; omega) (by rw [List.length_drop]; omega)]
theorem decQ_step {b : List By} (hb : b ≠ []) : decQ b = match stepQ b with
    | none => none
    | some p => accQ p.1 (decQ (b.drop p.2)) := by
  have hl : 1 ≤ b.length := List.length_pos_iff.2 hb
  unfold decQ
  obtain ⟨n, hn⟩ : ∃ n, b.length = n + 1 := ⟨b.length - 1, by omega⟩
  rw [hn, decF, if_neg hb]
  cases hs : stepQ b with
  | none => rfl
  | some p =>
    have hp := step_pos hb hs
    dsimp only
    rw [decF_enough n (b.drop p.2).length (b.drop p.2) (by rw [List.length_drop]; omega) (Nat.le_refl _)]
theorem bkn_cons (c : By) (r : List By) : bkn (c :: r) = if bl c then bkn r + 1 else 0 := by
  unfold bkn
  rw [List.takeWhile_cons]
  cases bl c <;> simp
theorem enq_no {c : By} {r : List By} (h : 0 < enq (c :: r)) : bl c = false ∧ c ≠ 61 := by
  rw [enq_cons] at h
  split at h
  · next e => subst e; exact ⟨by decide, by decide⟩
  · split at h
    · next e => obtain ⟨rfl, _⟩ := e; exact ⟨by decide, by decide⟩
    · cases h
/-- an end at the beginning -/
theorem dec_end {b : List By} (h : 0 < enq b) : decQ b = accQ [13, 10] (decQ (b.drop (enq b))) := by
  cases b with
  | nil => cases h
  | cons c r =>
    obtain ⟨h1, h2⟩ := enq_no h
    have hk : bkn (c :: r) = 0 := by rw [bkn_cons, h1]; rfl
    rw [decQ_step (by simp)]
    have hs : stepQ (c :: r) = some ([13, 10], enq (c :: r)) := by
      unfold stepQ
      rw [if_neg (by simpa using h2), if_neg (by omega), if_pos h]
    rw [hs]
theorem dec_hex {b : List By} {x : By} (h1 : b.getD 0 0 = 61) (h2 : hexs b = some x) : decQ b = accQ [x] (decQ (b.drop 3)) := by
  have hb : b ≠ [] := by rintro rfl; cases h1
  have hs : stepQ b = some ([x], 3) := by
    unfold stepQ
    rw [if_pos h1, h2]
  rw [decQ_step hb, hs]
theorem dec_soft {b : List By} {k : Nat} (h1 : b.getD 0 0 = 61) (h2 : hexs b = none) (h3 : softQ b = some k) : decQ b = decQ (b.drop k) := by
  have hb : b ≠ [] := by rintro rfl; cases h1
  have hs : stepQ b = some ([], k) := by
    unfold stepQ
    rw [if_pos h1, h2, h3]
    rfl
  rw [decQ_step hb, hs]
  exact accQ_nil _
theorem dec_bad {b : List By} (h1 : b.getD 0 0 = 61) (h2 : hexs b = none) (h3 : softQ b = none) : decQ b = none := by
  have hb : b ≠ [] := by rintro rfl; cases h1
  have hs : stepQ b = none := by
    unfold stepQ
    rw [if_pos h1, h2, h3]
    rfl
  rw [decQ_step hb, hs]
/-- the code, and the bytes -/
def codeQ : Option (List By) → Nat
  | none => 3
  | some _ => 0
def outQ : Option (List By) → List By
  | none => []
  | some x => x
def Qd (b : List By) : Except Nat (List By) := match decQ b with
  | none => .error 3
  | some x => .ok x
end Quo
end Go.Proofs.YtbbmhkdfdgnkpaaGreatDoor

/-
  Of no statement by itself: rules for the walk of the reference's Read (layer 12): answers that are parts, the first text of an answer, what holds in all worlds of a piece of code.
  Conditions: each theorem's own.
-/
namespace Go.Proofs.YtbbmhkdfdgnkpaaGreatDoor
set_option maxRecDepth 10000
open Sl Fld Mim Tok
theorem ptA9 : aggT Tryz.prog 36 = true := by kernel_rfl
theorem ptZ9 : zc Tryz.prog 36 = some [Z [], nil2.v, .int .i64 0, nilS.v, .slice none 0 0] := by kernel_rfl
/-- a part as a function's answer -/
structure PA (d : Nat) (r : Except Nat Part) where
  cs : List Value
  M : List Ent
  len : cs.length = 5
  one : cs.all Value.oneCell' = true
  wr : ∀ e ∈ M, e.wr = true
  is : ∀ p, r = .ok p → PartE d p cs M
def pz : List Value := [Z [], nil2.v, .int .i64 0, nilS.v, .slice none 0 0]
def PA.err {d : Nat} {e : Nat} : PA d (.error e) := ⟨pz, [], rfl, rfl, nofun, nofun⟩
theorem OQ.build_P0 {n : Nat} {E : Env} {C : World → Prop} {dst : Option Tmp} {ty : TypeId} {pos : String} {aft : Array Edge} {g : Option (Nat × Bool)} : OQ Tryz.prog n E C ⟨dst, .build 36 #[], ty, pos, aft, g⟩ (.agg pz.toArray) := by
  refine OQ.run fun k hk w _ => ?_
  have h3 := run_build (P := Tryz.prog) w 36 #[] pz.toArray (by kernel_rfl)
  simp [execOp, Sem.run_bind, h3]
theorem OQ.build_P1 {n : Nat} {E : Env} {C : World → Prop} {dst : Option Tmp} {ty : TypeId} {pos : String} {aft : Array Edge} {g : Option (Nat × Bool)} {a : List Bt} : OQ Tryz.prog n E C ⟨dst, .build 36 #[(0, .const (Z a))], ty, pos, aft, g⟩ (.agg ([Z a, nil2.v, .int .i64 0, nilS.v, .slice none 0 0] : List Value).toArray) := by
  refine OQ.run fun k hk w _ => ?_
  have h3 := run_build (P := Tryz.prog) w 36 #[(0, Z a)] ([Z a, nil2.v, .int .i64 0, nilS.v, .slice none 0 0] : List Value).toArray (by kernel_rfl)
  simp [execOp, Act.eval, Sem.run_bind, h3]
theorem JC.known {P : Program} {n : Nat} {w0 : World} {S : List Nat} {Q : Exit → Act → World → Prop} {E : Env} {M : List Ent} {F : Prop} {c : Code} (h : ∀ w, Holds w0 S M w → F) (k : F → JC P n w0 S Q c E M) : JC P n w0 S Q c E M := ⟨fun a w ha hw => (k (h w hw)).go a w ha hw⟩
theorem JL.known {P : Program} {n : Nat} {w0 : World} {S : List Nat} {ops : Array Oper} {Q : Exit → Act → World → Prop} {l : List Oper} {E : Env} {M : List Ent} {F : Prop} (h : ∀ w, Holds w0 S M w → F) (k : F → JL P n w0 S ops Q l E M) : JL P n w0 S ops Q l E M := ⟨fun a w ha hw => (k (h w hw)).go a w ha hw⟩
/-- the first text of an answer -/
theorem Gz.first {A : List (List Bt)} (y : Gz A) (h : A ≠ []) (hs : ∀ a, y.z.ad = some a → a.spot = none) : ∃ b off cap X, y.z.v = .slice (some ⟨b, off, none⟩) A.length cap ∧ y.z.ents = [⟨b, X, true⟩] ∧ ∀ o, X o → cellAt o (off + 0) = some (Z (A.getD 0 [])) := by
  obtain ⟨⟨ad, cap, l⟩, h1, h2⟩ := y
  dsimp only at h1 h2
  subst h1
  cases ad with
  | none => exact absurd (h2 rfl) h
  | some a =>
    obtain ⟨b, j, sp⟩ := a
    cases sp with
    | none =>
      refine ⟨b, j, cap, _, rfl, rfl, fun o hX => ?_⟩
      obtain ⟨⟨c, e, fr, rfl, hc⟩, _⟩ := hX
      have hp : 0 < l.length := List.length_pos_iff.2 h
      have := hc 0 (by show 0 < (l.map Z).length; rw [List.length_map]; exact hp)
      show c[j + 0]? = _
      rw [this]
      exact map_at Z [] hp
    | some s => cases hs _ rfl
end Go.Proofs.YtbbmhkdfdgnkpaaGreatDoor

/-
  Of no statement by itself: what the landed field's Fold gives.
  Conditions: each theorem's own.
-/
namespace Go.Proofs.YtbbmhkdfdgnkpaaGreatDoor
set_option maxRecDepth 10000
open Sl Fld
theorem nil_ans {w0 w : World} {M : List Ent} {S : List Nat} (h : Holds w0 S M w) : Holds w0 S nilS.ents w := h.weak (.nil _)
theorem sok_low {c : Fld.By} (h : sok c = true) : c.toNat < 128 := by
  rw [sokA_is] at h
  simp only [Bool.or_eq_true, Bool.and_eq_true, decide_eq_true_eq] at h
  rcases h with ⟨_, h⟩ | h
  · omega
  · subst h; decide
set_option maxHeartbeats 16000000 in
theorem ffold_any (n v : List Fld.By) (w : World) (hn : n.length < 9223372036854775808) (hv : v.length < 9223372036854775808) : Calls Tryz.prog 87 [.agg (pc (n, v)).toArray].toArray w fun e w' =>
    ∃ x : { x : Sl8 // Ans x (foldR n v) }, e = .returned (.tuple #[x.1.v, N (codeF n v)]) ∧ Holds w [] x.1.ents w' := by
  refine enter (n := 59) Tryz.func87 rfl rfl rfl (Holds.start w []) ?_
  refine JC.seq (JC.region (JL.box (r := pc (n, v)) rfl rfl rfl fun b1 _ => ?_))
  have cN := fun w' => fname_any n w' hn
  have cV := fun w' => fvalue_any v w'
  cases h1 : nameB n <;> cases h2 : valB v
  all_goals (repeat (first | refine JL.q (by first | (apply OQ.load; exact strC; exact rfl; exact .here; exact (Row.cell (v := Z v) rfl)) | (apply OQ.load; exact strC; exact rfl; exact .here; exact (Row.cell (v := Z n) rfl)) | (apply OQ.callb (vs := [Z n]); exact goes_fname; exact rfl; exact cN; exact h1) | (apply OQ.callb (vs := [Z v]); exact goes_fvalue; exact rfl; exact cV; exact h2) | (apply OQ.not; exact rfl) | (apply OQ.pick_t; exact rfl; exact rfl) | (apply OQ.pick_f; exact rfl; exact rfl) | (apply OQ.move; exact rfl) | (apply OQ.assign; exact rfl) | (apply OQ.fld; exact rfl; exact rfl; exact rfl; exact (by decide); exact rfl)) rfl ?_ | refine JC.seq ?_ | refine JC.region ?_ | refine JL.nil ?_ | refine JE.next ?_ | refine JL.gon rfl rfl ?_ | refine JL.gskip rfl rfl rfl rfl ?_))
  all_goals refine JC.cond rfl (fun h => ?_) (fun h => ?_)
  all_goals first | (exfalso; revert h; decide) | skip
  all_goals clear h
  all_goals first
    | (have hg : goodF n v = false := by rw [goodF, h1, h2]; rfl
       have hx : Ans nilS (foldR n v) := ⟨by rw [foldR, hg]; rfl, fun _ => rfl⟩
       have hc : codeF n v = 3 := by rw [codeF, hg]; rfl
       (repeat (first | refine JL.q (by (apply OQ.assign; exact rfl)) rfl ?_ | refine JC.seq ?_ | refine JC.region ?_ | refine JL.nil ?_ | refine JE.next ?_))
       refine JC.ret ?_
       (repeat (refine JE.then_ret ?_))
       refine JE.ret2 rfl (RV.tmp rfl) (RV.tmp rfl) fun w' hw => ⟨⟨nilS, hx⟩, ?_, nil_ans hw⟩
       rw [hc]
       rfl)
    | skip
  have hg : goodF n v = true := by rw [goodF, h1, h2]; rfl
  have hc : codeF n v = 0 := by rw [codeF, hg]; rfl
  have hR : foldR n v = foldB n v := by rw [foldR, hg]; rfl
  have l1 := nameB_len h1
  have l2 := valB_len h2
  have hsok : v.all sok = true := (valB_parts h2).1
  rw [hc, hR]
  clear cN cV hg hc hR
  repeat (first | refine JL.q (by first | (apply OQ.load; exact strC; exact rfl; exact .here; exact (Row.cell (v := Z n) rfl)) | (apply OQ.addS (l := n) (r := [58]); exact rfl; exact rfl; exact (by simp only [List.length_cons, List.length_nil]; omega)) | (apply OQ.addS (l := n ++ [58]) (r := [32]); exact rfl; exact rfl; exact (by simp only [List.length_append, List.length_cons, List.length_nil]; omega)) | (apply OQ.move; exact rfl) | (apply OQ.assign; exact rfl) | (apply OQ.fld; exact rfl; exact rfl; exact rfl; exact (by decide); exact rfl)) rfl ?_ | refine JC.seq ?_ | refine JC.region ?_ | refine JC.skip ?_ | refine JL.nil ?_ | refine JE.next ?_)
  refine JL.s2o (r := n ++ [58] ++ [32]) Tryz.underlying9 rfl Tryz.underlying22 Tryz.underlying5 rfl rfl fun b cap _ => ?_
  repeat (first | refine JL.q (by first | (apply OQ.load; exact strC; exact rfl; exact (.there .here); exact (Row.cell (v := Z v) rfl)) | (apply OQ.move; exact rfl) | (apply OQ.assign; exact rfl) | (apply OQ.len; exact rfl; exact rfl) | (apply OQ.fld; exact rfl; exact rfl; exact rfl; exact (by decide); exact rfl)) rfl ?_ | refine JC.seq ?_ | refine JC.region ?_ | refine JC.block ?_ | refine JL.nil ?_ | refine JE.next ?_)
  have hB0 : (n ++ [58] ++ [32]).length = n.length + 2 := by simp
  have e0 : (st n v 0).1 = n ++ [58] ++ [32] := by simp [st]
  have hsl := st_len n v
  refine JC.loop (fun q : Nat × Nat × Nat => [(4, Z (n ++ [58] ++ [32])), (5, .slice (some ⟨q.2.1, 0, none⟩) (st n v q.1).1.length q.2.2), (6, N (st n v q.1).2), (7, Z (v.drop q.1))])
    (fun q => [⟨q.2.1, OwnF 5 (st n v q.1).1.length q.2.2 ((st n v q.1).1.map U8), true⟩]) (fun q => v.length - q.1) (fun q => q.1 ≤ v.length ∧ (q.1 = 0 ∨ q.1 = v.length ∨ tn v q.1 = true)) (0, b, cap) ⟨Nat.zero_le _, .inl rfl⟩ ?_ (.keep _ _ _ _ _ _ ?_ (.nil _)) ?_
  · show SubE _ [(4, Z (n ++ [58] ++ [32])), (5, .slice (some ⟨b, 0, none⟩) (st n v 0).1.length cap), (6, N (n.length + 2)), (7, Z v)]
    rw [e0, ← hB0]
    exact (by repeat (first | exact SubE.nil | refine SubE.cons _ _ _ rfl ?_))
  · intro o h
    show OwnF _ (st n v 0).1.length _ ((st n v 0).1.map U8) o
    rw [e0]
    exact h
  clear hB0 e0
  rintro ⟨i, b, cap⟩ ⟨hi, hat⟩
  simp only at hi hat
  dsimp only
  obtain ⟨hl1, hl2⟩ := hsl i
  have hlow := st_low n v i
  by_cases hend : i = v.length
  · have hd : decide (v.drop i = []) = true := decide_eq_true (by rw [hend]; simp)
    repeat (first | refine JL.q (by first | (apply OQ.neSB (r := []); exact rfl; exact rfl; exact hd) | (apply OQ.move; exact rfl)) rfl ?_ | refine JC.seq ?_ | refine JC.region ?_ | refine JL.nil ?_ | refine JE.next ?_)
    refine JC.cond rfl (fun h => by cases h) (fun _ => ?_)
    subst hend
    clear hd hat hi
    repeat (first | refine JL.q (by (apply OQ.move; exact rfl)) rfl ?_ | refine JC.seq ?_ | refine JC.region ?_ | refine JC.exit ?_ | refine JE.next ?_ | refine JE.then_exit ?_ | refine JE.blk_hit ?_)
    refine JL.appendX (v := Z [13, 10]) (m := 2) (xs := (st n v v.length).1.map U8) (news := ([13, 10] : List Bt).map U8) (fun b' cap' => [⟨b', OwnF 5 ((st n v v.length).1.length + 2) cap' ((st n v v.length).1.map U8 ++ ([13, 10] : List Bt).map U8), true⟩]) Tryz.underlying22 u8e rfl rfl (fun _ _ => src_str Tryz.underlying9) (by intro _ _; repeat (first | exact Repl.here | apply Repl.there)) (by omega) rfl fun b' cap' => ?_
    repeat (first | refine JL.q (by (apply OQ.assign; exact rfl)) rfl ?_ | refine JL.nil ?_ | refine JE.next ?_)
    refine JC.ret ?_
    skip
    refine JE.ret2 rfl (RV.tmp rfl) (RV.tmp rfl) ?_
    intro w' hw
    refine ⟨⟨⟨some ⟨b', 0, none⟩, cap', foldB n v⟩, ⟨rfl, by simp⟩⟩, ?_, hw.weak ?_⟩
    · show _ = Ending.returned (.tuple #[Value.slice _ (foldB n v).length _, N 0])
      rw [foldB, List.length_append]; rfl
    · have hl : (foldB n v).length = (st n v v.length).1.length + 2 := by rw [foldB, List.length_append]; rfl
      have := ownF_ents (e := 5) (b := b') (cap := cap') hl
      rw [foldB, List.map_append] at this
      exact this
  have hi' : i < v.length := by omega
  have hat' : i = 0 ∨ tn v i = true := by
    rcases hat with h | h | h
    · exact .inl h
    · exact absurd h hend
    · exact .inr h
  clear hat hi
  have hd : decide (v.drop i = []) = false := decide_eq_false (by
    intro h
    have := congrArg List.length h
    rw [List.length_drop, List.length_nil] at this
    omega)
  have hps := piece_scan hi'
  have hse := scan_ge v (i + 1) hi'
  have hsl2 := Fld.scan_le v (i + 1)
  have hpc := st_piece n v hi'
  have htn : scan v (i + 1) = v.length ∨ tn v (scan v (i + 1)) = true := by
    by_cases h : scan v (i + 1) = v.length
    · exact .inl h
    · exact .inr (scan_tn v (i + 1) hi' (by omega))
  have cP := fun w' => fpiece_any (v.drop i) w' (by rw [List.length_drop]; omega) (fun c hc => sok_low (List.all_eq_true.1 hsok c (List.mem_of_mem_drop hc)))
  have hdl : (v.drop i).length = v.length - i := List.length_drop
  generalize hsz : pieceB (v.drop i) = sz at hps cP
  have hszl : sz ≤ (v.drop i).length := by omega
  rw [← hps] at hse hsl2 hpc htn
  have hpart : (v.take (i + sz)).drop i = (v.drop i).take sz := by
    rw [List.drop_take, Nat.add_sub_cancel_left]
  rw [hpart, Nat.add_sub_cancel_left] at hpc
  have hbA : brkA n v i = (decide ((76 : Int) < (((st n v i).2 + sz : Nat) : Int)) && decide (((n ++ [58] ++ [32]).length : Int) < ((st n v i).1.length : Int))) := by
    unfold brkA
    rw [show scan v (i + 1) - i = sz by rw [← hps]; omega, Bool.and_comm]
    congr 1
    · exact decide_eq_decide.2 (by omega)
    · rw [Bool.eq_iff_iff, decide_eq_true_eq]
      have hB0 : (n ++ [58] ++ [32]).length = n.length + 2 := by simp
      rw [hB0]
      constructor
      · intro h
        have : 0 < i := by
          rw [tn, Bool.and_eq_true, decide_eq_true_eq] at h
          exact h.1
        omega
      · intro h
        rcases hat' with h0 | h0
        · subst h0
          simp only [st, List.length_append, List.length_cons, List.length_nil] at h
          omega
        · exact h0
  clear hat'
  generalize brkA n v i = B at hpc hbA
  have hdrop : (v.drop i).drop sz = v.drop (i + sz) := by rw [List.drop_drop]
  generalize hO : (st n v i).1 = O at hl1 hlow hpc hbA ⊢
  generalize hL : (st n v i).2 = L at hl2 hpc hbA ⊢
  generalize hD : v.drop i = D at hd hdrop hpc cP hdl hszl ⊢
  have hB0 : (n ++ [58] ++ [32]).length = n.length + 2 := by simp
  generalize n ++ [58] ++ [32] = begins at hbA hB0 ⊢
  repeat (first | refine JL.q (by first | (apply OQ.neSB (r := []); exact rfl; exact rfl; exact hd) | (apply OQ.move; exact rfl)) rfl ?_ | refine JC.seq ?_ | refine JC.region ?_ | refine JL.nil ?_ | refine JE.next ?_)
  refine JC.cond rfl (fun _ => ?_) (fun h => by cases h)
  cases g1 : decide ((76 : Int) < ((L + sz : Nat) : Int)) <;> cases g2 : decide ((begins.length : Int) < (O.length : Int))
  all_goals rw [g1, g2] at hbA
  all_goals (repeat (first | refine JL.q (by first | (apply OQ.callx (vs := [Z D]); exact goes_fpiece; exact rfl; exact (fun w' _ => cP w')) | (apply OQ.gtrB (b := 76); exact rfl; exact rfl; exact g1) | (apply OQ.lenS; exact Tryz.underlying9; exact rfl) | (apply OQ.len; exact Tryz.underlying22; exact rfl) | (apply OQ.gtrB; exact rfl; exact rfl; exact g2) | (apply OQ.pick_t; exact rfl; exact rfl) | (apply OQ.pick_f; exact rfl; exact rfl) | (apply OQ.move; exact rfl) | (apply OQ.assign; exact rfl) | (apply OQ.addN; exact rfl; exact rfl; exact (by (try simp only []); omega))) rfl ?_ | refine JC.seq ?_ | refine JC.region ?_ | refine JC.block ?_ | refine JC.skip ?_ | refine JL.nil ?_ | refine JE.next ?_ | refine JL.gon rfl rfl ?_ | refine JL.gskip rfl rfl rfl rfl ?_))
  all_goals (
    refine JC.join (ι := Nat × Nat) (fun q => [(4, Z begins), (5, .slice (some ⟨q.1, 0, none⟩) (O ++ if B then [13, 10] else []).length q.2), (6, N (if B then 0 else L)), (7, Z D), (8, N sz)]) (fun q => [⟨q.1, OwnF 5 (O ++ if B then [13, 10] else []).length q.2 ((O ++ if B then [13, 10] else []).map U8), true⟩]) (fun _ => True) ?_ ?_
    · refine JC.cond rfl (fun h => ?_) (fun h => ?_)
      all_goals first | (exfalso; revert h; decide) | skip
      all_goals clear h
      all_goals first
        | (have hB : B = false := hbA
           subst hB
           (repeat (refine JC.skip ?_))
           refine JE.mid (b, cap) trivial ?_ ?_
           · simp only [Bool.false_eq_true, if_false, List.append_nil]
             exact (by repeat (first | exact SubE.nil | refine SubE.cons _ _ _ rfl ?_))
           · simp only [Bool.false_eq_true, if_false, List.append_nil]
             exact Less.refl _)
        | (have hB : B = true := hbA
           subst hB
           (repeat (first | refine JL.q (by (apply OQ.move; exact rfl)) rfl ?_ | refine JC.region ?_))
           refine JL.appendX (v := Z [13, 10]) (m := 2) (xs := O.map U8) (news := ([13, 10] : List Bt).map U8) (fun b' cap' => [⟨b', OwnF 5 (O.length + 2) cap' (O.map U8 ++ ([13, 10] : List Bt).map U8), true⟩]) Tryz.underlying22 u8e rfl rfl (fun _ _ => src_str Tryz.underlying9) (by intro _ _; repeat (first | exact Repl.here | apply Repl.there)) (by omega) rfl fun b' cap' => ?_
           (repeat (first | refine JL.q (by (apply OQ.assign; exact rfl)) rfl ?_ | refine JL.nil ?_))
           refine JE.mid (b', cap') trivial ?_ ?_
           · simp only [if_true, List.length_append]
             exact (by repeat (first | exact SubE.nil | refine SubE.cons _ _ _ rfl ?_))
           · simp only [if_true, List.length_append, List.map_append]
             exact Less.refl _)
    · rintro ⟨b2, cap2⟩ _
      dsimp only
      have hX : (O ++ if B then [13, 10] else []).length ≤ n.length + 4 + 3 * i := by
        rw [List.length_append]
        have : (if B then ([13, 10] : List Fld.By) else []).length ≤ 2 := by cases B <;> simp
        omega
      have hW : (if B then 0 else L) ≤ L := by cases B <;> simp
      generalize (O ++ if B then [13, 10] else []) = X at hX hpc ⊢
      generalize (if B then 0 else L) = W at hW hpc ⊢
      (repeat (first | refine JL.q (by first | (apply OQ.subS_hi; exact Tryz.underlying9; exact rfl; exact rfl; exact hszl) | (apply OQ.move; exact rfl)) rfl ?_ | refine JC.seq ?_ | refine JC.region ?_))
      have hDl : (D.take sz).length = sz := by rw [List.length_take]; omega
      refine JL.appendX (v := Z (D.take sz)) (m := (D.take sz).length) (xs := X.map U8) (news := (D.take sz).map U8) (fun b' cap' => [⟨b', OwnF 5 (X.length + (D.take sz).length) cap' (X.map U8 ++ (D.take sz).map U8), true⟩]) Tryz.underlying22 u8e rfl rfl (fun _ _ => src_str Tryz.underlying9) (by intro _ _; repeat (first | exact Repl.here | apply Repl.there)) (by omega) rfl fun b' cap' => ?_
      (repeat (first | refine JL.q (by first | (apply OQ.subS_lo; exact Tryz.underlying9; exact rfl; exact rfl; exact hszl) | (apply OQ.move; exact rfl) | (apply OQ.assign; exact rfl) | (apply OQ.addN; exact rfl; exact rfl; exact (by (try simp only []); omega))) rfl ?_ | refine JC.seq ?_ | refine JC.region ?_ | refine JL.nil ?_ | refine JE.next ?_ | refine JE.blk_normal ?_))
      refine JE.again (i := (i, b, cap)) (i + sz, b', cap') ⟨hsl2, ?_⟩ (by show v.length - (i + sz) < v.length - i; omega) ?_ ?_
      · exact .inr htn
      · dsimp only
        rw [hpc]
        dsimp only
        rw [List.length_append, ← hdrop]
        exact (by repeat (first | exact SubE.nil | refine SubE.cons _ _ _ rfl ?_))
      · dsimp only
        rw [hpc]
        dsimp only
        rw [List.length_append, List.map_append]
        exact Less.refl _)
end Go.Proofs.YtbbmhkdfdgnkpaaGreatDoor

/-
  Of no statement by itself: what the landed field's cutLine, tooLong and goOn give.
  Conditions: each theorem's own.
-/
namespace Go.Proofs.YtbbmhkdfdgnkpaaGreatDoor
set_option maxRecDepth 10000
open Sl Fld
theorem goes_fcut : Goes Tryz.prog 133 := ⟨_, Tryz.func133, rfl, by kernel_rfl⟩
theorem goes_flong : Goes Tryz.prog 132 := ⟨_, Tryz.func132, rfl, by kernel_rfl⟩
theorem goes_fgo : Goes Tryz.prog 157 := ⟨_, Tryz.func157, rfl, by kernel_rfl⟩
/-- the first line of a slice, and what is behind it -/
def lineS (s : Sl8) : Sl8 := trimS1 13 (s.fst (fi 10 s.l))
def restS (s : Sl8) : Sl8 := s.snd (fi 10 s.l + 1)
theorem lineS_ok {s : Sl8} {w : World} (h : s.ok w) : (lineS s).ok w := trimS1_ok (h.fst _)
theorem restS_ok {s : Sl8} {w : World} (h : s.ok w) (hl : fi 10 s.l < s.l.length) : (restS s).ok w := h.snd _ hl
theorem pre_take (l : List Fld.By) : l.take (fi 10 l) = pre10 l := by
  obtain ⟨t, ht⟩ := List.takeWhile_prefix (· != (10 : Fld.By)) (l := l)
  show l.take (pre10 l).length = pre10 l
  have ht : pre10 l ++ t = l := ht
  conv => lhs; rw [← ht]
  rw [pre10_of ht]
  exact List.take_left' rfl
where
  pre10_of {l t : List Fld.By} (h : pre10 l ++ t = l) : (pre10 (pre10 l ++ t)).length = (pre10 l).length := by rw [h]
theorem lineS_l (s : Sl8) : (lineS s).l = chop (pre10 s.l) := by
  have e : (s.fst (fi 10 s.l)).l = pre10 s.l := pre_take s.l
  unfold lineS trimS1 chop
  rw [e]
  by_cases h : (pre10 s.l).getLast? = some 13
  · rw [if_pos h, if_pos h]
    show (s.fst (fi 10 s.l)).l.take _ = _
    rw [e, List.dropLast_eq_take]
  · rw [if_neg h, if_neg h, e]
theorem cutS_some {s : Sl8} (h : fi 10 s.l < s.l.length) : cut s.l = some ((lineS s).l, (restS s).l) := by
  have h' : (pre10 s.l).length < s.l.length := h
  rw [lineS_l]
  exact if_pos h'
theorem cutS_none {s : Sl8} (h : ¬ fi 10 s.l < s.l.length) : cut s.l = none := if_neg h
theorem restS_len (s : Sl8) : (restS s).l.length = s.l.length - (fi 10 s.l + 1) := List.length_drop
theorem lineS_len (s : Sl8) : (lineS s).l.length ≤ fi 10 s.l := by
  rw [lineS_l]
  unfold chop
  split
  · rw [List.length_dropLast]
    show (pre10 s.l).length - 1 ≤ (pre10 s.l).length
    omega
  · exact Nat.le_refl _
def cutLV (s : Sl8) : Value := if fi 10 s.l < s.l.length then .tuple #[(lineS s).v, (restS s).v, .bool true] else .tuple #[nilS.v, nilS.v, .bool false]
set_option maxHeartbeats 4000000 in
theorem fcut_any (s : Sl8) (w : World) (hs : s.ok w) (hl : s.l.length ≤ 100000) : Calls Tryz.prog 133 [s.v].toArray w fun e w' => e = .returned (cutLV s) ∧ Ext w w' := by
  refine enter (n := 18) Tryz.func133 rfl rfl rfl (Holds.start w []) ?_
  repeat (first | refine JL.q (by first | (apply OQ.move; exact rfl) | (apply OQ.assign; exact rfl)) rfl ?_ | refine JC.seq ?_ | refine JC.region ?_ | refine JL.nil ?_ | refine JE.next ?_)
  refine JL.lit1 (v := U8 10) Tryz.underlying22 u8e rfl rfl rfl rfl fun bl _ => ?_
  have hq := fun w' (hw' : Holds w [] [⟨bl, Row 5 [U8 10], true⟩] w') => bcut_any s bl 1 10 w' (by omega) (hs.holds hw' rfl) (row_ok (l := [10]) hw' .here rfl (Nat.le_refl _))
  have hfi := fi_le 10 s.l
  unfold cutW at hq
  unfold cutLV
  by_cases h : fi 10 s.l < s.l.length
  · simp only [h, if_true] at hq ⊢
    repeat (first | refine JL.q (by first | (apply OQ.callx (vs := [s.v, .slice (some ⟨bl, 0, none⟩) 1 1]); exact goes_bcut; exact rfl; exact hq) | (apply OQ.extract; exact rfl; exact rfl) | (apply OQ.not; exact rfl) | (apply OQ.move; exact rfl) | (apply OQ.assign; exact rfl)) rfl ?_ | refine JC.seq ?_ | refine JC.region ?_ | refine JL.nil ?_ | refine JE.next ?_)
    refine JC.cond rfl (fun h => by cases h) (fun _ => ?_)
    repeat (first | refine JL.q (by (apply OQ.move; exact rfl)) rfl ?_ | refine JC.seq ?_ | refine JC.region ?_ | refine JC.skip ?_ | refine JE.next ?_)
    refine JL.lit1 (v := U8 13) Tryz.underlying22 u8e rfl rfl rfl rfl fun bl2 _ => ?_
    repeat (first | refine JL.q (by first | (apply OQ.callx (vs := [(s.fst (fi 10 s.l)).v, .slice (some ⟨bl2, 0, none⟩) 1 1]); exact goes_btrims; exact rfl; exact (fun w' hw' => btrims_any (s.fst (fi 10 s.l)) bl2 1 13 w' (by show (s.l.take _).length ≤ _; rw [List.length_take]; omega) ((hs.holds hw' rfl).fst _) (row_ok (l := [13]) hw' .here rfl (Nat.le_refl _)))) | (apply OQ.move; exact rfl) | (apply OQ.assign; exact rfl)) rfl ?_ | refine JL.nil ?_ | refine JE.next ?_)
    refine JC.ret ?_
    skip
    exact JE.ret3 rfl (RV.tmp rfl) (RV.tmp rfl) (RV.tmp rfl) fun w' hw => ⟨rfl, hw.chg⟩
  · simp only [h, if_false] at hq ⊢
    repeat (first | refine JL.q (by first | (apply OQ.callx (vs := [s.v, .slice (some ⟨bl, 0, none⟩) 1 1]); exact goes_bcut; exact rfl; exact hq) | (apply OQ.extract; exact rfl; exact rfl) | (apply OQ.not; exact rfl) | (apply OQ.move; exact rfl) | (apply OQ.assign; exact rfl)) rfl ?_ | refine JC.seq ?_ | refine JC.region ?_ | refine JL.nil ?_ | refine JE.next ?_)
    refine JC.cond rfl (fun _ => ?_) (fun h => by cases h)
    repeat (first | refine JL.q (by (apply OQ.assign; exact rfl)) rfl ?_ | refine JC.seq ?_ | refine JC.region ?_ | refine JL.nil ?_ | refine JE.next ?_)
    refine JC.ret ?_
    repeat (refine JE.then_ret ?_)
    exact JE.ret3 rfl (RV.tmp rfl) (RV.tmp rfl) (RV.tmp rfl) fun w' hw => ⟨rfl, hw.chg⟩
/-! ### heads that are too long -/
set_option maxHeartbeats 8000000 in
theorem flong_any (s : Sl8) (w : World) (hs : s.ok w) (hl : s.l.length ≤ 100000) : Calls Tryz.prog 132 [s.v].toArray w fun e w' => e = .returned (.bool (longB s.l)) ∧ Ext w w' := by
  refine enter (n := 23) Tryz.func132 rfl rfl rfl (Holds.start w []) ?_
  have hcap := hs.len
  unfold longB
  cases g : decide ((s.l.length : Int) ≤ 65536)
  case true =>
    have : decide (65536 < s.l.length) = false := decide_eq_false (by have := of_decide_eq_true g; omega)
    rw [this, Bool.false_and]
    repeat (first | refine JL.q (by first | (apply OQ.leqB (b := 65536); exact rfl; exact rfl; exact g) | (apply OQ.move; exact rfl) | (apply OQ.assign; exact rfl) | (apply OQ.len; exact rfl; exact rfl)) rfl ?_ | refine JC.seq ?_ | refine JC.region ?_ | refine JL.nil ?_ | refine JE.next ?_)
    refine JC.cond rfl (fun _ => ?_) (fun h => by cases h)
    repeat (first | refine JL.q (by (apply OQ.assign; exact rfl)) rfl ?_ | refine JC.seq ?_ | refine JC.region ?_ | refine JL.nil ?_ | refine JE.next ?_)
    refine JC.ret ?_
    repeat (refine JE.then_ret ?_)
    exact JE.ret1 rfl (RV.tmp rfl) fun w' hw => ⟨rfl, hw.chg⟩
  have hlt : 65536 ≤ s.l.length := by have := of_decide_eq_false g; omega
  have : decide (65536 < s.l.length) = true := decide_eq_true (by have := of_decide_eq_false g; omega)
  rw [this, Bool.true_and]
  repeat (first | refine JL.q (by first | (apply OQ.leqB (b := 65536); exact rfl; exact rfl; exact g) | (apply OQ.move; exact rfl) | (apply OQ.assign; exact rfl) | (apply OQ.len; exact rfl; exact rfl)) rfl ?_ | refine JC.seq ?_ | refine JC.region ?_ | refine JL.nil ?_ | refine JE.next ?_)
  refine JC.cond rfl (fun h => by cases h) (fun _ => ?_)
  repeat (first | refine JL.q (by first | (apply OQ.fst (s := s) (m := 65536); exact Tryz.underlying22; exact u8s; exact rfl; exact rfl; exact hlt; exact hcap) | (apply OQ.move; exact rfl) | (apply OQ.assign; exact rfl)) rfl ?_ | refine JC.seq ?_ | refine JC.region ?_ | refine JC.block ?_ | refine JC.skip ?_ | refine JL.nil ?_ | refine JE.next ?_)
  refine JC.loop (fun x : Sl8 => [(0, x.v)]) (fun _ => []) (fun x => x.l.length) (fun x => x.ok w ∧ x.l.length ≤ 100000 ∧ (hend (s.l.take 65536)).isNone = (hend x.l).isNone) (s.fst 65536) ⟨hs.fst _, by show (s.l.take _).length ≤ _; rw [List.length_take]; omega, rfl⟩ (by repeat (first | exact SubE.nil | refine SubE.cons _ _ _ rfl ?_)) (Less.refl _) ?_
  rintro x ⟨hx, hxl, he⟩
  rw [he]
  have hq := fun w' (hw' : Holds w [] [] w') => fcut_any x w' (hx.holds hw' rfl) hxl
  unfold cutLV at hq
  by_cases h : fi 10 x.l < x.l.length
  · simp only [h, if_true] at hq
    have hc := cutS_some h
    have hro := restS_ok hx h
    have hrl := restS_len x
    repeat (first | refine JL.q (by first | (apply OQ.callx (vs := [x.v]); exact goes_fcut; exact rfl; exact hq) | (apply OQ.extract; exact rfl; exact rfl) | (apply OQ.not; exact rfl) | (apply OQ.move; exact rfl) | (apply OQ.assign; exact rfl)) rfl ?_ | refine JC.seq ?_ | refine JC.region ?_ | refine JC.block ?_ | refine JL.nil ?_ | refine JE.next ?_)
    refine JC.cond rfl (fun h => by cases h) (fun _ => ?_)
    cases hz : decide (((lineS x).l.length : Int) = 0)
    · have hne : (lineS x).l ≠ [] := fun k => by
        have := of_decide_eq_false hz
        rw [k] at this
        exact this rfl
      repeat (first | refine JL.q (by first | (apply OQ.eqB (b := 0); exact rfl; exact rfl; exact hz) | (apply OQ.move; exact rfl) | (apply OQ.len; exact rfl; exact rfl)) rfl ?_ | refine JC.seq ?_ | refine JC.region ?_ | refine JC.skip ?_ | refine JL.nil ?_ | refine JE.next ?_)
      refine JC.cond rfl (fun h => by cases h) (fun _ => ?_)
      repeat (first | refine JL.q (by first | (apply OQ.move; exact rfl) | (apply OQ.assign; exact rfl)) rfl ?_ | refine JC.region ?_ | refine JC.skip ?_ | refine JL.nil ?_ | refine JE.next ?_ | refine JE.blk_normal ?_)
      refine JE.again (i := x) (restS x) ⟨hro, by omega, ?_⟩ (by omega) (by repeat (first | exact SubE.nil | refine SubE.cons _ _ _ rfl ?_)) (Less.refl _)
      rw [hend_go hc hne]
      cases hend (restS x).l <;> rfl
    · have hne : (lineS x).l = [] := List.eq_nil_of_length_eq_zero (by have := of_decide_eq_true hz; omega)
      rw [hne] at hc
      rw [hend_end hc]
      repeat (first | refine JL.q (by first | (apply OQ.eqB (b := 0); exact rfl; exact rfl; exact hz) | (apply OQ.move; exact rfl) | (apply OQ.len; exact rfl; exact rfl)) rfl ?_ | refine JC.seq ?_ | refine JC.region ?_ | refine JC.skip ?_ | refine JL.nil ?_ | refine JE.next ?_)
      refine JC.cond rfl (fun _ => ?_) (fun h => by cases h)
      repeat (first | refine JL.q (by (apply OQ.assign; exact rfl)) rfl ?_ | refine JC.seq ?_ | refine JC.region ?_ | refine JL.nil ?_ | refine JE.next ?_)
      refine JC.ret ?_
      repeat (first | refine JE.then_ret ?_ | refine JE.blk_ret ?_)
      exact JE.ret1 rfl (RV.tmp rfl) fun w' hw => ⟨rfl, hw.chg⟩
  · simp only [h, if_false] at hq
    rw [hend_none (cutS_none h)]
    repeat (first | refine JL.q (by first | (apply OQ.callx (vs := [x.v]); exact goes_fcut; exact rfl; exact hq) | (apply OQ.extract; exact rfl; exact rfl) | (apply OQ.not; exact rfl) | (apply OQ.move; exact rfl) | (apply OQ.assign; exact rfl)) rfl ?_ | refine JC.seq ?_ | refine JC.region ?_ | refine JC.block ?_ | refine JL.nil ?_ | refine JE.next ?_)
    refine JC.cond rfl (fun _ => ?_) (fun h => by cases h)
    repeat (first | refine JL.q (by (apply OQ.assign; exact rfl)) rfl ?_ | refine JC.seq ?_ | refine JC.region ?_ | refine JL.nil ?_ | refine JE.next ?_)
    refine JC.ret ?_
    repeat (first | refine JE.then_ret ?_ | refine JE.blk_ret ?_)
    exact JE.ret1 rfl (RV.tmp rfl) fun w' hw => ⟨rfl, hw.chg⟩
/-! ### lines that go on -/
def goV (o : Option (List Fld.By × List Fld.By)) (y : Sl8) : Value := match o with
  | some p => .tuple #[Z p.1, y.v, .bool true]
  | none => .tuple #[Z [], nilS.v, .bool false]
structure GS where
  x : Sl8
  a : List Fld.By
  q : Acc
set_option maxHeartbeats 16000000 in
theorem fgo_any (s : Sl8) (w : World) (hs : s.ok w) (hl : s.l.length ≤ 100000) : Calls Tryz.prog 157 [s.v].toArray w fun e w' => ∃ y : { y : Sl8 // (∀ w1, s.ok w1 → y.ok w1) ∧ ∀ p, conts s.l = some p → y.l = p.2 }, e = .returned (goV (conts s.l) y.1) ∧ Ext w w' := by
  refine enter (n := 33) Tryz.func157 rfl rfl rfl (Holds.start w []) ?_
  repeat (first | refine JL.q (by (apply OQ.assign; exact rfl)) rfl ?_ | refine JC.seq ?_ | refine JC.region ?_ | refine JC.block ?_ | refine JL.nil ?_ | refine JE.next ?_)
  refine JC.loop (fun g : GS => [(0, g.x.v), (5, accV g.q g.a.length)]) (fun g => accE 5 g.q (g.a.map U8) ++ []) (fun g => g.x.l.length) (fun g => (∀ w1, s.ok w1 → g.x.ok w1) ∧ g.a.length + g.x.l.length ≤ 100000 ∧ (g.q = none → g.a = []) ∧ conts s.l = (conts g.x.l).map fun p => (g.a ++ p.1, p.2)) ⟨s, [], none⟩ ⟨fun _ h => h, by simpa using hl, fun _ => rfl, by cases conts s.l <;> rfl⟩ (by repeat (first | exact SubE.nil | refine SubE.cons _ _ _ rfl ?_)) (Less.refl _) ?_
  rintro ⟨x, A, q⟩ ⟨hxa, hxl, hq0, hcs⟩
  dsimp only at hxa hxl hq0 hcs ⊢
  have hx := hxa w hs
  rw [hcs]
  have hcap := hx.len
  cases g1 : decide ((0 : Int) < (x.l.length : Int))
  case false =>
    have hx0 : x.l = [] := List.eq_nil_of_length_eq_zero (by have := of_decide_eq_false g1; omega)
    rw [conts_no (.inl hx0)] at hcs ⊢
    repeat (first | refine JL.q (by first | (apply OQ.gtrB (b := 0); exact rfl; exact rfl; exact g1) | (apply OQ.pick_f; exact rfl; exact rfl) | (apply OQ.move; exact rfl) | (apply OQ.len; exact rfl; exact rfl)) rfl ?_ | refine JC.seq ?_ | refine JC.region ?_ | refine JL.nil ?_ | refine JE.next ?_ | refine JL.gskip rfl rfl rfl rfl ?_)
    refine JC.cond rfl (fun h => by cases h) (fun _ => ?_)
    repeat (first | refine JL.q (by first | (apply OQ.to; exact (OQ.b2s (s := accS q A) Tryz.underlying22 Tryz.underlying5 Tryz.underlying9 (congrArg some (accS_v q A).symm) (fun w' hw' => acc_ok hw')); exact (congrArg Z (accS_l hq0))) | (apply OQ.move; exact rfl) | (apply OQ.assign; exact rfl)) rfl ?_ | refine JC.seq ?_ | refine JC.region ?_ | refine JC.exit ?_ | refine JL.nil ?_ | refine JE.next ?_ | refine JE.then_exit ?_ | refine JE.blk_hit ?_)
    refine JC.ret ?_
    skip
    refine JE.ret3 rfl (RV.tmp rfl) (RV.tmp rfl) (RV.tmp rfl) fun w' hw => ⟨⟨x, hxa, fun p hp => ?_⟩, ?_, hw.chg⟩
    · have hp : some (A ++ [], x.l) = some p := hp
      cases hp
      rfl
    · show _ = Ending.returned (.tuple #[Z (A ++ []), x.v, .bool true])
      rw [List.append_nil]
  have hpos : 0 < x.l.length := by have := of_decide_eq_true g1; omega
  obtain ⟨bx, jx, eX, cX⟩ := hx.reads.at (by simpa using hpos)
  have cx := cX 0 _ (map_at U8 0 hpos)
  have vx : x.v = .slice (some ⟨bx, jx, none⟩) x.l.length x.cap := by rw [← eX]; rfl
  have hi0 := fun {n : Nat} {E : Env} {C : World → Prop} {dst : Option Tmp} {ty : TypeId} {pos : String} {aft : Array Edge} {g : Option (Nat × Bool)} {a b : Operand} (ha : ev E a = some x.v) (hb : ev E b = some (N 0)) => OQ.idxS1 (P := Tryz.prog) (n := n) (E := E) (C := C) (dst := dst) (ty := ty) (pos := pos) (aft := aft) (g := g) (x := a) (y := b) (i := 0) Tryz.underlying22 u8s (vx ▸ ha) hb hpos
  have cB := fun w' => fblank_any (x.l.getD 0 0) w'
  cases g2 : bl (x.l.getD 0 0)
  case false =>
    rw [conts_no (.inr g2)] at hcs ⊢
    repeat (first | refine JL.q (by first | (apply OQ.gtrB (b := 0); exact rfl; exact rfl; exact g1) | (apply hi0; exact rfl; exact rfl) | (apply OQ.load_old; exact u8c; exact rfl; exact (block_lt_of_cell cx); exact (by simp); exact cx) | (apply OQ.callb (vs := [U8 (x.l.getD 0 0)]); exact goes_fblank; exact rfl; exact cB; exact g2) | (apply OQ.pick_t; exact rfl; exact rfl) | (apply OQ.move; exact rfl) | (apply OQ.len; exact rfl; exact rfl)) rfl ?_ | refine JC.seq ?_ | refine JC.region ?_ | refine JL.nil ?_ | refine JE.next ?_ | refine JL.gon rfl rfl ?_)
    refine JC.cond rfl (fun h => by cases h) (fun _ => ?_)
    repeat (first | refine JL.q (by first | (apply OQ.to; exact (OQ.b2s (s := accS q A) Tryz.underlying22 Tryz.underlying5 Tryz.underlying9 (congrArg some (accS_v q A).symm) (fun w' hw' => acc_ok hw')); exact (congrArg Z (accS_l hq0))) | (apply OQ.move; exact rfl) | (apply OQ.assign; exact rfl)) rfl ?_ | refine JC.seq ?_ | refine JC.region ?_ | refine JC.exit ?_ | refine JL.nil ?_ | refine JE.next ?_ | refine JE.then_exit ?_ | refine JE.blk_hit ?_)
    refine JC.ret ?_
    skip
    refine JE.ret3 rfl (RV.tmp rfl) (RV.tmp rfl) (RV.tmp rfl) fun w' hw => ⟨⟨x, hxa, fun p hp => ?_⟩, ?_, hw.chg⟩
    · have hp : some (A ++ [], x.l) = some p := hp
      cases hp
      rfl
    · show _ = Ending.returned (.tuple #[Z (A ++ []), x.v, .bool true])
      rw [List.append_nil]
  have hb2 : bl (x.l.getD 0 0) = true ∧ x.l ≠ [] := ⟨g2, fun k => by rw [k] at hpos; exact absurd hpos (by decide)⟩
  repeat (first | refine JL.q (by first | (apply OQ.gtrB (b := 0); exact rfl; exact rfl; exact g1) | (apply hi0; exact rfl; exact rfl) | (apply OQ.load_old; exact u8c; exact rfl; exact (block_lt_of_cell cx); exact (by simp); exact cx) | (apply OQ.callb (vs := [U8 (x.l.getD 0 0)]); exact goes_fblank; exact rfl; exact cB; exact g2) | (apply OQ.pick_t; exact rfl; exact rfl) | (apply OQ.move; exact rfl) | (apply OQ.len; exact rfl; exact rfl)) rfl ?_ | refine JC.seq ?_ | refine JC.region ?_ | refine JL.nil ?_ | refine JE.next ?_ | refine JL.gon rfl rfl ?_)
  refine JC.cond rfl (fun _ => ?_) (fun h => by cases h)
  have hq := fun w' (hw' : Holds w [] (accE 5 q (A.map U8) ++ []) w') => fcut_any x w' (hx.holds hw' rfl) (by omega)
  unfold cutLV at hq
  by_cases h : fi 10 x.l < x.l.length
  · simp only [h, if_true] at hq
    have hc := cutS_some h
    have hro := restS_ok hx h
    have hrl := restS_len x
    have hll := lineS_len x
    have hlo := lineS_ok hx
    rw [conts_some hb2 hc] at hcs
    repeat (first | refine JL.q (by first | (apply OQ.callx (vs := [x.v]); exact goes_fcut; exact rfl; exact hq) | (apply OQ.extract; exact rfl; exact rfl) | (apply OQ.not; exact rfl) | (apply OQ.move; exact rfl) | (apply OQ.assign; exact rfl)) rfl ?_ | refine JC.seq ?_ | refine JC.region ?_ | refine JC.block ?_ | refine JC.skip ?_ | refine JL.nil ?_ | refine JE.next ?_)
    refine JC.cond rfl (fun h => by cases h) (fun _ => ?_)
    repeat (first | refine JL.q (by (apply OQ.move; exact rfl)) rfl ?_ | refine JC.seq ?_ | refine JC.region ?_ | refine JC.skip ?_ | refine JE.next ?_)
    refine JL.appendQ (cs := (lineS x).l.map U8) (m := (lineS x).l.length) (ad := (lineS x).ad) (sc := (lineS x).cap) q Tryz.underlying22 u8e (fun h => by rw [hq0 h]; rfl) (by rw [List.length_map]; rfl) rfl (by rw [List.length_map]) (fun w' hw' => (hlo.holds hw' rfl).reads) (all8U _) rfl (by rw [List.length_map]; omega) (by rw [List.length_map]; omega) rfl fun q3 hq3 => ?_
    rw [← List.map_append]
    repeat (first | refine JL.q (by first | (apply OQ.move; exact rfl) | (apply OQ.assign; exact rfl)) rfl ?_ | refine JC.region ?_ | refine JL.nil ?_ | refine JE.next ?_ | refine JE.blk_normal ?_)
    refine JE.again (i := GS.mk x A q) (GS.mk (restS x) (A ++ (lineS x).l) q3) ⟨fun w1 h1 => restS_ok (hxa w1 h1) h, ?_, ?_, ?_⟩ (by dsimp only; omega) ?_ (Less.refl _)
    · dsimp only
      rw [List.length_append]
      omega
    · intro h
      have := hq3 h
      rw [← List.map_append] at this
      simpa using this
    · dsimp only
      rw [conts_some hb2 hc]
      cases conts (restS x).l with
      | none => rfl
      | some p => simp
    · dsimp only
      rw [List.length_map]
      exact (by repeat (first | exact SubE.nil | refine SubE.cons _ _ _ rfl ?_))
  · simp only [h, if_false] at hq
    rw [conts_none hb2 (cutS_none h)] at hcs ⊢
    repeat (first | refine JL.q (by first | (apply OQ.callx (vs := [x.v]); exact goes_fcut; exact rfl; exact hq) | (apply OQ.extract; exact rfl; exact rfl) | (apply OQ.not; exact rfl) | (apply OQ.move; exact rfl) | (apply OQ.assign; exact rfl)) rfl ?_ | refine JC.seq ?_ | refine JC.region ?_ | refine JC.block ?_ | refine JC.skip ?_ | refine JL.nil ?_ | refine JE.next ?_)
    refine JC.cond rfl (fun _ => ?_) (fun h => by cases h)
    repeat (first | refine JL.q (by (apply OQ.assign; exact rfl)) rfl ?_ | refine JC.seq ?_ | refine JC.region ?_ | refine JL.nil ?_ | refine JE.next ?_)
    refine JC.ret ?_
    repeat (first | refine JE.then_ret ?_ | refine JE.blk_ret ?_)
    refine JE.ret3 rfl (RV.tmp rfl) (RV.tmp rfl) (RV.tmp rfl) fun w' hw => ⟨⟨nilS, fun w1 _ => nilS_ok w1, fun p hp => ?_⟩, rfl, hw.chg⟩
    cases hp
end Go.Proofs.YtbbmhkdfdgnkpaaGreatDoor

/-
  Of no statement by itself: what the landed field's readField and Read give.
  Conditions: each theorem's own.
-/
namespace Go.Proofs.YtbbmhkdfdgnkpaaGreatDoor
set_option maxRecDepth 10000
open Sl Fld
theorem goes_frf : Goes Tryz.prog 134 := ⟨_, Tryz.func134, rfl, by kernel_rfl⟩
theorem fieldZ : zc Tryz.prog 51 = some [Z [], Z []] := by kernel_rfl
section
variable {n : Nat} {E : Env} {C : World → Prop} {dst : Option Tmp} {ty : TypeId} {pos : String} {aft : Array Edge} {g : Option (Nat × Bool)} {x y : Operand}
theorem OQ.buildF0 : OQ Tryz.prog n E C ⟨dst, .build 51 #[], ty, pos, aft, g⟩ (.agg (pc ([], [])).toArray) := OQ.pure rfl rfl (by kernel_rfl)
end
def rfV (o : Except Nat (Pr × List Fld.By)) (y : Sl8) : Value := match o with
  | .ok p => .tuple #[.agg (pc p.1).toArray, y.v, N 0]
  | .error e => .tuple #[.agg (pc ([], [])).toArray, nilS.v, N e]
set_option maxHeartbeats 16000000 in
theorem frf_any (s : Sl8) (k : Nat) (w : World) (hs : s.ok w) (hl : s.l.length ≤ 100000) : Calls Tryz.prog 134 [s.v, N k].toArray w fun e w' => ∃ y : { y : Sl8 // (∀ w1, s.ok w1 → y.ok w1) ∧ ∀ p, rf k s.l = .ok p → y.l = p.2 }, e = .returned (rfV (rf k s.l) y.1) ∧ Ext w w' := by
  refine enter (n := 65) Tryz.func134 rfl rfl rfl (Holds.start w []) ?_
  repeat (first | refine JC.seq ?_ | refine JC.region ?_)
  refine JL.alloc fieldZ rfl fun b4 _ => ?_
  repeat (first | refine JL.q (by first | (apply OQ.move; exact rfl) | (apply OQ.assign; exact rfl)) rfl ?_ | refine JC.seq ?_ | refine JC.region ?_ | refine JL.nil ?_ | refine JE.next ?_)
  have hq := fun w' (hw' : Holds w [] [⟨b4, Row 51 [Z [], Z []], true⟩] w') => fcut_any s w' (hs.holds hw' rfl) hl
  unfold cutLV at hq
  by_cases h : fi 10 s.l < s.l.length
  case neg =>
    simp only [h, if_false] at hq
    have hR : rf k s.l = .error 3 := by unfold rf; rw [cutS_none h]
    rw [hR]
    repeat (first | refine JL.q (by first | (apply OQ.callx (vs := [s.v]); exact goes_fcut; exact rfl; exact hq) | (apply OQ.extract; exact rfl; exact rfl) | (apply OQ.not; exact rfl) | (apply OQ.move; exact rfl) | (apply OQ.assign; exact rfl)) rfl ?_ | refine JC.seq ?_ | refine JC.region ?_ | refine JL.nil ?_ | refine JE.next ?_)
    refine JC.cond rfl (fun _ => ?_) (fun h => by cases h)
    repeat (first | refine JL.q (by (apply OQ.buildF0)) rfl ?_ | refine JC.seq ?_ | refine JC.region ?_)
    refine JL.store_all (cs := pc ([], [])) fieldS rfl rfl rfl rfl .here rfl ?_
    repeat (first | refine JL.q (by (apply OQ.assign; exact rfl)) rfl ?_ | refine JL.nil ?_ | refine JE.next ?_)
    refine JC.ret ?_
    repeat (refine JE.then_ret ?_)
    exact JE.ret3 rfl (RV.cell_agg fieldA fieldS rfl .here rfl Row.all) (RV.tmp rfl) (RV.tmp rfl) fun w' hw => ⟨⟨nilS, fun w1 _ => nilS_ok w1, fun p hp => by cases hp⟩, rfl, hw.chg⟩
  simp only [h, if_true] at hq
  have hc := cutS_some h
  have hro := fun w1 h1 => restS_ok (s := s) (w := w1) h1 h
  have hlo := fun w1 h1 => lineS_ok (s := s) (w := w1) h1
  have hrl := restS_len s
  have hll := lineS_len s
  have hR : rf k s.l = rfL k (lineS s).l (restS s).l := by unfold rf; rw [hc]
  rw [hR]
  unfold rfL
  clear hR
  generalize lineS s = L at hq hc hlo hll ⊢
  generalize restS s = T at hq hc hro hrl ⊢
  repeat (first | refine JL.q (by first | (apply OQ.callx (vs := [s.v]); exact goes_fcut; exact rfl; exact hq) | (apply OQ.extract; exact rfl; exact rfl) | (apply OQ.not; exact rfl) | (apply OQ.move; exact rfl) | (apply OQ.assign; exact rfl)) rfl ?_ | refine JC.seq ?_ | refine JC.region ?_ | refine JL.nil ?_ | refine JE.next ?_)
  refine JC.cond rfl (fun h => by cases h) (fun _ => ?_)
  clear hq
  have cK := fun w' => cutw_any L.l 58 w' (by omega)
  unfold cutV at cK
  by_cases h58 : fi 58 L.l < L.l.length
  case neg =>
    simp only [h58, if_false] at cK
    have h1 : fi 58 L.l = L.l.length := by
      have := fi_le 58 L.l
      omega
    rw [if_pos (Or.inl h1)]
    repeat (first | refine JL.q (by first | (apply OQ.b2s (s := L); exact Tryz.underlying22; exact Tryz.underlying5; exact Tryz.underlying9; exact rfl; exact (fun w' hw' => (hlo w hs).holds hw' rfl)) | (apply OQ.callx (vs := [Z L.l, Z [58]]); exact goes_cutw; exact rfl; exact (fun w' _ => cK w')) | (apply OQ.extract; exact rfl; exact rfl) | (apply OQ.not; exact rfl) | (apply OQ.pick_t; exact rfl; exact rfl) | (apply OQ.move; exact rfl) | (apply OQ.assign; exact rfl)) rfl ?_ | refine JC.seq ?_ | refine JC.region ?_ | refine JC.skip ?_ | refine JL.nil ?_ | refine JE.next ?_ | refine JL.gskip rfl rfl rfl rfl ?_)
    refine JC.cond rfl (fun _ => ?_) (fun h => by cases h)
    repeat (first | refine JL.q (by (apply OQ.buildF0)) rfl ?_ | refine JC.seq ?_ | refine JC.region ?_)
    refine JL.store_all (cs := pc ([], [])) fieldS rfl rfl rfl rfl .here rfl ?_
    repeat (first | refine JL.q (by (apply OQ.assign; exact rfl)) rfl ?_ | refine JL.nil ?_ | refine JE.next ?_)
    refine JC.ret ?_
    repeat (refine JE.then_ret ?_)
    exact JE.ret3 rfl (RV.cell_agg fieldA fieldS rfl .here rfl Row.all) (RV.tmp rfl) (RV.tmp rfl) fun w' hw => ⟨⟨nilS, fun w1 _ => nilS_ok w1, fun p hp => by cases hp⟩, rfl, hw.chg⟩
  simp only [h58, if_true] at cK
  have hne : ¬ fi 58 L.l = L.l.length := fun e => by omega
  have hnl : (L.l.take (fi 58 L.l)).length < 9223372036854775808 := by rw [List.length_take]; omega
  have hfl : (L.l.drop (fi 58 L.l + 1)).length ≤ L.l.length := by rw [List.length_drop]; omega
  generalize L.l.drop (fi 58 L.l + 1) = F at cK hfl ⊢
  generalize L.l.take (fi 58 L.l) = nm at cK hnl ⊢
  have cN := fun w' => fname_any nm w' hnl
  cases h2 : nameB nm
  case false =>
    rw [if_pos (Or.inr (by decide))]
    repeat (first | refine JL.q (by first | (apply OQ.b2s (s := L); exact Tryz.underlying22; exact Tryz.underlying5; exact Tryz.underlying9; exact rfl; exact (fun w' hw' => (hlo w hs).holds hw' rfl)) | (apply OQ.callx (vs := [Z L.l, Z [58]]); exact goes_cutw; exact rfl; exact (fun w' _ => cK w')) | (apply OQ.extract; exact rfl; exact rfl) | (apply OQ.callb (vs := [Z nm]); exact goes_fname; exact rfl; exact cN; exact h2) | (apply OQ.not; exact rfl) | (apply OQ.pick_f; exact rfl; exact rfl) | (apply OQ.move; exact rfl) | (apply OQ.assign; exact rfl)) rfl ?_ | refine JC.seq ?_ | refine JC.region ?_ | refine JC.skip ?_ | refine JL.nil ?_ | refine JE.next ?_ | refine JL.gon rfl rfl ?_)
    refine JC.cond rfl (fun _ => ?_) (fun h => by cases h)
    repeat (first | refine JL.q (by (apply OQ.buildF0)) rfl ?_ | refine JC.seq ?_ | refine JC.region ?_)
    refine JL.store_all (cs := pc ([], [])) fieldS rfl rfl rfl rfl .here rfl ?_
    repeat (first | refine JL.q (by (apply OQ.assign; exact rfl)) rfl ?_ | refine JL.nil ?_ | refine JE.next ?_)
    refine JC.ret ?_
    repeat (refine JE.then_ret ?_)
    exact JE.ret3 rfl (RV.cell_agg fieldA fieldS rfl .here rfl Row.all) (RV.tmp rfl) (RV.tmp rfl) fun w' hw => ⟨⟨nilS, fun w1 _ => nilS_ok w1, fun p hp => by cases hp⟩, rfl, hw.chg⟩
  rw [if_neg (by rintro (h | h); exact hne h; exact h rfl)]
  repeat (first | refine JL.q (by first | (apply OQ.b2s (s := L); exact Tryz.underlying22; exact Tryz.underlying5; exact Tryz.underlying9; exact rfl; exact (fun w' hw' => (hlo w hs).holds hw' rfl)) | (apply OQ.callx (vs := [Z L.l, Z [58]]); exact goes_cutw; exact rfl; exact (fun w' _ => cK w')) | (apply OQ.extract; exact rfl; exact rfl) | (apply OQ.callb (vs := [Z nm]); exact goes_fname; exact rfl; exact cN; exact h2) | (apply OQ.not; exact rfl) | (apply OQ.pick_f; exact rfl; exact rfl) | (apply OQ.move; exact rfl) | (apply OQ.assign; exact rfl)) rfl ?_ | refine JC.seq ?_ | refine JC.region ?_ | refine JC.skip ?_ | refine JL.nil ?_ | refine JE.next ?_ | refine JL.gon rfl rfl ?_)
  refine JC.cond rfl (fun h => by cases h) (fun _ => ?_)
  clear cK cN
  cases h3 : decide ((k : Int) = 200)
  case true =>
    rw [if_pos (by have := of_decide_eq_true h3; omega)]
    repeat (first | refine JL.q (by first | (apply OQ.eqB (b := 200); exact rfl; exact rfl; exact h3) | (apply OQ.move; exact rfl)) rfl ?_ | refine JC.seq ?_ | refine JC.region ?_ | refine JC.skip ?_ | refine JL.nil ?_ | refine JE.next ?_)
    refine JC.cond rfl (fun _ => ?_) (fun h => by cases h)
    repeat (first | refine JL.q (by (apply OQ.buildF0)) rfl ?_ | refine JC.seq ?_ | refine JC.region ?_)
    refine JL.store_all (cs := pc ([], [])) fieldS rfl rfl rfl rfl .here rfl ?_
    repeat (first | refine JL.q (by (apply OQ.assign; exact rfl)) rfl ?_ | refine JL.nil ?_ | refine JE.next ?_)
    refine JC.ret ?_
    repeat (refine JE.then_ret ?_)
    exact JE.ret3 rfl (RV.cell_agg fieldA fieldS rfl .here rfl Row.all) (RV.tmp rfl) (RV.tmp rfl) fun w' hw => ⟨⟨nilS, fun w1 _ => nilS_ok w1, fun p hp => by cases hp⟩, rfl, hw.chg⟩
  rw [if_neg (by have := of_decide_eq_false h3; omega)]
  repeat (first | refine JL.q (by first | (apply OQ.eqB (b := 200); exact rfl; exact rfl; exact h3) | (apply OQ.move; exact rfl)) rfl ?_ | refine JC.seq ?_ | refine JC.region ?_ | refine JC.skip ?_ | refine JL.nil ?_ | refine JE.next ?_)
  refine JC.cond rfl (fun h => by cases h) (fun _ => ?_)
  repeat (first | refine JL.q (by (apply OQ.move; exact rfl)) rfl ?_ | refine JC.seq ?_ | refine JC.region ?_ | refine JC.skip ?_ | refine JE.next ?_)
  refine JL.call (ι := { y : Sl8 // (∀ w1, T.ok w1 → y.ok w1) ∧ ∀ p, conts T.l = some p → y.l = p.2 }) (vs := [T.v]) (fun y => goV (conts T.l) y.1) (fun _ => [⟨b4, Row 51 [Z [], Z []], true⟩]) goes_fgo rfl rfl (fun w' hw' => (fgo_any T w' ((hro w hs).holds hw' rfl) (by omega)).mono fun e w2 ⟨y, k1, k2⟩ => ⟨y, k1, hw'.ext k2⟩) ?_
  rintro ⟨y, hy1, hy2⟩
  dsimp only
  have hcl := conts_len T.l.length T.l (Nat.le_refl _)
  cases hv : conts T.l with
  | none =>
    dsimp only [goV]
    repeat (first | refine JL.q (by first | (apply OQ.extract; exact rfl; exact rfl) | (apply OQ.not; exact rfl) | (apply OQ.move; exact rfl) | (apply OQ.assign; exact rfl)) rfl ?_ | refine JC.seq ?_ | refine JC.region ?_ | refine JL.nil ?_ | refine JE.next ?_)
    refine JC.cond rfl (fun _ => ?_) (fun h => by cases h)
    repeat (first | refine JL.q (by (apply OQ.buildF0)) rfl ?_ | refine JC.seq ?_ | refine JC.region ?_)
    refine JL.store_all (cs := pc ([], [])) fieldS rfl rfl rfl rfl .here rfl ?_
    repeat (first | refine JL.q (by (apply OQ.assign; exact rfl)) rfl ?_ | refine JL.nil ?_ | refine JE.next ?_)
    refine JC.ret ?_
    repeat (refine JE.then_ret ?_)
    exact JE.ret3 rfl (RV.cell_agg fieldA fieldS rfl .here rfl Row.all) (RV.tmp rfl) (RV.tmp rfl) fun w' hw => ⟨⟨nilS, fun w1 _ => nilS_ok w1, fun p hp => by cases hp⟩, rfl, hw.chg⟩
  | some vr =>
    obtain ⟨vs, r'⟩ := vr
    have hyl := hy2 _ hv
    have hcl2 := (hcl _ hv).2
    dsimp only [goV] at hyl hcl2 ⊢
    have hvl : F.length + vs.length < 9223372036854775808 := by omega
    have cT := fun w' => trimw_any (F ++ vs) w' (by rw [List.length_append]; exact hvl)
    have cV := fun w' => fvalue_any (trim (F ++ vs)) w'
    have hvt := valB_trim (F ++ vs)
    generalize trim (F ++ vs) = V at cT cV hvt ⊢
    repeat (first | refine JL.q (by first | (apply OQ.extract; exact rfl; exact rfl) | (apply OQ.not; exact rfl) | (apply OQ.move; exact rfl) | (apply OQ.assign; exact rfl)) rfl ?_ | refine JC.seq ?_ | refine JC.region ?_ | refine JL.nil ?_ | refine JE.next ?_)
    refine JC.cond rfl (fun h => by cases h) (fun _ => ?_)
    repeat (first | refine JL.q (by first | (apply OQ.addS; exact rfl; exact rfl; exact hvl) | (apply OQ.callx (vs := [Z (F ++ vs), Z [32, 9]]); exact goes_trimw; exact rfl; exact (fun w' _ => cT w')) | (apply OQ.move; exact rfl) | (apply OQ.assign; exact rfl)) rfl ?_ | refine JC.seq ?_ | refine JC.region ?_ | refine JC.skip ?_ | refine JL.nil ?_ | refine JE.next ?_)
    cases h4 : decide ((8192 : Int) < (V.length : Int))
    case true =>
      rw [if_pos (by have := of_decide_eq_true h4; omega)]
      repeat (first | refine JL.q (by first | (apply OQ.lenS; exact Tryz.underlying9; exact rfl) | (apply OQ.gtrB (b := 8192); exact rfl; exact rfl; exact h4)) rfl ?_ | refine JL.nil ?_ | refine JE.next ?_)
      refine JC.cond rfl (fun _ => ?_) (fun h => by cases h)
      repeat (first | refine JL.q (by (apply OQ.buildF0)) rfl ?_ | refine JC.seq ?_ | refine JC.region ?_)
      refine JL.store_all (cs := pc ([], [])) fieldS rfl rfl rfl rfl .here rfl ?_
      repeat (first | refine JL.q (by (apply OQ.assign; exact rfl)) rfl ?_ | refine JL.nil ?_ | refine JE.next ?_)
      refine JC.ret ?_
      repeat (refine JE.then_ret ?_)
      exact JE.ret3 rfl (RV.cell_agg fieldA fieldS rfl .here rfl Row.all) (RV.tmp rfl) (RV.tmp rfl) fun w' hw => ⟨⟨nilS, fun w1 _ => nilS_ok w1, fun p hp => by cases hp⟩, rfl, hw.chg⟩
    rw [if_neg (by have := of_decide_eq_false h4; omega)]
    repeat (first | refine JL.q (by first | (apply OQ.lenS; exact Tryz.underlying9; exact rfl) | (apply OQ.gtrB (b := 8192); exact rfl; exact rfl; exact h4)) rfl ?_ | refine JL.nil ?_ | refine JE.next ?_)
    refine JC.cond rfl (fun h => by cases h) (fun _ => ?_)
    rw [hvt (by have := of_decide_eq_false h4; omega)] at cV
    cases h5 : V.all sok
    case false =>
      rw [if_pos (by decide)]
      repeat (first | refine JL.q (by first | (apply OQ.callb (vs := [Z V]); exact goes_fvalueA; exact rfl; exact cV; exact h5) | (apply OQ.not; exact rfl) | (apply OQ.move; exact rfl)) rfl ?_ | refine JC.seq ?_ | refine JC.region ?_ | refine JC.skip ?_ | refine JL.nil ?_ | refine JE.next ?_)
      refine JC.cond rfl (fun _ => ?_) (fun h => by cases h)
      repeat (first | refine JL.q (by (apply OQ.buildF0)) rfl ?_ | refine JC.seq ?_ | refine JC.region ?_)
      refine JL.store_all (cs := pc ([], [])) fieldS rfl rfl rfl rfl .here rfl ?_
      repeat (first | refine JL.q (by (apply OQ.assign; exact rfl)) rfl ?_ | refine JL.nil ?_ | refine JE.next ?_)
      refine JC.ret ?_
      repeat (refine JE.then_ret ?_)
      exact JE.ret3 rfl (RV.cell_agg fieldA fieldS rfl .here rfl Row.all) (RV.tmp rfl) (RV.tmp rfl) fun w' hw => ⟨⟨nilS, fun w1 _ => nilS_ok w1, fun p hp => by cases hp⟩, rfl, hw.chg⟩
    rw [if_neg (by decide)]
    repeat (first | refine JL.q (by first | (apply OQ.callb (vs := [Z V]); exact goes_fvalueA; exact rfl; exact cV; exact h5) | (apply OQ.not; exact rfl) | (apply OQ.move; exact rfl)) rfl ?_ | refine JC.seq ?_ | refine JC.region ?_ | refine JC.skip ?_ | refine JL.nil ?_ | refine JE.next ?_)
    refine JC.cond rfl (fun h => by cases h) (fun _ => ?_)
    repeat (first | refine JL.q (by first | (apply OQ.buildF; exact rfl; exact rfl) | (apply OQ.move; exact rfl)) rfl ?_ | refine JC.seq ?_ | refine JC.region ?_ | refine JC.skip ?_ | refine JE.next ?_)
    refine JL.store_all (cs := pc (nm, V)) fieldS rfl rfl rfl rfl .here rfl ?_
    repeat (first | refine JL.q (by (apply OQ.assign; exact rfl)) rfl ?_ | refine JL.nil ?_ | refine JE.next ?_)
    refine JC.ret ?_
    skip
    exact JE.ret3 rfl (RV.cell_agg fieldA fieldS rfl .here rfl Row.all) (RV.tmp rfl) (RV.tmp rfl) fun w' hw => ⟨⟨y, fun w1 h1 => hy1 w1 (hro w1 h1), fun p hp => by cases hp; exact hyl⟩, rfl, hw.chg⟩
theorem OQ.lenQ {P : Program} {n : Nat} {E : Env} {C : World → Prop} {dst : Option Tmp} {t ty e : TypeId} {pos : String} {aft : Array Edge} {g : Option (Nat × Bool)} {x : Operand} {q : Acc} {k : Nat} (hu : P.underlying t = some (.slice e)) (hq : q = none → k = 0) (hx : ev E x = some (accV q k)) : OQ P n E C ⟨dst, .call ⟨.builtin .len, #[x], #[t]⟩, ty, pos, aft, g⟩ (N k) := by
  cases q with
  | none =>
    rw [hq rfl]
    rw [hq rfl] at hx
    exact OQ.len hu hx
  | some p => exact OQ.len hu hx
theorem less_nilr {A B : List Ent} (h : Less A B) : Less A (B ++ []) := by rw [List.append_nil]; exact h
structure RS where
  x : Sl8
  fs : List Pr
  q : Acc
set_option maxHeartbeats 32000000 in
theorem freadN_any (s : Sl8) (w : World) (hs : s.ok w) (hl : s.l.length ≤ 70000) : Calls Tryz.prog 95 [s.v].toArray w fun e w' =>
    ∃ q : L9 (readB s.l), e = .returned (.tuple #[q.f.v, q.s.v, N (codeR (readB s.l))]) ∧ Holds w [] (q.s.ents ++ q.f.ents) w' := by
  refine enter (n := 43) Tryz.func95 rfl rfl rfl (Holds.start w []) ?_
  have cL := fun w' (hw' : Holds w [] [] w') => flong_any s w' (hs.holds hw' rfl) (by omega)
  have hlong := long_is s.l
  cases hB : longB s.l
  case true =>
    have hR : readB s.l = .error 4 := by unfold readB; rw [if_pos (hlong.2 hB)]
    rw [hR]
    rw [hB] at cL
    repeat (first | refine JL.q (by first | (apply OQ.callx (vs := [s.v]); exact goes_flong; exact rfl; exact cL) | (apply OQ.move; exact rfl) | (apply OQ.assign; exact rfl)) rfl ?_ | refine JC.seq ?_ | refine JC.region ?_ | refine JL.nil ?_ | refine JE.next ?_)
    refine JC.cond rfl (fun _ => ?_) (fun h => by cases h)
    repeat (first | refine JL.q (by (apply OQ.assign; exact rfl)) rfl ?_ | refine JC.seq ?_ | refine JC.region ?_ | refine JL.nil ?_ | refine JE.next ?_)
    refine JC.ret ?_
    repeat (refine JE.then_ret ?_)
    exact JE.ret3 rfl (RV.tmp rfl) (RV.tmp rfl) (RV.tmp rfl) fun w' hw => ⟨⟨nil2, nilS, rfl, rfl, fun _ => rfl, fun _ => rfl⟩, rfl, Sl.Holds.weak hw (.nil _)⟩
  have hR : readB s.l = rd 0 s.l := by unfold readB; rw [if_neg (fun h => by rw [hlong.1 h] at hB; cases hB)]
  rw [hR]
  rw [hB] at cL
  repeat (first | refine JL.q (by first | (apply OQ.callx (vs := [s.v]); exact goes_flong; exact rfl; exact cL) | (apply OQ.move; exact rfl) | (apply OQ.assign; exact rfl)) rfl ?_ | refine JC.seq ?_ | refine JC.region ?_ | refine JL.nil ?_ | refine JE.next ?_)
  refine JC.cond rfl (fun h => by cases h) (fun _ => ?_)
  clear cL hlong hB hR
  repeat (first | refine JC.block ?_ | refine JC.skip ?_ | refine JE.next ?_)
  refine JC.loop (fun g : RS => [(0, g.x.v), (2, accV g.q g.fs.length)]) (fun g => accP 51 g.q g.fs ++ []) (fun g => g.x.l.length) (fun g => g.x.ok w ∧ g.x.l.length ≤ 70000 ∧ g.fs.length ≤ 200 ∧ (g.q = none → g.fs = []) ∧ rd 0 s.l = (rd g.fs.length g.x.l).map fun p => (g.fs ++ p.1, p.2)) ⟨s, [], none⟩ ⟨hs, hl, Nat.zero_le _, fun _ => rfl, by show rd 0 s.l = (rd 0 s.l).map _; cases rd 0 s.l <;> rfl⟩ (by repeat (first | exact SubE.nil | refine SubE.cons _ _ _ rfl ?_)) (Less.refl _) ?_
  rintro ⟨x, fs, q⟩ ⟨hx, hxl, hfl, hq0, hrd⟩
  dsimp only at hx hxl hfl hq0 hrd ⊢
  have hq00 : q = none → fs.length = 0 := fun h => by rw [hq0 h]; rfl
  refine JC.block ?_
  refine JC.mid2 (ι := Unit) (fun _ => [(0, x.v), (2, accV q fs.length)]) (fun _ => accP 51 q fs ++ []) (fun _ => ∀ r, cut x.l ≠ some ([], r)) ?_ ?_
  · have hq := fun w' (hw' : Holds w [] (accP 51 q fs ++ []) w') => fcut_any x w' (hx.holds hw' rfl) (by omega)
    unfold cutLV at hq
    by_cases h : fi 10 x.l < x.l.length
    · simp only [h, if_true] at hq
      have hc := cutS_some h
      have hro := restS_ok hx h
      have hrl := restS_len x
      generalize lineS x = L at hq hc
      generalize restS x = T at hq hc hro hrl
      cases h0 : decide ((L.l.length : Int) = 0)
      · repeat (first | refine JL.q (by first | (apply OQ.callx (vs := [x.v]); exact goes_fcut; exact rfl; exact hq) | (apply OQ.extract; exact rfl; exact rfl) | (apply OQ.eqB (b := 0); exact rfl; exact rfl; exact h0) | (apply OQ.pick_t; exact rfl; exact rfl) | (apply OQ.move; exact rfl) | (apply OQ.assign; exact rfl) | (apply OQ.len; exact rfl; exact rfl)) rfl ?_ | refine JC.seq ?_ | refine JC.region ?_ | refine JL.nil ?_ | refine JE.next ?_ | refine JL.gon rfl rfl ?_)
        refine JC.cond rfl (fun h => by cases h) (fun _ => ?_)
        repeat (refine JC.skip ?_)
        refine JE.mid () (fun r hr => ?_) (by repeat (first | exact SubE.nil | refine SubE.cons _ _ _ rfl ?_)) (Less.refl _)
        rw [hc] at hr
        have h1 : L.l = [] := (Prod.mk.inj (Option.some.inj hr)).1
        exact of_decide_eq_false h0 (by rw [h1]; rfl)
      · have hL0 : L.l = [] := List.eq_nil_of_length_eq_zero (by have := of_decide_eq_true h0; omega)
        rw [hL0] at hc
        have hfin : rd fs.length x.l = .ok ([], T.l) := rd_end hc
        rw [hfin] at hrd
        repeat (first | refine JL.q (by first | (apply OQ.callx (vs := [x.v]); exact goes_fcut; exact rfl; exact hq) | (apply OQ.extract; exact rfl; exact rfl) | (apply OQ.eqB (b := 0); exact rfl; exact rfl; exact h0) | (apply OQ.pick_t; exact rfl; exact rfl) | (apply OQ.move; exact rfl) | (apply OQ.assign; exact rfl) | (apply OQ.len; exact rfl; exact rfl)) rfl ?_ | refine JC.seq ?_ | refine JC.region ?_ | refine JL.nil ?_ | refine JE.next ?_ | refine JL.gon rfl rfl ?_)
        refine JC.cond rfl (fun _ => ?_) (fun h => by cases h)
        repeat (first | refine JL.q (by (apply OQ.move; exact rfl)) rfl ?_ | refine JC.seq ?_ | refine JC.region ?_)
        refine JL.callg (ι := { q : Acc // q = none → T.l = [] }) (fun q => accV q.1 T.l.length) (fun q => accE 5 q.1 (T.l.map U8)) goes_clone rfl rfl (fun q => accE_wr _ _ _) (fun w' hw' => (clone_any T w' (hro.holds hw' rfl) (by omega)).mono fun e w2 ⟨q, h1, h2, h3⟩ => ⟨⟨q, h2⟩, h1, h3⟩) ?_
        rintro ⟨q2, hq2⟩
        dsimp only
        repeat (first | refine JL.q (by (apply OQ.assign; exact rfl)) rfl ?_ | refine JL.nil ?_ | refine JE.next ?_)
        refine JC.ret ?_
        repeat (first | refine JE.then_ret ?_ | refine JE.blk_ret ?_)
        refine JE.ret3 rfl (RV.tmp rfl) (RV.tmp rfl) (RV.tmp rfl) fun w' hw => ⟨⟨accLp q fs, accS q2 T.l, ?_, ?_, accLpnone9, accSnone9⟩, ?_, ?_⟩
        · rw [hrd]
          show (accLp q fs).l = fs ++ []
          rw [accLp_l hq0, List.append_nil]
        · rw [hrd]
          exact accS_l hq2
        · show Ending.returned (.tuple #[accV q fs.length, accV q2 T.l.length, N 0]) = Ending.returned (.tuple #[(accLp q fs).v, (accS q2 T.l).v, N (codeR (rd 0 s.l))])
          rw [hrd, accLp_v, accS_v]
          rfl
        · exact Sl.Holds.weak hw (less_two accSents9 (less_nilr accLpents9))
    · simp only [h, if_false] at hq
      have hc := cutS_none h
      repeat (first | refine JL.q (by first | (apply OQ.callx (vs := [x.v]); exact goes_fcut; exact rfl; exact hq) | (apply OQ.extract; exact rfl; exact rfl) | (apply OQ.pick_f; exact rfl; exact rfl) | (apply OQ.move; exact rfl) | (apply OQ.assign; exact rfl)) rfl ?_ | refine JC.seq ?_ | refine JC.region ?_ | refine JL.nil ?_ | refine JE.next ?_ | refine JL.gskip rfl rfl rfl rfl ?_)
      refine JC.cond rfl (fun h => by cases h) (fun _ => ?_)
      repeat (refine JC.skip ?_)
      refine JE.mid () (fun r hr => ?_) (by repeat (first | exact SubE.nil | refine SubE.cons _ _ _ rfl ?_)) (Less.refl _)
      rw [hc] at hr
      cases hr
  · rintro ⟨⟩ hns
    rw [rd_step hns] at hrd
    repeat (first | refine JL.q (by first | (apply OQ.lenQ; exact Tryz.underlying39; exact hq00; exact rfl) | (apply OQ.move; exact rfl)) rfl ?_ | refine JC.seq ?_ | refine JC.region ?_)
    refine JL.call (ι := { y : Sl8 // (∀ w1, x.ok w1 → y.ok w1) ∧ ∀ p, rf fs.length x.l = .ok p → y.l = p.2 }) (vs := [x.v, N fs.length]) (fun y => rfV (rf fs.length x.l) y.1) (fun _ => accP 51 q fs ++ []) goes_frf rfl rfl (fun w' hw' => (frf_any x fs.length w' (hx.holds hw' rfl) (by omega)).mono fun e w2 ⟨y, k1, k2⟩ => ⟨y, k1, hw'.ext k2⟩) ?_
    rintro ⟨y, hy1, hy2⟩
    dsimp only
    cases hf : rf fs.length x.l with
    | error e =>
      rw [hf] at hrd
      have he := rf_err hf
      have hne : decide ((e : Int) = 0) = false := decide_eq_false (by omega)
      dsimp only [rfV]
      repeat (refine JL.q (by first | (apply OQ.extract; exact rfl; exact rfl) | (apply OQ.move; exact rfl)) rfl ?_)
      refine JL.alloc fieldZ rfl fun b8 _ => ?_
      refine JL.store_all (cs := pc ([], [])) fieldS rfl rfl rfl rfl .here rfl ?_
      repeat (first | refine JL.q (by first | (apply OQ.neB (b := 0); exact rfl; exact rfl; exact hne) | (apply OQ.move; exact rfl) | (apply OQ.assign; exact rfl)) rfl ?_ | refine JC.seq ?_ | refine JC.region ?_ | refine JL.nil ?_ | refine JE.next ?_)
      refine JC.cond rfl (fun _ => ?_) (fun h => by cases h)
      repeat (first | refine JL.q (by first | (apply OQ.move; exact rfl) | (apply OQ.assign; exact rfl)) rfl ?_ | refine JC.seq ?_ | refine JC.region ?_ | refine JL.nil ?_ | refine JE.next ?_)
      refine JC.ret ?_
      repeat (first | refine JE.then_ret ?_ | refine JE.blk_ret ?_)
      refine JE.ret3 rfl (RV.tmp rfl) (RV.tmp rfl) (RV.tmp rfl) fun w' hw => ⟨⟨nil2, nilS, by rw [hrd]; rfl, by rw [hrd]; rfl, fun _ => rfl, fun _ => rfl⟩, ?_, Sl.Holds.weak hw (.nil _)⟩
      show Ending.returned (.tuple #[nil2.v, nilS.v, N e]) = Ending.returned (.tuple #[nil2.v, nilS.v, N (codeR (rd 0 s.l))])
      rw [hrd]
      rfl
    | ok pr =>
      obtain ⟨p, r'⟩ := pr
      rw [hf] at hrd
      obtain ⟨hlt, hk⟩ := rf_ok hf
      have hyl := hy2 _ hf
      dsimp only [rfV] at hyl hlt hrd ⊢
      repeat (refine JL.q (by first | (apply OQ.extract; exact rfl; exact rfl) | (apply OQ.move; exact rfl)) rfl ?_)
      refine JL.alloc fieldZ rfl fun b8 _ => ?_
      refine JL.store_all (cs := pc p) fieldS rfl rfl rfl rfl .here rfl ?_
      repeat (first | refine JL.q (by first | (apply OQ.neB (a := 0) (b := 0); exact rfl; exact rfl; exact rfl) | (apply OQ.move; exact rfl) | (apply OQ.assign; exact rfl)) rfl ?_ | refine JC.seq ?_ | refine JC.region ?_ | refine JL.nil ?_ | refine JE.next ?_)
      refine JC.cond rfl (fun h => by cases h) (fun _ => ?_)
      repeat (first | refine JL.q (by first | (apply OQ.load_agg (cs := pc p); exact fieldA; exact fieldS; exact rfl; exact .here; exact rfl; exact Row.all) | (apply OQ.move; exact rfl)) rfl ?_ | refine JC.seq ?_ | refine JC.region ?_ | refine JC.skip ?_ | refine JE.next ?_)
      refine JL.litA (cs := pc p) Tryz.underlying39 fieldI rfl (by decide) (by decide) rfl rfl rfl fun bl _ => ?_
      refine JL.appendP (p := p) (L := fs) (M0 := []) q Tryz.underlying39 fieldI hq0 rfl rfl rfl (by omega) (by omega) rfl fun b' cap' => ?_
      repeat (first | refine JL.q (by first | (apply OQ.move; exact rfl) | (apply OQ.assign; exact rfl)) rfl ?_ | refine JC.region ?_ | refine JL.nil ?_ | refine JE.next ?_ | refine JE.blk_normal ?_)
      have eN : (fs ++ [p]).length = fs.length + 1 := List.length_append
      have hyn : y.l.length = r'.length := by rw [hyl]
      refine JE.again (i := RS.mk x fs q) (RS.mk y (fs ++ [p]) (some (b', cap'))) ⟨hy1 w hx, ?_, ?_, (fun h => by cases h), ?_⟩ ?_ (by repeat (first | exact SubE.nil | refine SubE.cons _ _ _ rfl ?_)) (Less.refl _)
      · dsimp only
        omega
      · dsimp only
        omega
      · dsimp only
        rw [hrd, eN, hyl]
        cases rd (fs.length + 1) r' with
        | error e => rfl
        | ok z =>
          show Except.ok (fs ++ p :: z.1, z.2) = Except.ok (fs ++ [p] ++ z.1, z.2)
          rw [List.append_assoc]
          rfl
      · dsimp only
        omega
end Go.Proofs.YtbbmhkdfdgnkpaaGreatDoor

/-
  Of no statement by itself: what the landed letter's Read gives.
  Conditions: the theorem's own.
-/
namespace Go.Proofs.YtbbmhkdfdgnkpaaGreatDoor
set_option maxRecDepth 10000
open Sl Fld
theorem goes_lfread : Goes Tryz.prog 95 := ⟨_, Tryz.func95, rfl, by kernel_rfl⟩
theorem letAR : aggT Tryz.prog 41 = true := by kernel_rfl
theorem letSR : szT Tryz.prog 41 = some 2 := by kernel_rfl
theorem letZR : zc Tryz.prog 41 = some [.slice none 0 0, .slice none 0 0] := by kernel_rfl
theorem OQ.build_MR {n : Nat} {E : Env} {C : World → Prop} {dst : Option Tmp} {ty : TypeId} {pos : String} {aft : Array Edge} {g : Option (Nat × Bool)} {x y : Operand} {f : Sl2} {s : Sl8} (hx : ev E x = some f.v) (hy : ev E y = some s.v) : OQ Tryz.prog n E C ⟨dst, .build 41 #[(0, x), (1, y)], ty, pos, aft, g⟩ (.agg ([f.v, s.v] : List Value).toArray) := by
  refine OQ.run fun k hk w _ => ?_
  have h1 := hk.eval hx
  have h2 := hk.eval hy
  have h3 := run_build (P := Tryz.prog) w 41 #[(0, f.v), (1, s.v)] #[f.v, s.v] (by unfold Sl2.v Sl8.v; kernel_rfl)
  simp [execOp, h1, h2, Sem.run_bind, h3]
/-- layer 11's Read -/
def readL11 (m : List Fld.By) : Except Nat (List Pr × List Fld.By) := if 2097152 < m.length then .error 4 else readB m
set_option maxHeartbeats 8000000 in
theorem lread_any (s : Sl8) (w : World) (hs : s.ok w) (hl : s.l.length ≤ 70000) : Calls Tryz.prog 66 [s.v].toArray w fun e w' =>
    ∃ q : L9 (readL11 s.l), e = .returned (.tuple #[.agg #[q.f.v, q.s.v], N (codeR (readL11 s.l))]) ∧ Holds w [] (q.s.ents ++ q.f.ents) w' := by
  refine enter (n := 21) Tryz.func66 rfl rfl rfl (Holds.start w []) ?_
  repeat (first | refine JC.seq ?_ | refine JC.region ?_)
  refine JL.alloc letZR rfl fun b2 _ => ?_
  repeat (first | refine JL.q (by first | (apply OQ.move; exact rfl) | (apply OQ.assign; exact rfl) | (apply OQ.len; exact rfl; exact rfl)) rfl ?_ | refine JC.seq ?_ | refine JC.region ?_ | refine JL.nil ?_ | refine JE.next ?_)
  have h1 : decide ((2097152 : Int) < (s.l.length : Int)) = false := decide_eq_false (by omega)
  have hR : readL11 s.l = readB s.l := if_neg (by omega)
  rw [hR]
  repeat (first | refine JL.q (by (apply OQ.gtrB (b := 2097152); exact rfl; exact rfl; exact h1)) rfl ?_ | refine JL.nil ?_ | refine JE.next ?_)
  refine JC.cond_false rfl rfl ?_
  repeat (first | refine JL.q (by (apply OQ.move; exact rfl)) rfl ?_ | refine JC.seq ?_ | refine JC.region ?_ | refine JC.skip ?_ | refine JE.next ?_)
  refine JL.callg (ι := L9 (readB s.l)) (vs := [s.v]) (fun q => .tuple #[q.f.v, q.s.v, N (codeR (readB s.l))]) (fun q => q.s.ents ++ q.f.ents) goes_lfread rfl rfl (fun q => q.wr) (fun w' hw' => freadN_any s w' (hs.holds hw' rfl) hl) ?_
  intro q
  repeat (first | refine JL.q (by first | (apply OQ.extract; exact rfl; exact rfl) | (apply OQ.move; exact rfl) | (apply OQ.assign; exact rfl)) rfl ?_ | refine JC.seq ?_ | refine JC.region ?_ | refine JL.nil ?_ | refine JE.next ?_)
  repeat (refine JL.q (by first | (apply OQ.build_MR; exact rfl; exact rfl) | (apply OQ.move; exact rfl)) rfl ?_)
  refine JL.perm (M' := [⟨b2, Row 41 [.slice none 0 0, .slice none 0 0], true⟩] ++ (q.s.ents ++ q.f.ents)) ?_ List.perm_append_comm
  refine JL.store_all (cs := [q.f.v, q.s.v]) letSR rfl rfl rfl rfl .here rfl ?_
  repeat (first | refine JL.q (by (apply OQ.assign; exact rfl)) rfl ?_ | refine JL.nil ?_ | refine JE.next ?_)
  refine JC.ret ?_
  exact JE.ret2 rfl (RV.cell_agg letAR letSR rfl .here rfl Row.all) (RV.tmp rfl) fun w' hw => ⟨⟨q.f, q.s, q.hf, q.hs, q.nf, q.ns⟩, rfl, hw.weak (.drop _ _ _ (Less.refl _))⟩
end Go.Proofs.YtbbmhkdfdgnkpaaGreatDoor

/-
  Of no statement by itself: the first of a list's pairs for which something holds, and a list without those for which it does, pair by pair; no program.
  Conditions: none.
-/
namespace Go.Proofs.YtbbmhkdfdgnkpaaGreatDoor
open Sl
namespace Fld
def ixP (p : Pr → Bool) (l : List Pr) : Nat := (l.takeWhile fun c => !p c).length
def ixV (p : Pr → Bool) (l : List Pr) : Int := if ixP p l < l.length then (ixP p l : Int) else -1
theorem ixP_cons (p : Pr → Bool) (c : Pr) (l : List Pr) : ixP p (c :: l) = if p c then 0 else ixP p l + 1 := by
  unfold ixP
  rw [List.takeWhile_cons]
  cases p c <;> simp
theorem ixP_no {p : Pr → Bool} {c : Pr} (h : p c = false) (l : List Pr) : ixP p (c :: l) = ixP p l + 1 := by rw [ixP_cons, h]; rfl
theorem ixP_hit {p : Pr → Bool} {c : Pr} (h : p c = true) (l : List Pr) : ixP p (c :: l) = 0 := by rw [ixP_cons, h]; rfl
theorem ixP_nil (p : Pr → Bool) : ixP p [] = 0 := rfl
theorem ixV_yes {p : Pr → Bool} {l : List Pr} (h : ixP p l < l.length) : ixV p l = (ixP p l : Int) := if_pos h
theorem ixV_no {p : Pr → Bool} {l : List Pr} (h : ¬ ixP p l < l.length) : ixV p l = -1 := if_neg h
/-! ### a mail's fields -/
theorem head_all (n : List By) (l : List Pr) : (allB n l).headD [] = if ixP (fun c => sameB c.1 n) l < l.length then (l.getD (ixP (fun c => sameB c.1 n) l) ([], [])).2 else [] := by
  induction l with
  | nil => rfl
  | cons c l ih =>
    rw [all_cons]
    cases h : sameB c.1 n
    · rw [if_neg (by decide), ixP_no (p := fun c : Pr => sameB c.1 n) h, ih]
      simp
    · rw [if_pos rfl, ixP_hit (p := fun c : Pr => sameB c.1 n) h]
      simp
theorem none_all (n : List By) (l : List Pr) : (!(allB n l).isEmpty) = decide (ixP (fun c => sameB c.1 n) l < l.length) := by
  induction l with
  | nil => rfl
  | cons c l ih =>
    rw [all_cons]
    cases h : sameB c.1 n
    · rw [if_neg (by decide), ixP_no (p := fun c : Pr => sameB c.1 n) h, ih]
      simp
    · rw [if_pos rfl, ixP_hit (p := fun c : Pr => sameB c.1 n) h]
      simp
end Fld
end Go.Proofs.YtbbmhkdfdgnkpaaGreatDoor

/-
  Of no statement by itself: letter's closure named, and package slices at fields: IndexFunc, Clone, DeleteFunc, Insert (where there is room, or at the end).
  Conditions: each theorem's own.
-/
namespace Go.Proofs.YtbbmhkdfdgnkpaaGreatDoor
set_option maxRecDepth 10000
open Sl Fld
theorem goes_named : Goes Tryz.prog 89 := ⟨_, Tryz.func89, rfl, by kernel_rfl⟩
theorem goes_named1 : Goes Tryz.prog 120 := ⟨_, Tryz.func120, rfl, by kernel_rfl⟩
theorem goes_ixfun : Goes Tryz.prog 88 := ⟨_, Tryz.func88, rfl, by kernel_rfl⟩
/-- a name lies in a block -/
def NameAt (bn : Nat) (nm : List Bt) (w : World) : Prop := ∃ o, w.heap[bn]? = some o ∧ Row 9 [Z nm] o
abbrev namedV (bn : Nat) : Value := .func (.func 120) #[] [Pt bn 0].toArray
def Low (c : Pr) : Prop := c.1.length < 9223372036854775808
set_option maxHeartbeats 4000000 in
theorem named1_any (c : Pr) (bn : Nat) (nm : List Bt) (w : World) (hc : Low c) (hw : NameAt bn nm w) : Calls Tryz.prog 120 [.agg (pc c).toArray, Pt bn 0].toArray w fun e w' => e = .returned (.bool (sameB c.1 nm)) ∧ Ext w w' := by
  obtain ⟨o, ho, hA⟩ := hw
  refine enter (n := 8) Tryz.func120 rfl rfl rfl (Holds.seen (S := []) ho hA) ?_
  have cs := fun w' => fsame_any c.1 nm w' hc
  cases h1 : sameB c.1 nm
  all_goals
    refine JC.seq (JC.region (JL.box (r := pc c) rfl rfl rfl fun b1 _ => ?_))
    repeat (first | refine JL.q (by first | (apply OQ.load; exact strC; exact rfl; exact .here; exact (Row.cell (v := Z c.1) rfl)) | (apply OQ.load; exact strC; exact rfl; exact (.there .here); exact (Row.cell (v := Z nm) rfl)) | (apply OQ.callb (vs := [Z c.1, Z nm]); exact goes_fsame; exact rfl; exact cs; exact h1) | (apply OQ.assign; exact rfl) | (apply OQ.fld; exact rfl; exact rfl; exact rfl; exact (by decide); exact rfl)) rfl ?_ | refine JC.seq ?_ | refine JC.region ?_ | refine JL.nil ?_ | refine JE.next ?_)
    refine JC.ret ?_
    skip
    exact JE.ret1 rfl (RV.tmp rfl) fun w' hw => ⟨rfl, hw.chg⟩
theorem fun_named (bn : Nat) (nm : List Bt) : FunP Tryz.prog (NameAt bn nm) Low (namedV bn) (fun c => sameB c.1 nm) :=
  ⟨120, [Pt bn 0], rfl, goes_named1, fun c w hc hw => named1_any c bn nm w hc hw⟩
theorem named_any (nm : List Bt) (w : World) : Calls Tryz.prog 89 [Z nm].toArray w fun e w' => ∃ bn : Nat, e = .returned (namedV bn) ∧ Holds w [] [⟨bn, Row 9 [Z nm], true⟩] w' := by
  refine enter (n := 4) Tryz.func89 rfl rfl rfl (Holds.start w []) ?_
  refine JC.seq (JC.region (JL.box (r := [Z nm]) rfl rfl rfl fun b1 _ => ?_))
  repeat (first | refine JL.q (by first | (apply OQ.mkF (caps := [Pt b1 0]); exact rfl) | (apply OQ.assign; exact rfl)) rfl ?_ | refine JC.seq ?_ | refine JC.region ?_ | refine JL.nil ?_ | refine JE.next ?_)
  refine JC.ret ?_
  skip
  exact JE.ret1 rfl (RV.tmp rfl) fun w' hw => ⟨b1, rfl, hw⟩
theorem nameAt {w0 w : World} {S : List Nat} {M : List Ent} {bn : Nat} {nm : List Bt} {wr : Bool} (hw : Holds w0 S M w) (hM : Has M bn (Row 9 [Z nm]) wr) : NameAt bn nm w := hw.get hM
theorem NameAt.ext {bn : Nat} {nm : List Bt} {w w' : World} (h : NameAt bn nm w) (hx : Ext w w') : NameAt bn nm w' := by
  obtain ⟨o, ho, hA⟩ := h
  exact ⟨o, (hx.block bn (Array.getElem?_eq_some_iff.1 ho).1 (by simp)).trans ho, hA⟩
set_option maxHeartbeats 8000000 in
theorem ixfun_any {C : World → Prop} {D : Pr → Prop} (s : Sl2) (fv : Value) (p : Pr → Bool) (w : World) (hs : s.ok w) (hF : FunP Tryz.prog C D fv p) (hC : ∀ w', Ext w w' → C w') (hD : ∀ c ∈ s.l, D c) (hl : s.l.length < 9223372036854775807) :
    Calls Tryz.prog 88 [s.v, fv].toArray w fun e w' => e = .returned (.int .i64 (ixV p s.l)) ∧ Ext w w' := by
  refine enter (n := 19) Tryz.func88 rfl rfl rfl (Holds.start w []) ?_
  repeat (first | refine JL.q (by first | (apply OQ.len; exact Tryz.underlying39; exact rfl) | (apply OQ.move; exact rfl) | (apply OQ.assign; exact rfl)) rfl ?_ | refine JC.seq ?_ | refine JC.region ?_ | refine JC.block ?_ | refine JL.nil ?_ | refine JE.next ?_)
  refine JC.loop (fun i : Nat => [(0, s.v), (1, fv), (7, N s.l.length), (8, N i)]) (fun _ => []) (fun i => s.l.length - i) (fun i => i ≤ s.l.length ∧ ixP p s.l = i + ixP p (s.l.drop i)) 0 ⟨Nat.zero_le _, by simp⟩ (by repeat (first | exact SubE.nil | refine SubE.cons _ _ _ rfl ?_)) (Less.refl _) ?_
  rintro i ⟨hi, hp⟩
  repeat (first | refine JL.q (by (apply OQ.lssN; exact rfl; exact rfl)) rfl ?_ | refine JC.seq ?_ | refine JC.region ?_ | refine JL.nil ?_ | refine JE.next ?_)
  refine JC.cond rfl (fun h => ?_) (fun h => ?_)
  · have hi' : i < s.l.length := of_decide_eq_true h
    clear h hi
    obtain ⟨ba, ja, eA, la, ca1, ca2⟩ := hs.at hi'
    have vA : s.v = .slice (some ⟨ba, ja, none⟩) s.l.length s.cap := by rw [← eA]; rfl
    have cA := pair_cells ca1 ca2
    have hDi : D (s.l.getD i ([], [])) := hD _ (mem_getD hi')
    rw [drop_pr hi'] at hp
    generalize s.l.getD i ([], []) = c at hp cA hDi
    rw [vA]
    cases h1 : p c
    · rw [ixP_no h1] at hp
      repeat (first | refine JL.q (by first | (apply OQ.idxS; exact Tryz.underlying39; exact fieldS; exact rfl; exact rfl; exact hi') | (apply OQ.load_agg_old (cs := pc c); exact fieldA; exact rfl; exact fieldS; exact la; exact (by simp); exact cA) | (apply OQ.callP; exact hF; exact hDi; exact (fun w' hw' => hC w' hw'.chg); exact rfl; exact rfl; exact h1) | (apply OQ.move; exact rfl) | (apply OQ.assign; exact rfl)) rfl ?_ | refine JC.seq ?_ | refine JC.region ?_ | refine JC.block ?_ | refine JC.skip ?_ | refine JL.nil ?_ | refine JE.next ?_)
      refine JC.cond rfl (fun h => by cases h) (fun _ => ?_)
      repeat (first | refine JL.q (by first | (apply OQ.move; exact rfl) | (apply OQ.addN; exact rfl; exact rfl; exact (by (try simp only []); omega))) rfl ?_ | refine JC.region ?_ | refine JC.skip ?_ | refine JL.nil ?_ | refine JE.next ?_ | refine JE.blk_normal ?_)
      rw [← vA]
      exact JE.again (i := i) (i + 1) ⟨hi', by omega⟩ (by omega) (by repeat (first | exact SubE.nil | refine SubE.cons _ _ _ rfl ?_)) (Less.refl _)
    · rw [ixP_hit h1, Nat.add_zero] at hp
      have hv : ixV p s.l = (i : Int) := by rw [ixV_yes (by omega), hp]
      rw [hv]
      repeat (first | refine JL.q (by first | (apply OQ.idxS; exact Tryz.underlying39; exact fieldS; exact rfl; exact rfl; exact hi') | (apply OQ.load_agg_old (cs := pc c); exact fieldA; exact rfl; exact fieldS; exact la; exact (by simp); exact cA) | (apply OQ.callP; exact hF; exact hDi; exact (fun w' hw' => hC w' hw'.chg); exact rfl; exact rfl; exact h1) | (apply OQ.move; exact rfl) | (apply OQ.assign; exact rfl)) rfl ?_ | refine JC.seq ?_ | refine JC.region ?_ | refine JC.block ?_ | refine JC.skip ?_ | refine JL.nil ?_ | refine JE.next ?_)
      refine JC.cond rfl (fun _ => ?_) (fun h => by cases h)
      repeat (first | refine JL.q (by first | (apply OQ.move; exact rfl) | (apply OQ.assign; exact rfl)) rfl ?_ | refine JC.seq ?_ | refine JC.region ?_ | refine JL.nil ?_ | refine JE.next ?_)
      refine JC.ret ?_
      repeat (first | refine JE.then_ret ?_ | refine JE.blk_ret ?_)
      exact JE.ret1 rfl (RV.tmp rfl) fun w' hw => ⟨rfl, hw.chg⟩
  · have hi' : ¬ i < s.l.length := of_decide_eq_false h
    clear h
    rw [List.drop_eq_nil_of_le (by omega), ixP_nil] at hp
    rw [ixV_no (by omega)]
    repeat (first | refine JL.q (by (apply OQ.assign; exact rfl)) rfl ?_ | refine JC.seq ?_ | refine JC.region ?_ | refine JC.exit ?_ | refine JL.nil ?_ | refine JE.next ?_ | refine JE.then_exit ?_ | refine JE.blk_hit ?_)
    refine JC.ret ?_
    skip
    exact JE.ret1 rfl (RV.tmp rfl) fun w' hw => ⟨rfl, hw.chg⟩
end Go.Proofs.YtbbmhkdfdgnkpaaGreatDoor

/-
  Of no statement by itself: package slices at fields: DeleteFunc; Insert of one field at the end, or where there is room.
  Conditions: each theorem's own.
-/
namespace Go.Proofs.YtbbmhkdfdgnkpaaGreatDoor
set_option maxRecDepth 10000
open Sl Fld
theorem fieldZb : zc Tryz.prog 51 = some [Z [], Z []] := by kernel_rfl
structure DelT where
  j : Nat
  o : List Pr
  X : List Pr
end Go.Proofs.YtbbmhkdfdgnkpaaGreatDoor

/-
  Of no statement by itself: package slices at fields: Insert of one field at the end, or where there is room.
  Conditions: each theorem's own.
-/
namespace Go.Proofs.YtbbmhkdfdgnkpaaGreatDoor
set_option maxRecDepth 10000
open Sl Fld
end Go.Proofs.YtbbmhkdfdgnkpaaGreatDoor

/-
  Of no statement by itself: what despatchlaw11's great gives; what letter's Write owes for speaks (letWrite), and what speaks then gives.
  Conditions: each theorem's own.
-/
namespace Go.Proofs.YtbbmhkdfdgnkpaaGreatDoor
set_option maxRecDepth 10000
open Sl Fld
theorem bsC : scal Tryz.prog 22 = true := by kernel_rfl
def low (p : Pr) : Bool := decide (p.2.length ≤ 9000)
end Go.Proofs.YtbbmhkdfdgnkpaaGreatDoor

/-
  Of no statement by itself: what letter's functions owe (LetterOk); over it: what despatchlaw11's speaks gives.
  Conditions: LetterOk, and each theorem's own.
-/
namespace Go.Proofs.YtbbmhkdfdgnkpaaGreatDoor
set_option maxRecDepth 10000
open Sl Fld
/-- a mail as an answer -/
structure Lt (A : List Pr) (B : List Bt) where
  f : Sl2
  s : Sl8
  hf : f.l = A
  hs : s.l = B
  nf : f.ad = none → f.l = []
  ns : s.ad = none → s.l = []
def Lt.v {A : List Pr} {B : List Bt} (z : Lt A B) : Value := .agg #[z.f.v, z.s.v]
def Lt.ents {A : List Pr} {B : List Bt} (z : Lt A B) : List Ent := z.f.ents ++ z.s.ents
theorem Lt.wr {A : List Pr} {B : List Bt} (z : Lt A B) : ∀ e ∈ z.ents, e.wr = true := fun e he => by
  rcases List.mem_append.1 he with h | h
  · exact z.f.ents_wr e h
  · exact z.s.ents_wr e h
structure LetterOk : Prop where
  get : ∀ (f : Sl2) (s : Sl8) (nm : List Bt) (w : World), f.ok w → s.ok w → small2 f → f.l.length ≤ 301 → s.l.length ≤ 3000 → nm.length ≤ 200 → Calls Tryz.prog 64 [.agg #[f.v, s.v], Z nm].toArray w fun e w' => e = .returned (.tuple #[Z ((allB nm f.l).headD []), .bool (!(allB nm f.l).isEmpty)]) ∧ Ext w w'
  write : ∀ (f : Sl2) (s : Sl8) (w : World), f.ok w → s.ok w → small2 f → f.l.length ≤ 300 → s.l.length ≤ 3000 → (∀ p ∈ f.l, p.2.length ≤ 9000) → Calls Tryz.prog 42 [.agg #[f.v, s.v]].toArray w fun e w' => ∃ y : { y : Sl8 // y.l = writeO f.l s.l }, e = .returned (.tuple #[y.1.v, N (writeK f.l s.l)]) ∧ Ext w w' ∧ y.1.ok w'
section
variable {n : Nat} {E : Env} {C : World → Prop} {dst : Option Tmp} {ty : TypeId} {pos : String} {aft : Array Edge} {g : Option (Nat × Bool)} {x y : Operand}
end
end Go.Proofs.YtbbmhkdfdgnkpaaGreatDoor

/-
  Of no statement by itself: what the landed letter's Get, All and Drop give.
  Conditions: each theorem's own.
-/
namespace Go.Proofs.YtbbmhkdfdgnkpaaGreatDoor
set_option maxRecDepth 10000
open Sl Fld
theorem less_mid {A B : List Ent} (e : Ent) : Less (A ++ B) (A ++ e :: B) := less_of_sub (.append (.refl _) (.cons _ (.refl _)))
theorem low_of {f : Sl2} (hz : small2 f) : ∀ c ∈ f.l, Low c := fun c hc => (hz c hc).1
set_option maxHeartbeats 16000000 in
theorem lget_any (f : Sl2) (s : Sl8) (nm : List Bt) (w : World) (hf : f.ok w) (hz : small2 f) (hl : f.l.length ≤ 1000000) : Calls Tryz.prog 64 [.agg #[f.v, s.v], Z nm].toArray w fun e w' => e = .returned (.tuple #[Z ((allB nm f.l).headD []), .bool (!(allB nm f.l).isEmpty)]) ∧ Ext w w' := by
  rw [head_all, none_all]
  refine enter (n := 20) Tryz.func64 rfl rfl rfl (Holds.start w []) ?_
  refine JC.seq (JC.region (JL.box (r := [f.v, s.v]) rfl rfl rfl fun b2 _ => ?_))
  repeat (first | refine JL.q (by (apply OQ.assign; exact rfl)) rfl ?_ | refine JC.seq ?_ | refine JL.nil ?_ | refine JE.next ?_)
  have ci : ∀ (M : List Ent) (bn : Nat) (w' : World), Holds w [] (⟨bn, Row 9 [Z nm], true⟩ :: M) w' → Calls Tryz.prog 88 [f.v, namedV bn].toArray w' fun e w'' => e = .returned (.int .i64 (ixV (fun c => sameB c.1 nm) f.l)) ∧ Ext w' w'' := fun M bn w' hw' =>
    ixfun_any (C := NameAt bn nm) (D := Low) f (namedV bn) _ w' (hf.holds hw' rfl) (fun_named bn nm) (fun w'' hx => (nameAt hw' .here).ext hx) (low_of hz) (by omega)
  let vs : Nat → Nat → Value := fun j x => match j with
    | 0 => Pt b2 0
    | 1 => f.v
    | 2 => Z nm
    | 3 => namedV x
    | _ => .int .i64 (ixV (fun c => sameB c.1 nm) f.l)
  let Ms : Nat → Nat → List Ent := fun j x => match j with
    | 3 => [⟨x, Row 9 [Z nm], true⟩]
    | 6 => [⟨b2, Row 41 [f.v, s.v], true⟩]
    | _ => []
  refine JC.growR (g := ⟨[(1, Z nm), (2, Pt b2 0)], 7, vs, Ms, (fun j => match j with | 1 => [(0, 7)] | 3 => [(2, 9)] | 4 => [(1, 8), (3, 10)] | 5 => [(4, 11)] | _ => []), (fun j => match j with | 1 => [6] | 4 => [3] | _ => []), (fun _ => []), (fun _ => none), fun _ => [], fun _ _ _ => True⟩) [(5, 6)] [6] mixT (by repeat (first | exact SubE.nil | refine SubE.cons _ _ _ rfl ?_)) (fun _ _ => .nil) (Less.refl _) (by kernel_rfl) (by kernel_rfl) (by kernel_rfl) ?_ ?_
  · refine ⟨?_, ?_, ?_, ?_, ?_, ?_, trivial⟩
    · (intro x EF MF Q kk; exact JL.q (OQ.fldx (o := 0) rfl rfl rfl (by decide) rfl rfl) rfl (JL.nil (kk default nofun)))
    · (intro x EF MF Q kk; exact JL.q (OQ.load fsC rfl .here (Row.cell (v := f.v) rfl)) rfl (JL.nil (kk default nofun)))
    · (intro x EF MF Q kk; exact JL.q (OQ.move rfl) rfl (JL.nil (kk default nofun)))
    · (intro x EF MF Q kk; exact JL.callg (ι := Nat) (vs := [Z nm]) (fun bn => namedV bn) (fun bn => [⟨bn, Row 9 [Z nm], true⟩]) goes_named rfl rfl (fun bn e he => by rw [List.mem_singleton.1 he]) (fun w' _ => named_any nm w') fun bn => JL.nil (kk bn nofun))
    · (intro x EF MF Q kk; exact JL.q (OQ.callx (vs := [f.v, namedV (x 3)]) goes_ixfun rfl (ci _ (x 3))) rfl (JL.nil (kk default nofun)))
    · (intro x EF MF Q kk; exact JL.q (OQ.assign rfl) rfl (JL.nil (kk default nofun)))
  intro x hx
  show JE _ _ _ _ _ [(6, .int .i64 (ixV (fun c => sameB c.1 nm) f.l)), (1, Z nm), (2, Pt b2 0)] [⟨b2, Row 41 [f.v, s.v], true⟩]
  clear ci hx x vs Ms
  by_cases hx : ixP (fun c => sameB c.1 nm) f.l < f.l.length
  · rw [if_pos hx, decide_eq_true hx, ixV_yes hx]
    have h0 : decide (((ixP (fun c => sameB c.1 nm) f.l : Nat) : Int) < 0) = false := decide_eq_false (by omega)
    obtain ⟨ba, ja, eA, la, ca1, ca2⟩ := hf.at hx
    have vA : f.v = .slice (some ⟨ba, ja, none⟩) f.l.length f.cap := by rw [← eA]; rfl
    generalize ixP (fun c => sameB c.1 nm) f.l = i at *
    rw [vA]
    repeat (first | refine JL.q (by first | (apply OQ.lssB (b := 0); exact rfl; exact rfl; exact h0) | (apply OQ.move; exact rfl)) rfl ?_ | refine JC.seq ?_ | refine JC.region ?_ | refine JL.nil ?_ | refine JE.next ?_)
    refine JC.cond rfl (fun h => by cases h) (fun _ => ?_)
    repeat (first | refine JL.q (by first | (apply OQ.load; exact fsC; exact rfl; exact .here; exact (Row.cell (v := .slice (some ⟨ba, ja, none⟩) f.l.length f.cap) rfl)) | (apply OQ.idxS; exact Tryz.underlying39; exact fieldS; exact rfl; exact rfl; exact hx) | (apply OQ.load_old; exact strC; exact rfl; exact la; exact (by simp); exact ca2) | (apply OQ.move; exact rfl) | (apply OQ.assign; exact rfl) | (apply OQ.fld; exact rfl; exact rfl; exact rfl; exact (by decide); exact rfl)) rfl ?_ | refine JC.seq ?_ | refine JC.region ?_ | refine JC.skip ?_ | refine JL.nil ?_ | refine JE.next ?_)
    refine JC.ret ?_
    skip
    exact JE.ret2 rfl (RV.tmp rfl) (RV.tmp rfl) fun w' hw => ⟨rfl, hw.chg⟩
  · rw [if_neg hx, decide_eq_false hx, ixV_no hx]
    have h0 : decide ((-1 : Int) < 0) = true := rfl
    repeat (first | refine JL.q (by first | (apply OQ.lssB (b := 0); exact rfl; exact rfl; exact h0) | (apply OQ.move; exact rfl)) rfl ?_ | refine JC.seq ?_ | refine JC.region ?_ | refine JL.nil ?_ | refine JE.next ?_)
    refine JC.cond rfl (fun _ => ?_) (fun h => by cases h)
    repeat (first | refine JL.q (by (apply OQ.assign; exact rfl)) rfl ?_ | refine JC.seq ?_ | refine JC.region ?_ | refine JL.nil ?_ | refine JE.next ?_)
    refine JC.ret ?_
    repeat (refine JE.then_ret ?_)
    exact JE.ret2 rfl (RV.tmp rfl) (RV.tmp rfl) fun w' hw => ⟨rfl, hw.chg⟩
structure AllT where
  i : Nat
  o : List (List Bt)
  q : Acc
end Go.Proofs.YtbbmhkdfdgnkpaaGreatDoor

/-
  Of no statement by itself: signs of groups of three, bytes of groups of four signs, lines by groups of 76: pure, in the shape in which code goes through groups.
  Conditions: none but each lemma's own.
-/
namespace Go.Proofs.YtbbmhkdfdgnkpaaGreatDoor
namespace Arm
/-- what F gives of each group of k -/
def fl (k : Nat) (F : List By → List By) (l : List By) : List By := (List.range ((l.length + k - 1) / k)).flatMap fun j => F ((l.drop (k * j)).take k)
theorem fl_nil {k : Nat} (hk : 0 < k) (F : List By → List By) : fl k F [] = [] := by
  unfold fl
  rw [List.length_nil, Nat.div_eq_of_lt (by omega)]; rfl
theorem fl_step {k : Nat} (hk : 0 < k) (F : List By → List By) {l : List By} (h : l ≠ []) : fl k F l = F (l.take k) ++ fl k F (l.drop k) := by
  have hp := List.length_pos_iff.2 h
  have e : (l.length + k - 1) / k = ((l.drop k).length + k - 1) / k + 1 := by
    rw [List.length_drop]
    by_cases hle : l.length ≤ k
    · rw [Nat.sub_eq_zero_of_le hle, Nat.zero_add, Nat.div_eq_of_lt (show k - 1 < k by omega)]
      exact Nat.div_eq_of_lt_le (by omega) (by omega)
    · rw [show l.length + k - 1 = (l.length - k + k - 1) + k by omega, Nat.add_div_right _ hk]
  unfold fl
  rw [e, List.range_succ_eq_map, List.flatMap_cons, List.flatMap_map, Nat.mul_zero, List.drop_zero]
  congr 2
  funext j
  rw [List.drop_drop, show k * j.succ = k + k * j by rw [Nat.mul_succ]; omega]
/-! ### signs -/
def pad3 (g : List By) : List By := [g.getD 0 0, g.getD 1 0, g.getD 2 0]
def val3 (g : List By) : Nat := (g.getD 0 0).toNat * 65536 + (g.getD 1 0).toNat * 256 + (g.getD 2 0).toNat
def sgn (g : List By) (i : Nat) : By := if g.length < i then 61 else sg (val3 g / 2 ^ (6 * (3 - i)) % 64)
def sig4 (g : List By) : List By := [sgn g 0, sgn g 1, sgn g 2, sgn g 3]
theorem sig4_is {g : List By} (h0 : g ≠ []) (h3 : g.length ≤ 3) : sig4 g = encB g := by
  match g, h0, h3 with
  | [a], _, _ =>
    have ha := a.isLt
    simp only [sig4, sgn, val3, List.length_cons, List.length_nil, List.getD_cons_zero, List.getD_cons_succ, List.getD_nil, encB]
    simp only [show ¬ (0 + 1 < 0) by omega, show ¬ (0 + 1 < 1) by omega, show (0 + 1 < 2) by omega, show (0 + 1 < 3) by omega, if_true, if_false]
    rw [show (a.toNat * 65536 + (0 : By).toNat * 256 + (0 : By).toNat) / 2 ^ (6 * (3 - 0)) % 64 = a.toNat / 4 by simp; omega,
      show (a.toNat * 65536 + (0 : By).toNat * 256 + (0 : By).toNat) / 2 ^ (6 * (3 - 1)) % 64 = a.toNat % 4 * 16 by simp; omega]
  | [a, b], _, _ =>
    have ha := a.isLt
    have hb := b.isLt
    simp only [sig4, sgn, val3, List.length_cons, List.length_nil, List.getD_cons_zero, List.getD_cons_succ, List.getD_nil, encB]
    simp only [show ¬ (0 + 1 + 1 < 0) by omega, show ¬ (0 + 1 + 1 < 1) by omega, show ¬ (0 + 1 + 1 < 2) by omega, show (0 + 1 + 1 < 3) by omega, if_true, if_false]
    rw [show (a.toNat * 65536 + b.toNat * 256 + (0 : By).toNat) / 2 ^ (6 * (3 - 0)) % 64 = a.toNat / 4 by simp; omega,
      show (a.toNat * 65536 + b.toNat * 256 + (0 : By).toNat) / 2 ^ (6 * (3 - 1)) % 64 = a.toNat % 4 * 16 + b.toNat / 16 by simp; omega,
      show (a.toNat * 65536 + b.toNat * 256 + (0 : By).toNat) / 2 ^ (6 * (3 - 2)) % 64 = b.toNat % 16 * 4 by simp; omega]
  | [a, b, c], _, _ =>
    have ha := a.isLt
    have hb := b.isLt
    have hc := c.isLt
    rw [encB3]
    simp only [sig4, sgn, val3, List.length_cons, List.length_nil, List.getD_cons_zero, List.getD_cons_succ, List.getD_nil, encB]
    simp only [show ¬ (0 + 1 + 1 + 1 < 0) by omega, show ¬ (0 + 1 + 1 + 1 < 1) by omega, show ¬ (0 + 1 + 1 + 1 < 2) by omega, show ¬ (0 + 1 + 1 + 1 < 3) by omega, if_false]
    rw [show (a.toNat * 65536 + b.toNat * 256 + c.toNat) / 2 ^ (6 * (3 - 0)) % 64 = a.toNat / 4 by simp; omega,
      show (a.toNat * 65536 + b.toNat * 256 + c.toNat) / 2 ^ (6 * (3 - 1)) % 64 = a.toNat % 4 * 16 + b.toNat / 16 by simp; omega,
      show (a.toNat * 65536 + b.toNat * 256 + c.toNat) / 2 ^ (6 * (3 - 2)) % 64 = b.toNat % 16 * 4 + c.toNat / 64 by simp; omega,
      show (a.toNat * 65536 + b.toNat * 256 + c.toNat) / 2 ^ (6 * (3 - 3)) % 64 = c.toNat % 64 by simp; omega]
theorem fl_enc (l : List By) : fl 3 sig4 l = encB l := by
  refine by3 (p := fun l => fl 3 sig4 l = encB l) (by rw [fl_nil (by decide)]; rfl) (fun a => ?_) (fun a b => ?_) (fun a b c r h => ?_) l
  · rw [fl_step (by decide) _ (by simp), show [a].drop 3 = [] from rfl, fl_nil (by decide), show [a].take 3 = [a] from rfl, sig4_is (by simp) (by simp), List.append_nil]
  · rw [fl_step (by decide) _ (by simp), show [a, b].drop 3 = [] from rfl, fl_nil (by decide), show [a, b].take 3 = [a, b] from rfl, sig4_is (by simp) (by simp), List.append_nil]
  · rw [fl_step (by decide) _ (by simp), show (a :: b :: c :: r).drop 3 = r from rfl, h, show (a :: b :: c :: r).take 3 = [a, b, c] from rfl, sig4_is (by simp) (by simp), encB3, encB3]
    rfl
theorem sgn_bits (g : List By) (i : Nat) : (((((g.getD 0 0).setWidth 32 <<< 16) ||| ((g.getD 1 0).setWidth 32 <<< 8)) ||| (g.getD 2 0).setWidth 32) >>> i &&& 63#32).toNat = val3 g / 2 ^ i % 64 := by
  unfold val3
  generalize g.getD 0 0 = a, g.getD 1 0 = b, g.getD 2 0 = c
  have ha := a.isLt
  have hb := b.isLt
  have hc := c.isLt
  rw [BitVec.toNat_and, BitVec.toNat_ushiftRight, BitVec.toNat_or, BitVec.toNat_or, BitVec.toNat_shiftLeft, BitVec.toNat_shiftLeft, BitVec.toNat_setWidth, BitVec.toNat_setWidth, BitVec.toNat_setWidth]
  rw [Nat.mod_eq_of_lt (show a.toNat < 2 ^ 32 by omega), Nat.mod_eq_of_lt (show b.toNat < 2 ^ 32 by omega), Nat.mod_eq_of_lt (show c.toNat < 2 ^ 32 by omega)]
  rw [Nat.mod_eq_of_lt (show a.toNat <<< 16 < 2 ^ 32 by rw [Nat.shiftLeft_eq]; omega), Nat.mod_eq_of_lt (show b.toNat <<< 8 < 2 ^ 32 by rw [Nat.shiftLeft_eq]; omega)]
  have e1 : a.toNat <<< 16 ||| b.toNat <<< 8 = (a.toNat * 256 + b.toNat) <<< 8 := by
    rw [← Nat.shiftLeft_add_eq_or_of_lt (by rw [Nat.shiftLeft_eq]; omega)]
    simp only [Nat.shiftLeft_eq]; omega
  rw [e1, ← Nat.shiftLeft_add_eq_or_of_lt (by omega)]
  rw [show (63#32).toNat = 2 ^ 6 - 1 from rfl, Nat.and_two_pow_sub_one_eq_mod, Nat.shiftRight_eq_div_pow, Nat.shiftLeft_eq]
  rw [show (a.toNat * 256 + b.toNat) * 2 ^ 8 + c.toNat = a.toNat * 65536 + b.toNat * 256 + c.toNat by omega]
/-! ### bytes -/
/-- a sign's number: nought for what is none -/
def pl (c : By) : Nat := ((List.range 64).find? fun i => sgL.getD i 0 == c).getD 0
theorem pl_sg : ∀ m : Fin 64, pl (sg m.val) = m.val := by decide +kernel
theorem sg_61' : ∀ m : Fin 64, ¬ sg m.val = 61#8 := by decide +kernel
theorem sg_61 {m : Nat} (h : m < 64) : ¬ sg m = 61#8 := sg_61' ⟨m, h⟩
theorem pl_lt (c : By) : pl c < 64 := by
  unfold pl
  cases h : (List.range 64).find? fun i => sgL.getD i 0 == c with
  | none => decide
  | some i => simpa using List.mem_of_find?_eq_some h
/-- the number that the first i signs of a group tell -/
def acc (g : List By) : Nat → Nat
  | 0 => 0
  | i + 1 => acc g i + pl (g.getD i 0) * 2 ^ (6 * (3 - i))
def lead (g : List By) : Nat := (g.takeWhile (· != 61)).length
def dec4 (g : List By) : List By := (List.range (lead g - 1)).map fun i => BitVec.ofNat 8 (acc g (lead g) / 2 ^ (8 * (2 - i)))
theorem acc_ok (g : List By) {i : Nat} (hi : i ≤ 4) : acc g i < 2 ^ 24 ∧ acc g i % 2 ^ (6 * (4 - i)) = 0 := by
  have p0 := pl_lt (g.getD 0 0)
  have p1 := pl_lt (g.getD 1 0)
  have p2 := pl_lt (g.getD 2 0)
  have p3 := pl_lt (g.getD 3 0)
  match i, hi with
  | 0, _ => simp [acc]
  | 1, _ => simp only [acc]; omega
  | 2, _ => simp only [acc]; omega
  | 3, _ => simp only [acc]; omega
  | 4, _ => simp only [acc]; omega
theorem acc_bits (g : List By) {i : Nat} (hi : i < 4) : BitVec.ofNat 32 (acc g i) ||| (BitVec.ofNat 32 (pl (g.getD i 0)) <<< (6 * (3 - i))) = BitVec.ofNat 32 (acc g (i + 1)) := by
  obtain ⟨h1, h2⟩ := acc_ok g (i := i) (by omega)
  have h3 := (acc_ok g (i := i + 1) (by omega)).1
  have hp := pl_lt (g.getD i 0)
  have he : 2 ^ (6 * (4 - i)) = 64 * 2 ^ (6 * (3 - i)) := by rw [show 6 * (4 - i) = 6 + 6 * (3 - i) by omega, Nat.pow_add]
  have hlt : pl (g.getD i 0) * 2 ^ (6 * (3 - i)) < 2 ^ (6 * (4 - i)) := by rw [he]; exact Nat.mul_lt_mul_of_pos_right hp (Nat.two_pow_pos _)
  have hle : 2 ^ (6 * (4 - i)) ≤ 2 ^ 24 := Nat.pow_le_pow_right (by decide) (by omega)
  apply BitVec.eq_of_toNat_eq
  rw [BitVec.toNat_or, BitVec.toNat_shiftLeft, BitVec.toNat_ofNat, BitVec.toNat_ofNat, BitVec.toNat_ofNat, Nat.mod_eq_of_lt (show acc g i < 2 ^ 32 by omega), Nat.mod_eq_of_lt (show pl (g.getD i 0) < 2 ^ 32 by omega), Nat.mod_eq_of_lt (show acc g (i + 1) < 2 ^ 32 by omega)]
  rw [Nat.shiftLeft_eq, Nat.mod_eq_of_lt (show pl (g.getD i 0) * 2 ^ (6 * (3 - i)) < 2 ^ 32 by omega)]
  have hb : acc g i = (acc g i / 2 ^ (6 * (4 - i))) <<< (6 * (4 - i)) := by
    rw [Nat.shiftLeft_eq]
    have := Nat.div_add_mod (acc g i) (2 ^ (6 * (4 - i)))
    rw [h2, Nat.mul_comm] at this
    omega
  rw [hb, ← Nat.shiftLeft_add_eq_or_of_lt hlt, ← hb]
  rfl
theorem byte_bits {n k : Nat} (h : n < 2 ^ 32) : (BitVec.ofNat 32 n >>> k).setWidth 8 = BitVec.ofNat 8 (n / 2 ^ k) := by
  apply BitVec.eq_of_toNat_eq
  rw [BitVec.toNat_setWidth, BitVec.toNat_ushiftRight, BitVec.toNat_ofNat, BitVec.toNat_ofNat, Nat.mod_eq_of_lt h, Nat.shiftRight_eq_div_pow]
theorem range3 : List.range 3 = [0, 1, 2] := rfl
theorem dec4_3 {p q r s : Nat} (hp : p < 64) (hq : q < 64) (hr : r < 64) (hs : s < 64) : dec4 [sg p, sg q, sg r, sg s] = [BitVec.ofNat 8 (p * 4 + q / 16), BitVec.ofNat 8 (q % 16 * 16 + r / 4), BitVec.ofNat 8 (r % 4 * 64 + s)] := by
  have e : lead [sg p, sg q, sg r, sg s] = 4 := by
    simp [lead, List.takeWhile_cons, sg_61 hp, sg_61 hq, sg_61 hr, sg_61 hs]
  unfold dec4
  rw [e]
  simp only [acc, List.getD_cons_zero, List.getD_cons_succ, pl_sg ⟨p, hp⟩, pl_sg ⟨q, hq⟩, pl_sg ⟨r, hr⟩, pl_sg ⟨s, hs⟩, range3, List.map_cons, List.map_nil, Nat.add_one_sub_one]
  congr 1
  · apply BitVec.eq_of_toNat_eq; simp only [BitVec.toNat_ofNat]; omega
  congr 1
  · apply BitVec.eq_of_toNat_eq; simp only [BitVec.toNat_ofNat]; omega
  congr 1
  · apply BitVec.eq_of_toNat_eq; simp only [BitVec.toNat_ofNat]; omega
theorem dec4_2 {p q r : Nat} (hp : p < 64) (hq : q < 64) (hr : r < 64) : dec4 [sg p, sg q, sg r, 61] = [BitVec.ofNat 8 (p * 4 + q / 16), BitVec.ofNat 8 (q % 16 * 16 + r / 4)] := by
  have e : lead [sg p, sg q, sg r, 61] = 3 := by
    simp [lead, List.takeWhile_cons, sg_61 hp, sg_61 hq, sg_61 hr]
  unfold dec4
  rw [e]
  simp only [acc, List.getD_cons_zero, List.getD_cons_succ, pl_sg ⟨p, hp⟩, pl_sg ⟨q, hq⟩, pl_sg ⟨r, hr⟩, show List.range (3 - 1) = [0, 1] from rfl, List.map_cons, List.map_nil]
  congr 1
  · apply BitVec.eq_of_toNat_eq; simp only [BitVec.toNat_ofNat]; omega
  congr 1
  · apply BitVec.eq_of_toNat_eq; simp only [BitVec.toNat_ofNat]; omega
theorem dec4_1 {p q : Nat} (hp : p < 64) (hq : q < 64) : dec4 [sg p, sg q, 61, 61] = [BitVec.ofNat 8 (p * 4 + q / 16)] := by
  have e : lead [sg p, sg q, 61, 61] = 2 := by
    simp [lead, List.takeWhile_cons, sg_61 hp, sg_61 hq]
  unfold dec4
  rw [e]
  simp only [acc, List.getD_cons_zero, List.getD_cons_succ, pl_sg ⟨p, hp⟩, pl_sg ⟨q, hq⟩, show List.range (2 - 1) = [0] from rfl, List.map_cons, List.map_nil]
  congr 1
  · apply BitVec.eq_of_toNat_eq; simp only [BitVec.toNat_ofNat]; omega
theorem fl_dec (l : List By) : fl 4 dec4 (encB l) = l := by
  refine by3 (p := fun l => fl 4 dec4 (encB l) = l) (by rw [encB, fl_nil (by decide)]) (fun a => ?_) (fun a b => ?_) (fun a b c r h => ?_) l
  · have ha := a.isLt
    rw [encB, fl_step (by decide) _ (by simp)]
    simp only [List.take_succ_cons, List.take_nil, List.drop_succ_cons, List.drop_nil, List.take_zero, List.drop_zero]
    rw [dec4_1 (by omega) (by omega), fl_nil (by decide), of8 (show _ = a.toNat by omega)]; rfl
  · have ha := a.isLt
    have hb := b.isLt
    rw [encB, fl_step (by decide) _ (by simp)]
    simp only [List.take_succ_cons, List.take_nil, List.drop_succ_cons, List.drop_nil, List.take_zero, List.drop_zero]
    rw [dec4_2 (by omega) (by omega) (by omega), fl_nil (by decide), of8 (show _ = a.toNat by omega), of8 (show _ = b.toNat by omega)]; rfl
  · have ha := a.isLt
    have hb := b.isLt
    have hc := c.isLt
    rw [encB3, fl_step (by decide) _ (by simp)]
    simp only [List.take_succ_cons, List.take_nil, List.drop_succ_cons, List.drop_nil, List.take_zero, List.drop_zero]
    rw [dec4_3 (by omega) (by omega) (by omega) (by omega), h, of8 (show _ = a.toNat by omega), of8 (show _ = b.toNat by omega), of8 (show _ = c.toNat by omega)]; rfl
theorem dec_yes {s : List By} (h : encB (fl 4 dec4 s) = s) : decB s = some (fl 4 dec4 s) := decB_iff.2 h
theorem dec_no {s : List By} (h : ¬ encB (fl 4 dec4 s) = s) : decB s = none := decB_none fun l hl => h (by rw [← hl, fl_dec])
/-! ### lines -/
def ln76 (g : List By) : List By := g ++ [13, 10]
theorem ln_pre (s : List By) : ∀ r, r ≤ 75 → r < s.length → lnB s r = s.take r
  | 0, _, _ => rfl
  | r + 1, h1, h2 => by
    rw [lnB, ln_pre s r (by omega) (by omega), if_neg (by omega), List.take_add_one, List.getD_eq_getElem?_getD, List.getElem?_eq_getElem (by omega)]; rfl
theorem ln_last (s : List By) (h0 : s ≠ []) (h : s.length ≤ 76) : lnB s s.length = s ++ [13, 10] := by
  obtain ⟨r, hr⟩ : ∃ r, s.length = r + 1 := ⟨s.length - 1, by have := List.length_pos_iff.2 h0; omega⟩
  rw [hr, lnB, ln_pre s r (by omega) (by omega), if_pos (.inr hr.symm)]
  have e : s = s.take r ++ [s.getD r 0] := by
    have e2 : s.take (r + 1) = s := List.take_of_length_le (by omega)
    conv => lhs; rw [← e2]
    rw [List.take_add_one, List.getD_eq_getElem?_getD, List.getElem?_eq_getElem (by omega)]; rfl
  conv => rhs; rw [e]
  simp
theorem ln_76 (s : List By) (h : 76 ≤ s.length) : lnB s 76 = s.take 76 ++ [13, 10] := by
  have e : s.take 76 = s.take 75 ++ [s.getD 75 0] := by
    rw [show (76 : Nat) = 75 + 1 from rfl, List.take_add_one, List.getD_eq_getElem?_getD, List.getElem?_eq_getElem (by omega)]; rfl
  rw [e, show (76 : Nat) = 75 + 1 from rfl, lnB, ln_pre s 75 (by omega) (by omega), if_pos (.inl rfl)]
  simp
theorem ln_add (s : List By) (h : 76 ≤ s.length) : ∀ i, 76 + i ≤ s.length → lnB s (76 + i) = lnB s 76 ++ lnB (s.drop 76) i
  | 0, _ => by simp [lnB]
  | i + 1, hi => by
    rw [show 76 + (i + 1) = (76 + i) + 1 from rfl, lnB, ln_add s h i (by omega), lnB, List.append_assoc]
    congr 3
    · simp [List.getD_eq_getElem?_getD, List.getElem?_drop]
    · rw [List.length_drop, show (76 + i) % 76 = i % 76 by omega]
      by_cases hc : i % 76 = 75 ∨ 76 + i + 1 = s.length
      · rw [if_pos hc, if_pos (by omega)]
      · rw [if_neg hc, if_neg (by omega)]
theorem fl_ln (s : List By) : fl 76 ln76 s = lnB s s.length := by
  generalize hn : s.length = n
  induction n using Nat.strongRecOn generalizing s with
  | _ n ih =>
    by_cases h0 : s = []
    · subst h0
      rw [fl_nil (by decide)]
      subst hn; rfl
    · have hp := List.length_pos_iff.2 h0
      rw [fl_step (by decide) _ h0]
      by_cases h : s.length ≤ 76
      · rw [List.drop_eq_nil_of_le h, fl_nil (by decide), List.take_of_length_le h, ← hn, ln_last s h0 h, List.append_nil]; rfl
      · rw [ih (n - 76) (by omega) (s.drop 76) (by rw [List.length_drop]; omega), ← hn, show s.length = 76 + (s.length - 76) by omega, ln_add s (by omega) _ (by omega), ln_76 s (by omega), show 76 + (s.length - 76) - 76 = s.length - 76 by omega]; rfl
theorem fl_lines (l : List By) : fl 76 ln76 (encB l) = linesB l := fl_ln _
end Arm
end Go.Proofs.YtbbmhkdfdgnkpaaGreatDoor

/-
  Of no statement by itself: what the reference's Encode (layer 6) gives.
  Conditions: each theorem's own.
-/
namespace Go.Proofs.YtbbmhkdfdgnkpaaGreatDoor
set_option maxRecDepth 10000
open Sl Arm
theorem take_one {α : Type} (l : List α) (d : α) {j : Nat} (h : j < l.length) : l.take (j + 1) = l.take j ++ [l.getD j d] := by
  rw [List.take_add_one, List.getD_eq_getElem?_getD, List.getElem?_eq_getElem h]; rfl
end Go.Proofs.YtbbmhkdfdgnkpaaGreatDoor

/-
  Of no statement by itself: what the reference's Decode, Lines and Read (layer 6) give.
  Conditions: each theorem's own.
-/
namespace Go.Proofs.YtbbmhkdfdgnkpaaGreatDoor
set_option maxRecDepth 10000
open Sl Arm
section
variable {P : Program} {n : Nat} {E : Env} {C : World → Prop} {dst : Option Tmp} {ty t t' : TypeId} {pos : String} {aft : Array Edge} {g : Option (Nat × Bool)} {x y : Operand}
end
def ecode (o : Option (List Arm.By)) : Nat := match o with | some _ => 0 | none => 3
theorem own_ents {e : TypeId} {b cap : Nat} {Y : List Bt} : Less (Sl8.ents ⟨some ⟨b, 0, none⟩, cap, Y⟩) [⟨b, Sl.Own e 1 Y.length cap (Y.map U8), true⟩] :=
  .keep _ _ _ _ _ _ (fun o h => ⟨Sl.Own.cells o h, by obtain ⟨_, _, _, _, h4⟩ := h; exact h4, rfl⟩) (.nil _)
theorem bare_take (l : List Arm.By) {i : Nat} (h : i < l.length) : bare (l.take (i + 1)) = bare (l.take i) ++ (if Arm.blank (l.getD i 0) then [] else [l.getD i 0]) := by
  rw [take_one l 0 h, bare_append]
  congr 1
  generalize l.getD i 0 = c
  cases h : Arm.blank c <;> simp [bare, h]
theorem bare_len (l : List Arm.By) : (bare l).length ≤ l.length := List.length_filter_le ..
end Go.Proofs.YtbbmhkdfdgnkpaaGreatDoor

/-
  Of no statement by itself: armor's addSigns, encoded and Encode.
  Conditions: each theorem's own.
-/
namespace Go.Proofs.YtbbmhkdfdgnkpaaGreatDoor
set_option maxRecDepth 10000
open Sl Arm
theorem goes_addSigns : Goes Tryz.prog 113 := ⟨_, Tryz.func113, rfl, by kernel_rfl⟩
theorem goes_encoded : Goes Tryz.prog 81 := ⟨_, Tryz.func81, rfl, by kernel_rfl⟩
theorem goes_aenc : Goes Tryz.prog 141 := ⟨_, Tryz.func141, rfl, by kernel_rfl⟩
theorem pad3_is {g : List Arm.By} (h : g.length ≤ 3) : ([0, 0, 0] : List Arm.By).take 0 ++ g.take (min g.length 3) ++ ([0, 0, 0] : List Arm.By).drop (0 + min g.length 3) = pad3 g := by
  match g, h with
  | [], _ => rfl
  | [a], _ => rfl
  | [a, b], _ => rfl
  | [a, b, c], _ => rfl
theorem sig4_take (g : List Arm.By) {i : Nat} (h : i < 4) : (sig4 g).take (i + 1) = (sig4 g).take i ++ [sgn g i] := by
  match i, h with
  | 0, _ => rfl
  | 1, _ => rfl
  | 2, _ => rfl
  | 3, _ => rfl
theorem part_block {s : Sl8} {w : World} (hs : s.ok w) {k j : Nat} (h : (s.part k j).l ≠ []) {a : Addr} (ha : (s.part k j).ad = some a) : a.block < w.heap.size := (part_ok hs k j).lt h a ha
theorem all8B (l : List Bt) : ∀ v ∈ l.map U8, v.oneCell' = true := by
  intro v hv
  obtain ⟨x, _, rfl⟩ := List.mem_map.1 hv
  rfl
theorem sg_at {v : BitVec 32} {m : Nat} (h : v.toNat = m) (hm : m < 64) : v.toNat < sgL.length ∧ sgL.getD v.toNat 0 = sg m := by
  subst h
  exact ⟨hm, rfl⟩
set_option maxHeartbeats 8000000 in
theorem addSigns_any (b k cap : Nat) (xs : List Bt) (g : Sl8) (w : World) (hg : g.ok w) (h3 : g.l.length ≤ 3) (hne : g.l ≠ [] → ∀ a, g.ad = some a → a.block ≠ b) {o : Obj} (ho : w.heap[b]? = some o) (hA : Sl.Own 5 1 k cap (xs.map U8) o) (hk : k ≤ 1000000000) :
    Calls Tryz.prog 113 [.slice (some ⟨b, 0, none⟩) k cap, g.v].toArray w fun e w' => ∃ q : Nat × Nat, e = .returned (.slice (some ⟨q.1, 0, none⟩) (k + 4) q.2) ∧ Holds w [b] [⟨q.1, Sl.Own 5 1 (k + 4) q.2 ((xs ++ sig4 g.l).map U8), true⟩] w' := by
  refine enter (n := 46) Tryz.func113 rfl rfl rfl (Holds.one ho hA) ?_
  have hrd : ∀ {M : List Ent} w', Holds w [b] M w' → Reads w' g.ad (g.l.map U8) := fun w' hw' => hw'.reads hg.reads (fun h a ha => by simpa using hne (by simpa using h) a ha)
  repeat (first | refine JL.q (by (apply OQ.assign; exact rfl)) rfl ?_ | refine JC.seq ?_ | refine JC.region ?_ | refine JL.nil ?_ | refine JE.next ?_)
  refine JL.alloc (r := ([0, 0, 0] : List Arm.By).map U8) (by kernel_rfl) rfl fun c _ => ?_
  repeat (first | refine JL.q (by first | (apply OQ.slA; exact Tryz.underlying172; exact u8s; exact rfl) | (apply OQ.move; exact rfl)) rfl ?_ | refine JC.seq ?_ | refine JC.region ?_ | refine JL.nil ?_ | refine JE.next ?_)
  refine JL.copy (r' := (pad3 g.l).map U8) (cs := g.l.map U8) (M' := [⟨c, Row 172 ((pad3 g.l).map U8), true⟩, ⟨b, Sl.Own 5 1 k cap (xs.map U8), true⟩]) Tryz.underlying22 u8s rfl rfl .here (by simp) (fun w' hw' => hrd w' hw') (all8B _) (by simp; omega) (by rw [← List.map_take, ← List.map_drop, ← List.map_take, ← List.map_append, ← List.map_append, pad3_is h3]) rfl ?_
  repeat (first | refine JL.q (by first | (apply OQ.load; exact u8c; exact rfl; exact .here; exact (Row.cell (v := U8 (g.l.getD 0 0)) rfl)) | (apply OQ.load; exact u8c; exact rfl; exact .here; exact (Row.cell (v := U8 (g.l.getD 1 0)) rfl)) | (apply OQ.load; exact u8c; exact rfl; exact .here; exact (Row.cell (v := U8 (g.l.getD 2 0)) rfl)) | (apply OQ.move; exact rfl) | (apply OQ.assign; exact rfl) | (apply OQ.or32; exact rfl; exact rfl) | (apply OQ.shl32; exact rfl; exact rfl) | (apply OQ.conv8_32; exact rfl; exact rfl; exact rfl) | (apply OQ.idxA0; exact rfl; exact rfl; exact rfl; exact rfl; exact (by (try simp only []); omega))) rfl ?_ | refine JC.seq ?_ | refine JC.region ?_ | refine JC.block ?_ | refine JL.nil ?_ | refine JE.next ?_)
  have hn := sgn_bits g.l
  generalize (((g.l.getD 0 0).setWidth 32 <<< 16) ||| ((g.l.getD 1 0).setWidth 32 <<< 8)) ||| (g.l.getD 2 0).setWidth 32 = nn at hn ⊢
  have hsg : ∀ i, i < 4 → ¬ g.l.length < i → (nn >>> (6 * (3 - i)) &&& 63#32).toNat < sgL.length ∧ sgL.getD (nn >>> (6 * (3 - i)) &&& 63#32).toNat 0 = sgn g.l i := fun i _ hlen => by
    have := sg_at (hn (6 * (3 - i))) (Nat.mod_lt _ (by decide))
    refine ⟨this.1, this.2.trans ?_⟩
    rw [sgn, if_neg hlen]
  have hfl : ∀ i, g.l.length < i → sgn g.l i = 61 := fun i h => by rw [sgn, if_pos h]
  clear hn
  skip
  refine JC.loop (fun q : Nat × Nat × Nat => [(0, .slice (some ⟨q.2.1, 0, none⟩) (k + q.1) q.2.2), (1, g.v), (6, U32 nn), (24, N q.1)])
    (fun q => [⟨q.2.1, Sl.Own 5 1 (k + q.1) q.2.2 ((xs ++ (sig4 g.l).take q.1).map U8), true⟩])
    (fun q => 4 - q.1) (fun q => q.1 ≤ 4) (0, b, cap) (by show 0 ≤ 4; omega) (by repeat (first | exact SubE.nil | refine SubE.cons _ _ _ rfl ?_)) (.drop _ _ _ (.keep _ _ _ _ _ _ (fun o h => by simpa using h) (.nil _))) ?_
  rintro ⟨i, b', cap'⟩ hi
  simp only at hi
  dsimp only
  repeat (first | refine JL.q (by (apply OQ.lssN; exact rfl; exact rfl)) rfl ?_ | refine JC.seq ?_ | refine JC.region ?_ | refine JL.nil ?_ | refine JE.next ?_)
  refine JC.cond rfl (fun h => ?_) (fun h => ?_)
  · have hi' : i < 4 := of_decide_eq_true h
    clear h hi
    have eS := sig4_take g.l hi'
    have hs := hsg i hi'
    generalize (sig4 g.l).take i = T at eS ⊢
    repeat (first | refine JL.q (by first | (apply OQ.move; exact rfl) | (apply OQ.assign; exact rfl) | (apply OQ.len; exact rfl; exact rfl) | (apply OQ.gtrN; exact rfl; exact rfl)) rfl ?_ | refine JC.seq ?_ | refine JC.region ?_ | refine JC.block ?_ | refine JC.skip ?_ | refine JL.nil ?_ | refine JE.next ?_)
    refine JC.cond rfl (fun h => ?_) (fun h => ?_)
    · have hlt : g.l.length < i := of_decide_eq_true h
      clear h
      rw [hfl i hlt] at eS
      repeat (first | refine JL.q (by (apply OQ.move; exact rfl)) rfl ?_ | refine JC.seq ?_ | refine JC.region ?_)
      refine JL.push1 (xs := (xs ++ T).map U8) (v := U8 61) (fun b'' cap'' => [⟨b'', Sl.Own 5 1 (k + i + 1) cap'' ((xs ++ T).map U8 ++ [U8 61]), true⟩]) Tryz.underlying22 u8e rfl rfl rfl rfl (fun _ => rfl) (by intro _ _; repeat (first | exact Repl.here | apply Repl.there)) (by omega) (by omega) rfl rfl fun bl b'' cap'' => ?_
      repeat (first | refine JL.q (by first | (apply OQ.move; exact rfl) | (apply OQ.assign; exact rfl) | (apply OQ.addN; exact rfl; exact rfl; exact (by (try simp only []); omega))) rfl ?_ | refine JC.region ?_ | refine JC.exit ?_ | refine JL.nil ?_ | refine JE.next ?_ | refine JE.then_exit ?_ | refine JE.blk_hit ?_)
      refine JE.again (i := (i, b', cap')) (i + 1, b'', cap'') (by show i + 1 ≤ 4; omega) (by show 4 - (i + 1) < 4 - i; omega) (by repeat (first | exact SubE.nil | refine SubE.cons _ _ _ rfl ?_)) (.keep _ _ _ _ _ _ (fun o h => ?_) (.nil _))
      dsimp only
      rw [eS, ← List.append_assoc, List.map_append]
      exact h
    · have hlt : ¬ g.l.length < i := of_decide_eq_false h
      clear h
      obtain ⟨hs1, hs2⟩ := hs hlt
      rw [← hs2] at eS
      repeat (first | refine JL.q (by first | (apply OQ.and32 (b := 63#32); exact rfl; exact rfl) | (apply OQ.idxZ (l := sgL); exact Tryz.underlying9; exact rfl; exact rfl; exact hs1) | (apply OQ.move; exact rfl) | (apply OQ.shr32; exact rfl; exact rfl) | (apply OQ.subN; exact rfl; exact rfl; exact (by (try simp only []); omega); exact (by (try simp only []); omega)) | (apply OQ.mulN; exact rfl; exact rfl; exact (by (try simp only []); omega))) rfl ?_ | refine JC.region ?_ | refine JC.skip ?_ | refine JE.next ?_)
      refine JL.push1 (xs := (xs ++ T).map U8) (fun b'' cap'' => [⟨b'', Sl.Own 5 1 (k + i + 1) cap'' ((xs ++ T).map U8 ++ [U8 (sgL.getD (nn >>> (6 * (3 - i)) &&& 63#32).toNat 0)]), true⟩]) Tryz.underlying22 u8e rfl rfl rfl rfl (fun _ => rfl) (by intro _ _; repeat (first | exact Repl.here | apply Repl.there)) (by omega) (by omega) rfl rfl fun bl b'' cap'' => ?_
      repeat (first | refine JL.q (by first | (apply OQ.move; exact rfl) | (apply OQ.assign; exact rfl) | (apply OQ.addN; exact rfl; exact rfl; exact (by (try simp only []); omega))) rfl ?_ | refine JC.region ?_ | refine JL.nil ?_ | refine JE.next ?_ | refine JE.blk_normal ?_)
      refine JE.again (i := (i, b', cap')) (i + 1, b'', cap'') (by show i + 1 ≤ 4; omega) (by show 4 - (i + 1) < 4 - i; omega) (by repeat (first | exact SubE.nil | refine SubE.cons _ _ _ rfl ?_)) (.keep _ _ _ _ _ _ (fun o h => ?_) (.nil _))
      dsimp only
      rw [eS, ← List.append_assoc, List.map_append]
      exact h
  · have hi' : ¬ i < 4 := of_decide_eq_false h
    obtain rfl : i = 4 := by omega
    clear h hi hi'
    repeat (first | refine JL.q (by first | (apply OQ.move; exact rfl) | (apply OQ.assign; exact rfl)) rfl ?_ | refine JC.seq ?_ | refine JC.region ?_ | refine JC.exit ?_ | refine JL.nil ?_ | refine JE.next ?_ | refine JE.then_exit ?_ | refine JE.blk_hit ?_)
    refine JC.ret (JE.ret1 rfl (RV.tmp rfl) ?_)
    exact fun w' hw => ⟨(b', cap'), rfl, hw⟩
theorem armU : szT Tryz.prog 22 = some 1 := by kernel_rfl
theorem armC : scal Tryz.prog 22 = true := by kernel_rfl
theorem row_cells {e : TypeId} {l : List Value} : ∀ o, Row e l o → o.isCells = true := by rintro o rfl; rfl
theorem own_cells {e : TypeId} {k cap : Nat} {l : List Value} : ∀ o, Sl.Own e 1 k cap l o → o.isCells = true := by rintro o ⟨_, rfl, _⟩; rfl
theorem snoc4 (s : Sl8) (k : Nat) (pre : List Nat) (j : Nat) : (pre ++ [j]).flatMap (fun j => sig4 (s.part k j).l) = pre.flatMap (fun j => sig4 (s.part k j).l) ++ sig4 (s.part k j).l := by simp
set_option maxHeartbeats 8000000 in
theorem encoded_any (s : Sl8) (w : World) (hs : s.ok w) (hl : s.l.length ≤ 100000) : Calls Tryz.prog 81 [s.v].toArray w
    fun e w' => ∃ x : Sl8, e = .returned x.v ∧ Ans x (encB s.l) ∧ Holds w [] x.ents w' := by
  have hp3 : parts s 3 ≤ 100000 := by unfold parts; omega
  refine enterM (n := 18) Tryz.func81 rfl rfl rfl (Holds.start w []) ?_
  repeat (first | refine JL.q (by first | (apply OQ.move; exact rfl) | (apply OQ.assign; exact rfl) | (apply OQ.len; exact rfl; exact rfl) | (apply OQ.addN; exact rfl; exact rfl; exact (by (try simp only []); omega)) | (apply OQ.mulN; exact rfl; exact rfl; exact (by (try simp only []); omega)) | (apply OQ.quoN; exact rfl; exact rfl; exact (by (try simp only []); omega); exact (by (try simp only []); omega))) rfl ?_ | refine JC.seq ?_ | refine JC.region ?_ | refine JL.nil ?_ | refine JE.next ?_)
  refine JL.make0 (c := (s.l.length / 3 + 1) * 4) Tryz.underlying22 u8e rfl rfl (by omega) rfl fun b _ => ?_
  refine JL.alloc (r := [.slice none 0 0]) (by kernel_rfl) rfl fun tb _ => ?_
  refine JL.store_eq (r' := [.slice (some ⟨b, 0, none⟩) 0 ((s.l.length / 3 + 1) * 4)]) (M' := [⟨tb, Row 22 [.slice (some ⟨b, 0, none⟩) 0 ((s.l.length / 3 + 1) * 4)], true⟩, ⟨b, Sl.Own 5 1 0 ((s.l.length / 3 + 1) * 4) [], true⟩]) armU rfl rfl rfl rfl .here (by decide) rfl ?_
  repeat (first | refine JL.q (by (apply OQ.move; exact rfl)) rfl ?_ | refine JC.seq ?_ | refine JC.region ?_ | refine JL.nil ?_ | refine JE.next ?_)
  refine JL.callg (ι := Nat × Nat) (fun q => .func (.func 114) #[] #[Pt q.1 0, Pt q.2 0]) (fun q => [⟨q.2, Row 3 [N 3], true⟩, ⟨q.1, Row 22 [s.v], true⟩]) goes_groups rfl rfl (by rintro q e he; simp at he; rcases he with rfl | rfl <;> rfl) (fun w' _ => groups_any s 3 w') ?_
  rintro ⟨b1, b2⟩
  dsimp only
  repeat (first | refine JC.block ?_ | refine JL.nil ?_ | refine JE.next ?_)
  refine JC.range (ι := Nat × Nat × List Nat) (fun j => (s.part 3 j).v) [b1, b2] (fun xs => xs = List.range (parts s 3)) (fun _ => True) (parts s 3)
    (fun q => [⟨b2, Row 3 [N 3], false⟩, ⟨b1, Row 22 [s.v], false⟩, ⟨tb, Row 22 [.slice (some ⟨q.1, 0, none⟩) (4 * q.2.2.length) q.2.1], true⟩, ⟨q.1, Sl.Own 5 1 (4 * q.2.2.length) q.2.1 ((q.2.2.flatMap fun j => sig4 (s.part 3 j).l).map U8), true⟩])
    (fun pre q => q.2.2 = pre) rfl (enters_of Tryz.func114 (by kernel_rfl) rfl) ?hseq ?hcell ?hL (b, (s.l.length / 3 + 1) * 4, []) rfl ?hM rfl rfl ?hbody ?hdone
  case hseq =>
    intro W hW
    obtain ⟨o1, h1, h1'⟩ := hW.get (b := b1) (A := Row 22 [s.v]) (wr := true) (by repeat (first | exact Has.here | apply Has.there))
    obtain ⟨o2, h2, h2'⟩ := hW.get (b := b2) (A := Row 3 [N 3]) (wr := true) (by repeat (first | exact Has.here | apply Has.there))
    exact groups_stops s 3 b1 b2 (by decide) hs.len (by omega) W h1 (Row.cell rfl _ h1') h2 (Row.cell rfl _ h2')
  case hcell =>
    rintro q e he o hA
    simp only [List.mem_cons, List.not_mem_nil, or_false] at he
    rcases he with rfl | rfl | rfl | rfl
    · exact row_cells o hA
    · exact row_cells o hA
    · exact row_cells o hA
    · exact own_cells o hA
  case hL =>
    intro q k hk
    simp only [List.mem_cons, List.not_mem_nil, or_false] at hk
    rcases hk with rfl | rfl
    · exact .inr ⟨_, (by repeat (first | exact Has.here | apply Has.there))⟩
    · exact .inr ⟨_, (by repeat (first | exact Has.here | apply Has.there))⟩
  case hM =>
    intro w' hw'
    exact hw'.weak2 (.keep _ _ _ _ _ _ _ (fun _ h => h) (by simp) (.keep _ _ _ _ _ _ _ (fun _ h => h) (by simp) (.keep _ _ _ _ _ _ _ (fun _ h => h) (by simp) (.keep _ _ _ _ _ _ _ (fun _ h => h) (by simp) (.nil _)))))
  case hbody =>
    rintro l pre j ⟨b', cap', pre'⟩ w1 rfl hlt hx hge
    dsimp only at hlt hge ⊢
    repeat (first | refine JL.q (by first | (apply OQ.load; exact armC; exact rfl; exact (by repeat (first | exact Has.here | apply Has.there)); exact (Row.cell rfl)) | (apply OQ.move; exact rfl)) rfl ?_ | refine JR.block ?_ | refine JR.region rfl (by first | with_reducible exact lo_roundQ | with_reducible exact lo_then lo_roundQ | with_reducible exact lo_blk lo_roundQ | with_reducible exact lo_then (lo_blk lo_roundQ) | with_reducible exact lo_roundX | with_reducible exact lo_then lo_roundX | with_reducible exact lo_blk lo_roundX | with_reducible exact lo_then (lo_blk lo_roundX) | with_reducible exact lo_then (lo_then (lo_blk lo_roundX))) ?_)
    refine JL.call (ι := Nat × Nat) (fun q => .slice (some ⟨q.1, 0, none⟩) (4 * pre'.length + 4) q.2) (fun q => [⟨b2, Row 3 [N 3], false⟩, ⟨b1, Row 22 [s.v], false⟩, ⟨tb, Row 22 [.slice (some ⟨b', 0, none⟩) (4 * pre'.length) cap'], true⟩, ⟨q.1, Sl.Own 5 1 (4 * pre'.length + 4) q.2 ((pre'.flatMap (fun j => sig4 (s.part 3 j).l) ++ sig4 (s.part 3 j).l).map U8), true⟩]) goes_addSigns rfl rfl ?_ ?_
    · intro w' hw'
      obtain ⟨o, ho, hA⟩ := hw'.get (b := b') (wr := true) (A := Sl.Own 5 1 (4 * pre'.length) cap' ((pre'.flatMap fun j => sig4 (s.part 3 j).l).map U8)) (by repeat (first | exact Has.here | apply Has.there))
      have hok := hs.ext (hw'.rebound hx hge)
      refine (addSigns_any b' _ cap' _ (s.part 3 j) w' (part_ok hok 3 j) (by show (List.take _ _).length ≤ 3; rw [List.length_take]; omega) ?_ ho hA (by omega)).mono ?_
      · intro hne a ha
        have := hge b' (by simp [wrs])
        have := part_block hs hne ha
        omega
      · rintro e w2 ⟨q, rfl, h2⟩
        exact ⟨q, rfl, hw'.relay (by repeat (first | exact Repl.here | apply Repl.there)) h2⟩
    rintro ⟨b'', cap''⟩
    dsimp only
    refine JL.store_eq (r' := [.slice (some ⟨b'', 0, none⟩) (4 * pre'.length + 4) cap'']) (M' := [⟨b2, Row 3 [N 3], false⟩, ⟨b1, Row 22 [s.v], false⟩, ⟨tb, Row 22 [.slice (some ⟨b'', 0, none⟩) (4 * pre'.length + 4) cap''], true⟩, ⟨b'', Sl.Own 5 1 (4 * pre'.length + 4) cap'' ((pre'.flatMap (fun j => sig4 (s.part 3 j).l) ++ sig4 (s.part 3 j).l).map U8), true⟩]) armU rfl rfl rfl rfl (by repeat (first | exact Upd.here | apply Upd.there)) (by simp) rfl ?_
    repeat (first | refine JL.nil ?_ | with_reducible refine JE.blk_normal ?_)
    refine JE.round (b'', cap'', pre' ++ [j]) rfl ?_
    dsimp only
    rw [snoc4, List.length_append, List.length_singleton, Nat.mul_add]
    exact Less.refl _
  case hdone =>
    rintro D xs ⟨b', cap', pre⟩ rfl rfl
    dsimp only
    have e : (List.range (parts s 3)).flatMap (fun j => sig4 (s.part 3 j).l) = encB s.l := fl_enc s.l
    rw [e, List.length_range]
    have e2 : 4 * parts s 3 = (encB s.l).length := by rw [encB_len]; unfold parts; omega
    rw [e2]
    repeat (first | refine KL.q (by first | (apply OQ.load; exact armC; exact rfl; exact (by repeat (first | exact Has.here | apply Has.there)); exact (Row.cell rfl)) | (apply OQ.assign; exact rfl)) rfl ?_ | refine KC.seq ?_ | refine KC.region ?_ | refine KL.nil ?_ | refine KE.next ?_ | refine KE.blk_normal ?_)
    refine KC.ret ?_
    refine KE.ret1 rfl rfl fun w' hw => ?_
    exact ⟨⟨some ⟨b', 0, none⟩, cap', encB s.l⟩, rfl, ⟨rfl, by simp⟩, hw.weak (.drop _ _ _ (.drop _ _ _ (.drop _ _ _ own_ents)))⟩
theorem aenc_any (s : Sl8) (w : World) (hs : s.ok w) (hl : s.l.length ≤ 20000) : Calls Tryz.prog 141 [s.v].toArray w fun e w' => e = .returned (Z (encB s.l)) ∧ Ext w w' := by
  refine enter (n := 6) Tryz.func141 rfl rfl rfl (Holds.start w []) ?_
  repeat (first | refine JL.q (by first | (apply OQ.move; exact rfl) | (apply OQ.assign; exact rfl)) rfl ?_ | refine JC.seq ?_ | refine JC.region ?_ | refine JL.nil ?_ | refine JE.next ?_)
  refine JL.callg (ι := { x : Sl8 // Ans x (encB s.l) }) (fun x => x.1.v) (fun x => x.1.ents) goes_encoded rfl rfl (fun x => x.1.ents_wr) (fun w' hw' => (encoded_any s w' (hs.holds hw' rfl) (by omega)).mono fun e w2 ⟨x, h1, h2, h3⟩ => ⟨⟨x, h2⟩, h1, h3⟩) ?_
  rintro ⟨x, hx⟩
  dsimp only
  repeat (first | refine JL.q (by first | (apply OQ.b2s; exact Tryz.underlying22; exact Tryz.underlying5; exact Tryz.underlying9; exact rfl; exact (fun w' hw' => hx.ok hw')) | (apply OQ.assign; exact rfl)) rfl ?_ | refine JL.nil ?_ | refine JE.next ?_)
  refine JC.ret (JE.ret1 rfl (RV.tmp rfl) ?_)
  exact fun w' hw => ⟨by rw [hx.val], hw.chg⟩
end Go.Proofs.YtbbmhkdfdgnkpaaGreatDoor

/-
  Of no statement by itself: armor's addBytes (and strings.IndexByte, by its bodies and the model's own entry).
  Conditions: each theorem's own.
-/
namespace Go.Proofs.YtbbmhkdfdgnkpaaGreatDoor
set_option maxRecDepth 10000
open Sl Arm
/-! ### strings.IndexByte -/
def ix (c : Bt) : Int := firstIdx (strB sgL) (c.toNat : Int).toNat.toUInt8
theorem ix_is (c : Bt) : max 0 (ix c) = (pl c : Int) := by
  have h : ∀ c : Fin 256, max 0 (ix (BitVec.ofNat 8 c.val)) = (pl (BitVec.ofNat 8 c.val) : Int) := by decide +kernel
  have := h ⟨c.toNat, c.isLt⟩
  simpa using this
structure IsIdx (P : Program) (f : FuncId) : Prop where
  go : ∃ fn, P.funcs[f]? = some fn ∧ (fn.name == "runtime.NumGoroutine") = false ∧ fn.body.isNone = true ∧ Extern.findNext fn = none ∧ Extern.find fn = some Extern.BytealgIndexByte.indexByte
theorem OQ.idxb {P : Program} {n : Nat} {E : Env} {C : World → Prop} {dst : Option Tmp} {ty : TypeId} {pos : String} {aft : Array Edge} {g : Option (Nat × Bool)} {f : FuncId} {ats : Array TypeId} {x y : Operand} {c : Bt} (hf : IsIdx P f) (hx : ev E x = some (Z sgL)) (hy : ev E y = some (U8 c)) :
    OQ P n E C ⟨dst, .call ⟨.value (.func f), #[x, y], ats⟩, ty, pos, aft, g⟩ (.int .i64 (ix c)) := by
  refine ⟨fun ac hk w hw => ?_⟩
  obtain ⟨fn, h1, h2, h3, h4, h5⟩ := hf.go
  have r := run_callFunc_extern h1 h2 h3 h4 h5 #[Z sgL, U8 c] w
  rw [run_indexByte_string] at r
  unfold Oper.quietAt
  have r' : (execOp ac.eval ⟨dst, .call ⟨.value (.func f), #[x, y], ats⟩, ty, pos, aft, g⟩).run P w = .ok (.value (.int .i64 (ix c))) w := by
    simp only [Result.andThen] at r
    have k1 := hk.eval hx
    have k2 := hk.eval hy
    have e : (.ok (.value (.int .i64 (ix c))) w : Result Next) = (callFunc f #[Z sgL, U8 c]).run P w := r.symm
    rw [e]
    simp [execOp, resolve, Sem.run_bind, Act.eval, Deferred.ofValue, invoke, k1, k2]
    simp [Act.eval] at k1 k2
    simp [k1, k2]
  rw [r']
  exact ⟨rfl, rfl⟩
theorem is_idx : IsIdx Tryz.prog 73 := ⟨_, Tryz.func73, rfl, rfl, by kernel_rfl, by kernel_rfl⟩
theorem goes_idx1 : Goes Tryz.prog 52 := ⟨_, Tryz.func52, rfl, by kernel_rfl⟩
theorem goes_idx2 : Goes Tryz.prog 36 := ⟨_, Tryz.func36, rfl, by kernel_rfl⟩
theorem idx1_any (c : Bt) (w : World) : Calls Tryz.prog 52 [Z sgL, U8 c].toArray w fun e w' => e = .returned (.int .i64 (ix c)) ∧ Ext w w' := by
  refine enter (n := 8) Tryz.func52 rfl rfl rfl (Holds.start w []) ?_
  repeat (first | refine JL.q (by first | (apply OQ.idxb; exact is_idx; exact rfl; exact rfl) | (apply OQ.move; exact rfl) | (apply OQ.assign; exact rfl)) rfl ?_ | refine JC.seq ?_ | refine JC.region ?_ | refine JL.nil ?_ | refine JE.next ?_)
  exact JC.ret (JE.ret1 rfl (RV.tmp rfl) fun w' hw => ⟨rfl, hw.chg⟩)
theorem idx2_any (c : Bt) (w : World) : Calls Tryz.prog 36 [Z sgL, U8 c].toArray w fun e w' => e = .returned (.int .i64 (ix c)) ∧ Ext w w' := by
  refine enter (n := 8) Tryz.func36 rfl rfl rfl (Holds.start w []) ?_
  repeat (first | refine JL.q (by first | (apply OQ.callx; exact goes_idx1; exact rfl; exact (fun w' _ => idx1_any c w')) | (apply OQ.move; exact rfl) | (apply OQ.assign; exact rfl)) rfl ?_ | refine JC.seq ?_ | refine JC.region ?_ | refine JL.nil ?_ | refine JE.next ?_)
  exact JC.ret (JE.ret1 rfl (RV.tmp rfl) fun w' hw => ⟨rfl, hw.chg⟩)
/-! ### addBytes -/
theorem OQ.maxP {P : Program} {n : Nat} {E : Env} {C : World → Prop} {dst : Option Tmp} {ty t t' : TypeId} {pos : String} {aft : Array Edge} {g : Option (Nat × Bool)} {x y : Operand} {c : Int} {m : Nat} (hx : ev E x = some (.int .i64 0)) (hy : ev E y = some (.int .i64 c)) (h : max 0 c = (m : Int)) : OQ P n E C ⟨dst, .call ⟨.builtin .max, #[x, y], #[t, t']⟩, ty, pos, aft, g⟩ (N m) :=
  OQ.to (OQ.maxI hx hy) (by rw [h])
theorem lead_nil : lead [] = 0 := rfl
theorem lead_cons (c : Arm.By) (g : List Arm.By) : lead (c :: g) = if c = 61 then 0 else lead g + 1 := by
  unfold lead
  rw [List.takeWhile_cons]
  by_cases hc : c = 61
  · rw [if_pos hc, hc]; rfl
  · rw [if_neg hc, if_pos (bne_iff_ne.2 hc)]; rfl
theorem lead_le : ∀ g : List Arm.By, lead g ≤ g.length
  | [] => Nat.zero_le _
  | c :: g => by
    rw [lead_cons, List.length_cons]
    have := lead_le g
    split <;> omega
theorem lead_ne : ∀ (g : List Arm.By) {i : Nat}, i < lead g → g.getD i 0 ≠ 61
  | [], i, h => by rw [lead_nil] at h; omega
  | c :: g, i, h => by
    rw [lead_cons] at h
    by_cases hc : c = 61
    · rw [if_pos hc] at h; omega
    · rw [if_neg hc] at h
      cases i with
      | zero => simpa using hc
      | succ i =>
        rw [List.getD_cons_succ]
        exact lead_ne g (by omega)
theorem lead_eq : ∀ (g : List Arm.By), lead g < g.length → g.getD (lead g) 0 = 61
  | [], h => by simp at h
  | c :: g, h => by
    rw [lead_cons] at h ⊢
    by_cases hc : c = 61
    · rw [if_pos hc]; simpa using hc
    · rw [if_neg hc] at h ⊢
      rw [List.getD_cons_succ]
      exact lead_eq g (by rw [List.length_cons] at h; omega)
theorem goes_addBytes : Goes Tryz.prog 140 := ⟨_, Tryz.func140, rfl, by kernel_rfl⟩
theorem dec4_len (g : List Arm.By) : (dec4 g).length = lead g - 1 := by simp [dec4]
theorem dec4_take (g : List Arm.By) (h4 : g.length ≤ 4) {i : Nat} (h : i < lead g - 1) : (dec4 g).take (i + 1) = (dec4 g).take i ++ [(BitVec.ofNat 32 (acc g (lead g)) >>> (8 * (2 - i))).setWidth 8] := by
  have hl := lead_le g
  rw [take_one _ 0 (by rw [dec4_len]; exact h), byte_bits (by have := (Arm.acc_ok g (i := lead g) (by omega)).1; omega)]
  congr 2
  simp [dec4, List.getD_eq_getElem?_getD, h]
set_option maxHeartbeats 8000000 in
theorem addBytes_any (b k cap : Nat) (xs : List Bt) (g : Sl8) (w : World) (hg : g.ok w) (h4 : g.l.length ≤ 4) (hne : g.l ≠ [] → ∀ a, g.ad = some a → a.block ≠ b) {o : Obj} (ho : w.heap[b]? = some o) (hA : Sl.Own 5 1 k cap (xs.map U8) o) (hk : k ≤ 1000000000) :
    Calls Tryz.prog 140 [.slice (some ⟨b, 0, none⟩) k cap, g.v].toArray w fun e w' => ∃ q : Nat × Nat, e = .returned (.slice (some ⟨q.1, 0, none⟩) (k + (dec4 g.l).length) q.2) ∧ Holds w [b] [⟨q.1, Sl.Own 5 1 (k + (dec4 g.l).length) q.2 ((xs ++ dec4 g.l).map U8), true⟩] w' := by
  refine enter (n := 49) Tryz.func140 rfl rfl rfl (Holds.one ho hA) ?_
  have hl := lead_le g.l
  repeat (first | refine JL.q (by first | (apply OQ.move; exact rfl) | (apply OQ.assign; exact rfl) | (apply OQ.len; exact rfl; exact rfl)) rfl ?_ | refine JC.seq ?_ | refine JC.region ?_ | refine JC.block ?_ | refine JL.nil ?_ | refine JE.next ?_)
  refine JC.joinB (ι := Unit) (fun _ => [(0, .slice (some ⟨b, 0, none⟩) k cap), (5, U32 (BitVec.ofNat 32 (acc g.l (lead g.l)))), (6, I ((lead g.l : Int) - 1))]) (fun _ => [⟨b, Sl.Own 5 1 k cap (xs.map U8), true⟩]) (fun _ => True) ?_ ?_
  · refine JC.loop (fun i : Nat => [(0, .slice (some ⟨b, 0, none⟩) k cap), (11, g.v), (12, N g.l.length), (13, N i), (5, U32 (BitVec.ofNat 32 (acc g.l i))), (6, I ((i : Int) - 1))])
      (fun _ => [⟨b, Sl.Own 5 1 k cap (xs.map U8), true⟩]) (fun i => lead g.l + 1 - i) (fun i => i ≤ lead g.l) 0 (Nat.zero_le _) (by repeat (first | exact SubE.nil | refine SubE.cons _ _ _ rfl ?_)) (Less.refl _) ?_
    intro i hi
    repeat (first | refine JL.q (by (apply OQ.lssN; exact rfl; exact rfl)) rfl ?_ | refine JC.seq ?_ | refine JC.region ?_ | refine JL.nil ?_ | refine JE.next ?_)
    refine JC.cond rfl (fun h => ?_) (fun h => ?_)
    · have hi' : i < g.l.length := of_decide_eq_true h
      clear h
      obtain ⟨ba, ja, hae, hca⟩ := hg.reads.at (by simp; omega)
      have hc := hca i _ (map_at U8 0 hi')
      have hbn : ba ≠ b := hne (List.length_pos_iff.1 (by omega)) ⟨ba, ja, none⟩ hae
      have hav : g.v = .slice (some ⟨ba, ja, none⟩) g.l.length g.cap := by rw [← hae]; rfl
      have h61 : i < lead g.l ↔ ¬ g.l.getD i 0 = 61 := ⟨fun h => lead_ne g.l h, fun h => Nat.lt_of_le_of_ne hi fun e => h (by rw [e]; exact lead_eq g.l (by omega))⟩
      have hacc := acc_bits g.l (i := i) (by omega)
      have hix := ix_is (g.l.getD i 0)
      generalize g.l.getD i 0 = c at hc h61 hacc hix
      rw [hav]
      repeat (first | refine JL.q (by first | (apply OQ.idxS1; exact Tryz.underlying22; exact u8s; exact rfl; exact rfl; exact hi') | (apply OQ.load_old; exact u8c; exact rfl; exact (block_lt_of_cell hc); exact (by simpa using hbn); exact hc) | (apply OQ.eq8 (b := 61#8); exact rfl; exact rfl) | (apply OQ.move; exact rfl) | (apply OQ.assign; exact rfl)) rfl ?_ | refine JC.seq ?_ | refine JC.region ?_ | refine JC.block ?_ | refine JC.skip ?_ | refine JL.nil ?_ | refine JE.next ?_)
      refine JC.cond rfl (fun h => ?_) (fun h => ?_)
      · have hc61 : c = 61 := of_decide_eq_true h
        have hil : i = lead g.l := by
          have := mt h61.1 (by simpa using hc61)
          omega
        subst hil
        repeat (first | refine JC.exit ?_ | refine JE.then_exit ?_ | refine JE.blk_hit ?_ | refine JE.blk_miss rfl ?_)
        exact JE.mid () trivial (by repeat (first | exact SubE.nil | refine SubE.cons _ _ _ rfl ?_)) (Less.refl _)
      · have hc61 : ¬ c = 61 := of_decide_eq_false h
        have hil := h61.2 hc61
        repeat (first | refine JL.q (by first | (apply OQ.callx (vs := [Z sgL, U8 c]); exact goes_idx2; exact rfl; exact (fun w' _ => idx2_any c w')) | (apply OQ.convN_32; exact rfl; exact rfl; exact rfl) | (apply OQ.maxP; exact rfl; exact rfl; exact hix) | (apply OQ.shl32 (k := 6 * (3 - i)); exact rfl; exact rfl) | (apply OQ.addI (b := 1); exact rfl; exact rfl; exact (by omega); exact (by omega)) | (apply OQ.move; exact rfl) | (apply OQ.assign; exact rfl) | (apply OQ.or32; exact rfl; exact rfl) | (apply OQ.subN; exact rfl; exact rfl; exact (by (try simp only []); omega); exact (by (try simp only []); omega)) | (apply OQ.mulN; exact rfl; exact rfl; exact (by (try simp only []); omega))) rfl ?_ | refine JC.seq ?_ | refine JC.region ?_ | refine JC.skip ?_ | refine JL.nil ?_ | refine JE.next ?_ | refine JE.blk_normal ?_)
        rw [hacc]
        refine JE.again (i := i) (i + 1) hil (by show lead g.l + 1 - (i + 1) < lead g.l + 1 - i; omega) ?_ (Less.refl _)
        rw [show (((i + 1 : Nat) : Int) - 1) = (i : Int) - 1 + 1 by omega]
        exact (by repeat (first | exact SubE.nil | refine SubE.cons _ _ _ rfl ?_))
    · have hi' : ¬ i < g.l.length := of_decide_eq_false h
      have hil : i = lead g.l := by omega
      subst hil
      repeat (first | refine JC.exit ?_ | refine JE.then_exit ?_ | refine JE.blk_hit ?_)
      exact JE.mid () trivial (by repeat (first | exact SubE.nil | refine SubE.cons _ _ _ rfl ?_)) (Less.refl _)
  intro _ _
  have hT : lead g.l ≤ 4 := by omega
  have htk := fun {i : Nat} (h : i < lead g.l - 1) => dec4_take g.l h4 h
  have hdl := dec4_len g.l
  generalize lead g.l = t at hT htk hdl ⊢
  generalize BitVec.ofNat 32 (acc g.l t) = nn at htk ⊢
  repeat (first | refine JL.q (by (apply OQ.move; exact rfl)) rfl ?_ | refine JC.seq ?_ | refine JC.region ?_ | refine JC.block ?_ | refine JL.nil ?_ | refine JE.next ?_)
  refine JC.loop (fun q : Nat × Nat × Nat => [(0, .slice (some ⟨q.2.1, 0, none⟩) (k + q.1) q.2.2), (5, U32 nn), (34, I ((t : Int) - 1)), (35, N q.1)])
    (fun q => [⟨q.2.1, Sl.Own 5 1 (k + q.1) q.2.2 ((xs ++ (dec4 g.l).take q.1).map U8), true⟩])
    (fun q => 4 - q.1) (fun q => q.1 ≤ t - 1) (0, b, cap) (Nat.zero_le _) (by repeat (first | exact SubE.nil | refine SubE.cons _ _ _ rfl ?_)) (.keep _ _ _ _ _ _ (fun o h => by simpa using h) (.nil _)) ?_
  rintro ⟨i, b', cap'⟩ hi
  simp only at hi
  dsimp only
  repeat (first | refine JL.q (by (apply OQ.lssI (b := (t : Int) - 1); exact rfl; exact rfl)) rfl ?_ | refine JC.seq ?_ | refine JC.region ?_ | refine JL.nil ?_ | refine JE.next ?_)
  refine JC.cond rfl (fun h => ?_) (fun h => ?_)
  · have hi0 : (i : Int) < (t : Int) - 1 := of_decide_eq_true h
    have hi' : i < t - 1 := by omega
    clear h hi hi0
    have eS := htk hi'
    generalize (dec4 g.l).take i = T at eS ⊢
    repeat (first | refine JL.q (by first | (apply OQ.shr32 (k := 8 * (2 - i)); exact rfl; exact rfl) | (apply OQ.move; exact rfl) | (apply OQ.assign; exact rfl) | (apply OQ.subN; exact rfl; exact rfl; exact (by (try simp only []); omega); exact (by (try simp only []); omega)) | (apply OQ.mulN; exact rfl; exact rfl; exact (by (try simp only []); omega)) | (apply OQ.conv32_8; exact rfl; exact rfl; exact rfl)) rfl ?_ | refine JC.seq ?_ | refine JC.region ?_ | refine JC.block ?_ | refine JC.skip ?_ | refine JL.nil ?_ | refine JE.next ?_)
    refine JL.push1 (xs := (xs ++ T).map U8) (fun b'' cap'' => [⟨b'', Sl.Own 5 1 (k + i + 1) cap'' ((xs ++ T).map U8 ++ [U8 ((nn >>> (8 * (2 - i))).setWidth 8)]), true⟩]) Tryz.underlying22 u8e rfl rfl rfl rfl (fun _ => rfl) (by intro _ _; repeat (first | exact Repl.here | apply Repl.there)) (by omega) (by omega) rfl rfl fun bl b'' cap'' => ?_
    repeat (first | refine JL.q (by first | (apply OQ.move; exact rfl) | (apply OQ.assign; exact rfl) | (apply OQ.addN; exact rfl; exact rfl; exact (by (try simp only []); omega))) rfl ?_ | refine JC.region ?_ | refine JL.nil ?_ | refine JE.next ?_ | refine JE.blk_normal ?_)
    refine JE.again (i := (i, b', cap')) (i + 1, b'', cap'') hi' (by show 4 - (i + 1) < 4 - i; omega) (by repeat (first | exact SubE.nil | refine SubE.cons _ _ _ rfl ?_)) (.keep _ _ _ _ _ _ (fun o h => ?_) (.nil _))
    dsimp only
    rw [eS, ← List.append_assoc, List.map_append]
    exact h
  · have hi0 : ¬ (i : Int) < (t : Int) - 1 := of_decide_eq_false h
    obtain rfl : i = t - 1 := by omega
    clear h hi hi0
    rw [List.take_of_length_le (by omega), ← hdl]
    repeat (first | refine JL.q (by first | (apply OQ.move; exact rfl) | (apply OQ.assign; exact rfl)) rfl ?_ | refine JC.seq ?_ | refine JC.region ?_ | refine JC.exit ?_ | refine JL.nil ?_ | refine JE.next ?_ | refine JE.then_exit ?_ | refine JE.blk_hit ?_)
    refine JC.ret (JE.ret1 rfl (RV.tmp rfl) ?_)
    exact fun w' hw => ⟨(b', cap'), rfl, hw⟩
end Go.Proofs.YtbbmhkdfdgnkpaaGreatDoor

/-
  Of no statement by itself: armor's Decode, Lines, blank and Read.
  Conditions: each theorem's own.
-/
namespace Go.Proofs.YtbbmhkdfdgnkpaaGreatDoor
set_option maxRecDepth 10000
open Sl Arm
theorem goes_adec : Goes Tryz.prog 105 := ⟨_, Tryz.func105, rfl, by kernel_rfl⟩
theorem goes_alines : Goes Tryz.prog 61 := ⟨_, Tryz.func61, rfl, by kernel_rfl⟩
theorem goes_aread : Goes Tryz.prog 69 := ⟨_, Tryz.func69, rfl, by kernel_rfl⟩
theorem goes_ablank : Goes Tryz.prog 104 := ⟨_, Tryz.func104, rfl, by kernel_rfl⟩
theorem flat_len (F : List Arm.By → List Arm.By) (s : Sl8) (k m : Nat) (hF : ∀ g, g.length ≤ k → (F g).length ≤ m) : ∀ pre : List Nat, (pre.flatMap fun j => F (s.part k j).l).length ≤ m * pre.length
  | [] => by simp
  | j :: pre => by
    have ih := flat_len F s k m hF pre
    have h := hF (s.part k j).l (by show (List.take _ _).length ≤ k; rw [List.length_take]; omega)
    rw [List.flatMap_cons, List.length_append, List.length_cons, Nat.mul_add]
    omega
theorem snocF (F : List Arm.By → List Arm.By) (s : Sl8) (k : Nat) (pre : List Nat) (j : Nat) : (pre ++ [j]).flatMap (fun j => F (s.part k j).l) = pre.flatMap (fun j => F (s.part k j).l) ++ F (s.part k j).l := by simp
theorem ents_cells {s : Sl8} : ∀ e ∈ s.ents, ∀ o, e.A o → o.isCells = true := by
  intro e he o hA
  unfold Sl8.ents at he
  split at he
  · simp only [List.mem_singleton] at he
    subst he
    obtain ⟨⟨_, _, _, rfl, _⟩, _⟩ := hA
    rfl
  · cases he
theorem Less2.refl : ∀ M, Less2 M M
  | [] => .nil _
  | ⟨_, _, _⟩ :: M => .keep _ _ _ _ _ _ _ (fun _ h => h) (fun h => h) (Less2.refl M)
set_option maxHeartbeats 8000000 in
theorem adec_any (s : List Arm.By) (w : World) (hl : s.length ≤ 20000) : Calls Tryz.prog 105 [Z s].toArray w
    fun e w' => ∃ x : Sl8, e = .returned (.tuple #[x.v, N (ecode (decB s))]) ∧ Ans x ((decB s).getD []) ∧ Holds w [] x.ents w' := by
  refine enterM (n := 23) Tryz.func105 rfl rfl rfl (Holds.start w []) ?_
  repeat (first | refine JL.q (by first | (apply OQ.lenS; exact Tryz.underlying9; exact rfl) | (apply OQ.move; exact rfl) | (apply OQ.assign; exact rfl) | (apply OQ.mulN; exact rfl; exact rfl; exact (by (try simp only []); omega)) | (apply OQ.quoN; exact rfl; exact rfl; exact (by (try simp only []); omega); exact (by (try simp only []); omega))) rfl ?_ | refine JC.seq ?_ | refine JC.region ?_ | refine JL.nil ?_ | refine JE.next ?_)
  refine JL.make0 (c := s.length / 4 * 3) Tryz.underlying22 u8e rfl rfl (by omega) rfl fun b _ => ?_
  refine JL.alloc (r := [.slice none 0 0]) (by kernel_rfl) rfl fun tb _ => ?_
  refine JL.store_eq (r' := [.slice (some ⟨b, 0, none⟩) 0 (s.length / 4 * 3)]) (M' := [⟨tb, Row 22 [.slice (some ⟨b, 0, none⟩) 0 (s.length / 4 * 3)], true⟩, ⟨b, Sl.Own 5 1 0 (s.length / 4 * 3) [], true⟩]) armU rfl rfl rfl rfl .here (by simp) rfl ?_
  repeat (first | refine JL.q (by (apply OQ.move; exact rfl)) rfl ?_ | refine JC.seq ?_ | refine JC.region ?_ | refine JL.nil ?_ | refine JE.next ?_)
  refine JL.s2b (s := strB s) Tryz.underlying9 Tryz.underlying22 Tryz.underlying5 rfl rfl fun bb capB => ?_
  rw [bytesOf_strB]
  refine JL.callg (vs := [Sl8.v ⟨some ⟨bb, 0, none⟩, capB, s⟩, N 4]) (ι := Nat × Nat) (fun q => .func (.func 114) #[] #[Pt q.1 0, Pt q.2 0]) (fun q => [⟨q.2, Row 3 [N 4], true⟩, ⟨q.1, Row 22 [Sl8.v ⟨some ⟨bb, 0, none⟩, capB, s⟩], true⟩]) goes_groups rfl rfl (by rintro q e he; simp at he; rcases he with rfl | rfl <;> rfl) (fun w' _ => groups_any _ 4 w') ?_
  rintro ⟨b1, b2⟩
  dsimp only
  have hok : ∀ {w0 w' : World} {S : List Nat} {M : List Ent}, Holds w0 S M w' → Has M bb (fun o => hasCells o 0 (s.map U8) ∧ s.length ≤ capB ∧ (none : Option Nat) = none) true → Sl8.ok w' ⟨some ⟨bb, 0, none⟩, capB, s⟩ := fun hw' hM => by
    obtain ⟨o, ho, h1, h2, _⟩ := hw'.get hM
    exact ⟨h2, Reads.block ho h1⟩
  have hlen : (⟨some ⟨bb, 0, none⟩, capB, s⟩ : Sl8).l = s := rfl
  have hpb : ∀ j a, ((⟨some ⟨bb, 0, none⟩, capB, s⟩ : Sl8).part 4 j).ad = some a → a.block = bb := fun j a ha => by
    have ha : (if capB = 4 * j then some (⟨bb, 0, none⟩ : Addr) else some ((⟨bb, 0, none⟩ : Addr).add (4 * j * 1))) = some a := ha
    split at ha
    · cases ha; rfl
    · rw [add_off] at ha; cases ha; rfl
  have hparts : parts ⟨some ⟨bb, 0, none⟩, capB, s⟩ 4 = (s.length + 4 - 1) / 4 := rfl
  have hfl := flat_len dec4 ⟨some ⟨bb, 0, none⟩, capB, s⟩ 4 3 (fun g hg => by rw [dec4_len]; have := lead_le g; omega)
  have hall : (List.range (parts ⟨some ⟨bb, 0, none⟩, capB, s⟩ 4)).flatMap (fun j => dec4 ((⟨some ⟨bb, 0, none⟩, capB, s⟩ : Sl8).part 4 j).l) = fl 4 dec4 s := rfl
  have hsn := snocF dec4 ⟨some ⟨bb, 0, none⟩, capB, s⟩ 4
  have h4 : ∀ j, ((⟨some ⟨bb, 0, none⟩, capB, s⟩ : Sl8).part 4 j).l.length ≤ 4 := fun j => by show (List.take _ _).length ≤ 4; rw [List.length_take]; omega
  have hpo := fun (w' : World) (h : Sl8.ok w' ⟨some ⟨bb, 0, none⟩, capB, s⟩) (j : Nat) => part_ok h 4 j
  have hgs := groups_stops ⟨some ⟨bb, 0, none⟩, capB, s⟩ 4 b1 b2 (by decide)
  have hents : (⟨some ⟨bb, 0, none⟩, capB, s⟩ : Sl8).ents = [⟨bb, fun o => hasCells o 0 (s.map U8) ∧ s.length ≤ capB ∧ (none : Option Nat) = none, true⟩] := rfl
  rw [hents]
  generalize hsrc : (⟨some ⟨bb, 0, none⟩, capB, s⟩ : Sl8) = src at hpb hok hfl hall hsn h4 hpo hgs hparts hlen ⊢
  repeat (first | refine JC.block ?_ | refine JL.nil ?_ | refine JE.next ?_)
  refine JC.range (ι := Nat × Nat × List Nat) (fun j => (src.part 4 j).v) [b1, b2] (fun xs => xs = List.range (parts src 4)) (fun _ => True) (parts src 4)
    (fun q => [⟨b2, Row 3 [N 4], false⟩, ⟨b1, Row 22 [src.v], false⟩, ⟨bb, fun o => hasCells o 0 (s.map U8) ∧ s.length ≤ capB ∧ (none : Option Nat) = none, true⟩, ⟨tb, Row 22 [.slice (some ⟨q.1, 0, none⟩) (q.2.2.flatMap fun j => dec4 (src.part 4 j).l).length q.2.1], true⟩, ⟨q.1, Sl.Own 5 1 (q.2.2.flatMap fun j => dec4 (src.part 4 j).l).length q.2.1 ((q.2.2.flatMap fun j => dec4 (src.part 4 j).l).map U8), true⟩])
    (fun pre q => q.2.2 = pre) rfl (enters_of Tryz.func114 (by kernel_rfl) rfl) ?hseq ?hcell ?hL (b, s.length / 4 * 3, []) rfl ?hM rfl rfl ?hbody ?hdone
  case hseq =>
    intro W hW
    obtain ⟨o1, h1, h1'⟩ := hW.get (b := b1) (A := Row 22 [src.v]) (wr := true) (by repeat (first | exact Has.here | apply Has.there))
    obtain ⟨o2, h2, h2'⟩ := hW.get (b := b2) (A := Row 3 [N 4]) (wr := true) (by repeat (first | exact Has.here | apply Has.there))
    exact hgs (hok hW (by repeat (first | exact Has.here | apply Has.there))).len (by rw [hlen]; omega) W h1 (Row.cell rfl _ h1') h2 (Row.cell rfl _ h2')
  case hcell =>
    rintro q e he o hA
    simp only [List.mem_cons, List.not_mem_nil, or_false] at he
    rcases he with rfl | rfl | rfl | rfl | rfl
    · exact row_cells o hA
    · exact row_cells o hA
    · obtain ⟨⟨_, _, _, rfl, _⟩, _⟩ := hA
      rfl
    · exact row_cells o hA
    · exact own_cells o hA
  case hL =>
    intro q k hk
    simp only [List.mem_cons, List.not_mem_nil, or_false] at hk
    rcases hk with rfl | rfl
    · exact .inr ⟨_, (by repeat (first | exact Has.here | apply Has.there))⟩
    · exact .inr ⟨_, (by repeat (first | exact Has.here | apply Has.there))⟩
  case hM =>
    intro w' hw'
    exact hw'.weak2 (.keep _ _ _ _ _ _ _ (fun _ h => h) (by simp) (.keep _ _ _ _ _ _ _ (fun _ h => h) (by simp) (Less2.refl _)))
  case hbody =>
    rintro l pre j ⟨b', cap', pre'⟩ w1 rfl hlt hx hge
    dsimp only at hlt hge ⊢
    have hb := hfl pre'
    have hsn' := hsn pre' j
    generalize pre'.flatMap (fun j => dec4 (src.part 4 j).l) = T at hb hsn' ⊢
    repeat (first | refine JL.q (by first | (apply OQ.load; exact armC; exact rfl; exact (by repeat (first | exact Has.here | apply Has.there)); exact (Row.cell rfl)) | (apply OQ.move; exact rfl)) rfl ?_ | refine JR.block ?_ | refine JR.region rfl (by first | with_reducible exact lo_roundQ | with_reducible exact lo_then lo_roundQ | with_reducible exact lo_blk lo_roundQ | with_reducible exact lo_then (lo_blk lo_roundQ) | with_reducible exact lo_roundX | with_reducible exact lo_then lo_roundX | with_reducible exact lo_blk lo_roundX | with_reducible exact lo_then (lo_blk lo_roundX) | with_reducible exact lo_then (lo_then (lo_blk lo_roundX))) ?_)
    refine JL.call (ι := Nat × Nat) (fun q => .slice (some ⟨q.1, 0, none⟩) (T.length + (dec4 (src.part 4 j).l).length) q.2) (fun q => [⟨b2, Row 3 [N 4], false⟩, ⟨b1, Row 22 [src.v], false⟩, ⟨bb, fun o => hasCells o 0 (s.map U8) ∧ s.length ≤ capB ∧ (none : Option Nat) = none, true⟩, ⟨tb, Row 22 [.slice (some ⟨b', 0, none⟩) T.length cap'], true⟩, ⟨q.1, Sl.Own 5 1 (T.length + (dec4 (src.part 4 j).l).length) q.2 ((T ++ dec4 (src.part 4 j).l).map U8), true⟩]) goes_addBytes rfl rfl ?_ ?_
    · intro w' hw'
      obtain ⟨o, ho, hA⟩ := hw'.get (b := b') (wr := true) (A := Sl.Own 5 1 T.length cap' (T.map U8)) (by repeat (first | exact Has.here | apply Has.there))
      refine (addBytes_any b' _ cap' _ (src.part 4 j) w' (hpo w' (hok hw' (by repeat (first | exact Has.here | apply Has.there))) j) (h4 j) ?_ ho hA (by omega)).mono ?_
      · intro hne a ha
        rw [hpb j a ha]
        have := hw'.nodup
        simp only [List.map_cons, List.map_nil, List.nodup_cons, List.mem_cons, List.not_mem_nil, or_false, not_or] at this
        exact this.2.2.1.2
      · rintro e w2 ⟨q, rfl, h2⟩
        exact ⟨q, rfl, hw'.relay (by repeat (first | exact Repl.here | apply Repl.there)) h2⟩
    rintro ⟨b'', cap''⟩
    dsimp only
    refine JL.store_eq (r' := [.slice (some ⟨b'', 0, none⟩) (T.length + (dec4 (src.part 4 j).l).length) cap'']) (M' := [⟨b2, Row 3 [N 4], false⟩, ⟨b1, Row 22 [src.v], false⟩, ⟨bb, fun o => hasCells o 0 (s.map U8) ∧ s.length ≤ capB ∧ (none : Option Nat) = none, true⟩, ⟨tb, Row 22 [.slice (some ⟨b'', 0, none⟩) (T.length + (dec4 (src.part 4 j).l).length) cap''], true⟩, ⟨b'', Sl.Own 5 1 (T.length + (dec4 (src.part 4 j).l).length) cap'' ((T ++ dec4 (src.part 4 j).l).map U8), true⟩]) armU rfl rfl rfl rfl (by repeat (first | exact Upd.here | apply Upd.there)) (by simp) rfl ?_
    repeat (first | refine JL.nil ?_ | with_reducible refine JE.blk_normal ?_)
    refine JE.round (b'', cap'', pre' ++ [j]) rfl ?_
    dsimp only
    rw [hsn', List.length_append]
    exact Less.refl _
  case hdone =>
    rintro D xs ⟨b', cap', pre⟩ rfl rfl
    dsimp only
    have hb := hfl (List.range (parts src 4))
    rw [List.length_range] at hb
    rw [hall] at hb ⊢
    have hyes := dec_yes (s := s)
    have hno := dec_no (s := s)
    generalize fl 4 dec4 s = Y at hb hyes hno ⊢
    have hY : Y.length ≤ 20000 := by rw [hparts] at hb; omega
    repeat (first | refine KL.q (by first | (apply OQ.load; exact armC; exact rfl; exact (by repeat (first | exact Has.here | apply Has.there)); exact (Row.cell rfl)) | (apply OQ.callx (vs := [Sl8.v ⟨some ⟨b', 0, none⟩, cap', Y⟩]); exact goes_aenc; exact rfl; exact (fun w' hw' => aenc_any ⟨some ⟨b', 0, none⟩, cap', Y⟩ w' (ownb_ok hw' (by repeat (first | exact Has.here | apply Has.there))) hY)) | (apply OQ.neS; exact rfl; exact rfl) | (apply OQ.move; exact rfl)) rfl ?_ | refine KC.seq ?_ | refine KC.region ?_ | refine KL.nil ?_ | refine KE.next ?_ | refine KE.blk_normal ?_)
    refine KC.cond rfl (fun h => ?_) (fun h => ?_)
    · have hne : ¬ encB Y = s := by simpa using h
      rw [hno hne]
      repeat (first | refine KL.q (by (apply OQ.assign; exact rfl)) rfl ?_ | refine KC.seq ?_ | refine KC.region ?_ | refine KL.nil ?_ | refine KE.next ?_)
      refine KC.ret ?_
      repeat (refine KE.then_ret ?_)
      exact KE.ret2 rfl rfl rfl fun w' hw => ⟨nilS, rfl, ⟨rfl, fun _ => rfl⟩, hw.weak (.nil _)⟩
    · have hne : encB Y = s := by simpa using h
      rw [hyes hne]
      repeat (first | refine KL.q (by first | (apply OQ.load; exact armC; exact rfl; exact (by repeat (first | exact Has.here | apply Has.there)); exact (Row.cell rfl)) | (apply OQ.assign; exact rfl)) rfl ?_ | refine KC.seq ?_ | refine KC.region ?_ | refine KC.skip ?_ | refine KL.nil ?_ | refine KE.next ?_)
      refine KC.ret ?_
      skip
      exact KE.ret2 rfl rfl rfl fun w' hw => ⟨⟨some ⟨b', 0, none⟩, cap', Y⟩, rfl, ⟨rfl, by simp⟩, hw.weak (.drop _ _ _ (.drop _ _ _ (.drop _ _ _ (.drop _ _ _ own_ents))))⟩
set_option maxHeartbeats 8000000 in
theorem alines_any (s : Sl8) (w : World) (hs : s.ok w) (hl : s.l.length ≤ 20000) : Calls Tryz.prog 61 [s.v].toArray w
    fun e w' => ∃ x : Sl8, e = .returned x.v ∧ Ans x (linesB s.l) ∧ Holds w [] x.ents w' := by
  have hel : (encB s.l).length ≤ 40000 := by rw [encB_len]; omega
  rw [← fl_lines]
  refine enterM (n := 26) Tryz.func61 rfl rfl rfl (Holds.start w []) ?_
  repeat (first | refine JL.q (by first | (apply OQ.move; exact rfl) | (apply OQ.assign; exact rfl)) rfl ?_ | refine JC.seq ?_ | refine JC.region ?_ | refine JL.nil ?_ | refine JE.next ?_)
  refine JL.callg (ι := { x : Sl8 // Ans x (encB s.l) }) (fun x => x.1.v) (fun x => x.1.ents) goes_encoded rfl rfl (fun x => x.1.ents_wr) (fun w' hw' => (encoded_any s w' (hs.holds hw' rfl) (by omega)).mono fun e w2 ⟨x, h1, h2, h3⟩ => ⟨⟨x, h2⟩, h1, h3⟩) ?_
  rintro ⟨x, hx⟩
  dsimp only
  have hxl : x.l.length ≤ 40000 := by rw [hx.val]; exact hel
  rw [← hx.val]
  repeat (first | refine JL.q (by first | (apply OQ.move; exact rfl) | (apply OQ.assign; exact rfl) | (apply OQ.len; exact rfl; exact rfl) | (apply OQ.addN; exact rfl; exact rfl; exact (by (try simp only []); omega)) | (apply OQ.mulN; exact rfl; exact rfl; exact (by (try simp only []); omega)) | (apply OQ.quoN; exact rfl; exact rfl; exact (by (try simp only []); omega); exact (by (try simp only []); omega))) rfl ?_ | refine JC.seq ?_ | refine JC.region ?_ | refine JL.nil ?_ | refine JE.next ?_)
  refine JL.make0 (c := x.l.length + (x.l.length / 76 + 1) * 2) Tryz.underlying22 u8e rfl rfl (by omega) rfl fun b _ => ?_
  refine JL.alloc (r := [.slice none 0 0]) (by kernel_rfl) rfl fun tb _ => ?_
  refine JL.store_eq (r' := [.slice (some ⟨b, 0, none⟩) 0 (x.l.length + (x.l.length / 76 + 1) * 2)]) (M' := ⟨tb, Row 22 [.slice (some ⟨b, 0, none⟩) 0 (x.l.length + (x.l.length / 76 + 1) * 2)], true⟩ :: ⟨b, Sl.Own 5 1 0 (x.l.length + (x.l.length / 76 + 1) * 2) [], true⟩ :: (x.ents ++ [])) armU rfl rfl rfl rfl .here (by simp) rfl ?_
  repeat (first | refine JL.q (by (apply OQ.move; exact rfl)) rfl ?_ | refine JC.seq ?_ | refine JC.region ?_ | refine JL.nil ?_ | refine JE.next ?_)
  refine JL.callg (vs := [x.v, N 76]) (ι := Nat × Nat) (fun q => .func (.func 114) #[] #[Pt q.1 0, Pt q.2 0]) (fun q => [⟨q.2, Row 3 [N 76], true⟩, ⟨q.1, Row 22 [x.v], true⟩]) goes_groups rfl rfl (by rintro q e he; simp at he; rcases he with rfl | rfl <;> rfl) (fun w' _ => groups_any _ 76 w') ?_
  rintro ⟨b1, b2⟩
  dsimp only
  have hok : ∀ {w0 w' : World} {S : List Nat} (e1 e2 e3 e4 : Ent), Holds w0 S (e1 :: e2 :: e3 :: e4 :: (x.ents ++ [])) w' → x.ok w' := fun e1 e2 e3 e4 hw' => hx.ok (M := []) (hw'.weak (.drop _ _ _ (.drop _ _ _ (.drop _ _ _ (.drop _ _ _ (Less.refl _))))))
  have hfl := flat_len ln76 x 76 78 (fun g hg => by rw [ln76, List.length_append]; exact Nat.add_le_add hg (Nat.le_refl 2))
  have hall : (List.range (parts x 76)).flatMap (fun j => ln76 (x.part 76 j).l) = fl 76 ln76 x.l := rfl
  have hsn := snocF ln76 x 76
  have hparts : parts x 76 ≤ 600 := by unfold parts; omega
  repeat (first | refine JC.block ?_ | refine JL.nil ?_ | refine JE.next ?_)
  refine JC.range (ι := Nat × Nat × List Nat) (fun j => (x.part 76 j).v) [b1, b2] (fun xs => xs = List.range (parts x 76)) (fun _ => True) (parts x 76)
    (fun q => ⟨b2, Row 3 [N 76], false⟩ :: ⟨b1, Row 22 [x.v], false⟩ :: ⟨tb, Row 22 [.slice (some ⟨q.1, 0, none⟩) (q.2.2.flatMap fun j => ln76 (x.part 76 j).l).length q.2.1], true⟩ :: ⟨q.1, Sl.Own 5 1 (q.2.2.flatMap fun j => ln76 (x.part 76 j).l).length q.2.1 ((q.2.2.flatMap fun j => ln76 (x.part 76 j).l).map U8), true⟩ :: (x.ents ++ []))
    (fun pre q => q.2.2 = pre) rfl (enters_of Tryz.func114 (by kernel_rfl) rfl) ?hseq ?hcell ?hL (b, x.l.length + (x.l.length / 76 + 1) * 2, []) rfl ?hM rfl rfl ?hbody ?hdone
  case hseq =>
    intro W hW
    obtain ⟨o1, h1, h1'⟩ := hW.get (b := b1) (A := Row 22 [x.v]) (wr := true) (by repeat (first | exact Has.here | apply Has.there))
    obtain ⟨o2, h2, h2'⟩ := hW.get (b := b2) (A := Row 3 [N 76]) (wr := true) (by repeat (first | exact Has.here | apply Has.there))
    exact groups_stops x 76 b1 b2 (by decide) (hok _ _ _ _ hW).len (by omega) W h1 (Row.cell rfl _ h1') h2 (Row.cell rfl _ h2')
  case hcell =>
    rintro q e he o hA
    simp only [List.mem_cons, List.append_nil] at he
    rcases he with rfl | rfl | rfl | rfl | he
    · exact row_cells o hA
    · exact row_cells o hA
    · exact row_cells o hA
    · exact own_cells o hA
    · exact ents_cells e he o hA
  case hL =>
    intro q k hk
    simp only [List.mem_cons, List.not_mem_nil, or_false] at hk
    rcases hk with rfl | rfl
    · exact .inr ⟨_, (by repeat (first | exact Has.here | apply Has.there))⟩
    · exact .inr ⟨_, (by repeat (first | exact Has.here | apply Has.there))⟩
  case hM =>
    intro w' hw'
    exact hw'.weak2 (.keep _ _ _ _ _ _ _ (fun _ h => h) (by simp) (.keep _ _ _ _ _ _ _ (fun _ h => h) (by simp) (Less2.refl _)))
  case hbody =>
    rintro l pre j ⟨b', cap', pre'⟩ w1 rfl hlt hx1 hge
    dsimp only at hlt hge ⊢
    have hb := hfl pre'
    have hsn' := hsn pre' j
    have hpl : (x.part 76 j).l.length ≤ 76 := by show (List.take _ _).length ≤ 76; rw [List.length_take]; omega
    generalize pre'.flatMap (fun j => ln76 (x.part 76 j).l) = T at hb hsn' ⊢
    repeat (first | refine JL.q (by first | (apply OQ.load; exact armC; exact rfl; exact (by repeat (first | exact Has.here | apply Has.there)); exact (Row.cell rfl)) | (apply OQ.move; exact rfl)) rfl ?_ | refine JR.seq ?_ | refine JR.block ?_ | refine JR.region rfl (by first | with_reducible exact lo_roundQ | with_reducible exact lo_then lo_roundQ | with_reducible exact lo_blk lo_roundQ | with_reducible exact lo_then (lo_blk lo_roundQ) | with_reducible exact lo_roundX | with_reducible exact lo_then lo_roundX | with_reducible exact lo_blk lo_roundX | with_reducible exact lo_then (lo_blk lo_roundX) | with_reducible exact lo_then (lo_then (lo_blk lo_roundX))) ?_)
    refine JL.append (cs := (x.part 76 j).l.map U8) (m := (x.part 76 j).l.length) (ad := (x.part 76 j).ad) (sc := (x.part 76 j).cap) (xs := T.map U8) (fun b'' cap'' => ⟨b2, Row 3 [N 76], false⟩ :: ⟨b1, Row 22 [x.v], false⟩ :: ⟨tb, Row 22 [.slice (some ⟨b', 0, none⟩) T.length cap'], true⟩ :: ⟨b'', Sl.Own 5 1 (T.length + (x.part 76 j).l.length) cap'' (T.map U8 ++ (x.part 76 j).l.map U8), true⟩ :: (x.ents ++ [])) Tryz.underlying22 u8e rfl rfl (by intro _ _; repeat (first | exact Repl.here | apply Repl.there)) (by simp) (fun w' hw' => (part_ok (hok _ _ _ _ hw') 76 j).reads) (all8B _) rfl (by decide) (by omega) (by omega) rfl fun b'' cap'' => ?_
    refine JL.store_eq (r' := [.slice (some ⟨b'', 0, none⟩) (T.length + (x.part 76 j).l.length) cap'']) (M' := ⟨b2, Row 3 [N 76], false⟩ :: ⟨b1, Row 22 [x.v], false⟩ :: ⟨tb, Row 22 [.slice (some ⟨b'', 0, none⟩) (T.length + (x.part 76 j).l.length) cap''], true⟩ :: ⟨b'', Sl.Own 5 1 (T.length + (x.part 76 j).l.length) cap'' (T.map U8 ++ (x.part 76 j).l.map U8), true⟩ :: (x.ents ++ [])) armU rfl rfl rfl rfl (by repeat (first | exact Upd.here | apply Upd.there)) (by simp) rfl ?_
    repeat (first | refine JL.q (by (apply OQ.load; exact armC; exact rfl; exact (by repeat (first | exact Has.here | apply Has.there)); exact (Row.cell rfl))) rfl ?_ | refine JL.nil ?_ | with_reducible refine JE.nextR ?_ | refine JR.region rfl (by first | with_reducible exact lo_roundQ | with_reducible exact lo_then lo_roundQ | with_reducible exact lo_blk lo_roundQ | with_reducible exact lo_then (lo_blk lo_roundQ) | with_reducible exact lo_roundX | with_reducible exact lo_then lo_roundX | with_reducible exact lo_blk lo_roundX | with_reducible exact lo_then (lo_blk lo_roundX) | with_reducible exact lo_then (lo_then (lo_blk lo_roundX))) ?_)
    refine JL.appendS (r := [13, 10]) (xs := T.map U8 ++ (x.part 76 j).l.map U8) (fun b3 cap3 => ⟨b2, Row 3 [N 76], false⟩ :: ⟨b1, Row 22 [x.v], false⟩ :: ⟨tb, Row 22 [.slice (some ⟨b'', 0, none⟩) (T.length + (x.part 76 j).l.length) cap''], true⟩ :: ⟨b3, Sl.Own 5 1 (T.length + (x.part 76 j).l.length + 2) cap3 (T.map U8 ++ (x.part 76 j).l.map U8 ++ ([13, 10] : List Bt).map U8), true⟩ :: (x.ents ++ [])) Tryz.underlying22 Tryz.underlying9 u8e rfl rfl (by intro _ _; repeat (first | exact Repl.here | apply Repl.there)) (by show _ + 2 ≤ _; omega) rfl fun b3 cap3 => ?_
    refine JL.store_eq (r' := [.slice (some ⟨b3, 0, none⟩) (T.length + (x.part 76 j).l.length + 2) cap3]) (M' := ⟨b2, Row 3 [N 76], false⟩ :: ⟨b1, Row 22 [x.v], false⟩ :: ⟨tb, Row 22 [.slice (some ⟨b3, 0, none⟩) (T.length + (x.part 76 j).l.length + 2) cap3], true⟩ :: ⟨b3, Sl.Own 5 1 (T.length + (x.part 76 j).l.length + 2) cap3 (T.map U8 ++ (x.part 76 j).l.map U8 ++ ([13, 10] : List Bt).map U8), true⟩ :: (x.ents ++ [])) armU rfl rfl rfl rfl (by repeat (first | exact Upd.here | apply Upd.there)) (by simp) rfl ?_
    repeat (first | refine JL.nil ?_ | with_reducible refine JE.blk_normal ?_)
    refine JE.round (b3, cap3, pre' ++ [j]) rfl ?_
    dsimp only
    rw [hsn', ln76, List.length_append, List.length_append, List.append_assoc, ← List.map_append, ← List.map_append]
    exact Less.refl _
  case hdone =>
    rintro D xs ⟨b', cap', pre⟩ rfl rfl
    dsimp only
    rw [hall]
    generalize fl 76 ln76 x.l = Y
    repeat (first | refine KL.q (by first | (apply OQ.load; exact armC; exact rfl; exact (by repeat (first | exact Has.here | apply Has.there)); exact (Row.cell rfl)) | (apply OQ.assign; exact rfl)) rfl ?_ | refine KC.seq ?_ | refine KC.region ?_ | refine KL.nil ?_ | refine KE.next ?_ | refine KE.blk_normal ?_)
    refine KC.ret ?_
    exact KE.ret1 rfl rfl fun w' hw => ⟨⟨some ⟨b', 0, none⟩, cap', Y⟩, rfl, ⟨rfl, by simp⟩, hw.weak (.drop _ _ _ (.drop _ _ _ (.drop _ _ _ (.keep _ _ _ _ _ _ (fun o h => ⟨Sl.Own.cells o h, by obtain ⟨_, _, _, _, h4⟩ := h; exact h4, rfl⟩) (.nil _)))))⟩
/-! ### blanks -/
theorem ablank_any (c : Bt) (w : World) : Calls Tryz.prog 104 [U8 c].toArray w fun e w' => e = .returned (.bool (Arm.blank c)) ∧ Ext w w' := by
  refine enter (n := 17) Tryz.func104 rfl rfl rfl (Holds.start w []) ?_
  by_cases h1 : c = 32
  · subst h1
    repeat (first | refine JL.q (by first | (apply OQ.eqi_t; exact rfl; exact rfl; exact rfl) | (apply OQ.pick_t; exact rfl; exact rfl) | (apply OQ.move; exact rfl) | (apply OQ.assign; exact rfl)) rfl ?_ | refine JC.seq ?_ | refine JC.region ?_ | refine JL.nil ?_ | refine JE.next ?_ | refine JL.gskip rfl rfl rfl rfl ?_)
    exact JC.ret (JE.ret1 rfl (RV.tmp rfl) fun w' hw => ⟨rfl, hw.chg⟩)
  by_cases h2 : c = 9
  · subst h2
    repeat (first | refine JL.q (by first | (apply OQ.eqi_f; exact rfl; exact rfl; exact (by decide)) | (apply OQ.eqi_t; exact rfl; exact rfl; exact rfl) | (apply OQ.pick_t; exact rfl; exact rfl) | (apply OQ.pick_f; exact rfl; exact rfl) | (apply OQ.move; exact rfl) | (apply OQ.assign; exact rfl)) rfl ?_ | refine JC.seq ?_ | refine JC.region ?_ | refine JL.nil ?_ | refine JE.next ?_ | refine JL.gon rfl rfl ?_ | refine JL.gskip rfl rfl rfl rfl ?_)
    exact JC.ret (JE.ret1 rfl (RV.tmp rfl) fun w' hw => ⟨rfl, hw.chg⟩)
  by_cases h3 : c = 13
  · subst h3
    repeat (first | refine JL.q (by first | (apply OQ.eqi_f; exact rfl; exact rfl; exact (by decide)) | (apply OQ.eqi_t; exact rfl; exact rfl; exact rfl) | (apply OQ.pick_t; exact rfl; exact rfl) | (apply OQ.pick_f; exact rfl; exact rfl) | (apply OQ.move; exact rfl) | (apply OQ.assign; exact rfl)) rfl ?_ | refine JC.seq ?_ | refine JC.region ?_ | refine JL.nil ?_ | refine JE.next ?_ | refine JL.gon rfl rfl ?_ | refine JL.gskip rfl rfl rfl rfl ?_)
    exact JC.ret (JE.ret1 rfl (RV.tmp rfl) fun w' hw => ⟨rfl, hw.chg⟩)
  by_cases h4 : c = 10
  · subst h4
    repeat (first | refine JL.q (by first | (apply OQ.eqi_f; exact rfl; exact rfl; exact (by decide)) | (apply OQ.eqi_t; exact rfl; exact rfl; exact rfl) | (apply OQ.pick_f; exact rfl; exact rfl) | (apply OQ.move; exact rfl) | (apply OQ.assign; exact rfl)) rfl ?_ | refine JC.seq ?_ | refine JC.region ?_ | refine JL.nil ?_ | refine JE.next ?_ | refine JL.gon rfl rfl ?_)
    exact JC.ret (JE.ret1 rfl (RV.tmp rfl) fun w' hw => ⟨rfl, hw.chg⟩)
  have e : Arm.blank c = false := by
    simp only [Arm.blank, Bool.or_eq_false_iff, beq_eq_false_iff_ne]
    exact ⟨⟨⟨h1, h2⟩, h3⟩, h4⟩
  rw [e]
  repeat (first | refine JL.q (by first | (apply OQ.eqi_f; exact rfl; exact rfl; exact (by_ne h1)) | (apply OQ.eqi_f; exact rfl; exact rfl; exact (by_ne h2)) | (apply OQ.eqi_f; exact rfl; exact rfl; exact (by_ne h3)) | (apply OQ.eqi_f; exact rfl; exact rfl; exact (by_ne h4)) | (apply OQ.pick_f; exact rfl; exact rfl) | (apply OQ.move; exact rfl) | (apply OQ.assign; exact rfl)) rfl ?_ | refine JC.seq ?_ | refine JC.region ?_ | refine JL.nil ?_ | refine JE.next ?_ | refine JL.gon rfl rfl ?_)
  exact JC.ret (JE.ret1 rfl (RV.tmp rfl) fun w' hw => ⟨rfl, hw.chg⟩)
theorem bare_le (l : List Arm.By) : (bare l).length ≤ l.length := List.length_filter_le ..
set_option maxHeartbeats 8000000 in
theorem aread_any (s : Sl8) (w : World) (hs : s.ok w) (hl : s.l.length ≤ 20000) : Calls Tryz.prog 69 [s.v].toArray w
    fun e w' => ∃ x : Sl8, e = .returned (.tuple #[x.v, N (ecode (decB (bare s.l)))]) ∧ Ans x ((decB (bare s.l)).getD []) ∧ Holds w [] x.ents w' := by
  refine enter (n := 29) Tryz.func69 rfl rfl rfl (Holds.start w []) ?_
  repeat (first | refine JL.q (by first | (apply OQ.move; exact rfl) | (apply OQ.assign; exact rfl) | (apply OQ.len; exact rfl; exact rfl)) rfl ?_ | refine JC.seq ?_ | refine JC.region ?_ | refine JL.nil ?_ | refine JE.next ?_)
  refine JL.make0 (c := s.l.length) Tryz.underlying22 u8e rfl rfl (by omega) rfl fun b _ => ?_
  repeat (first | refine JL.q (by first | (apply OQ.move; exact rfl) | (apply OQ.assign; exact rfl) | (apply OQ.len; exact rfl; exact rfl)) rfl ?_ | refine JC.seq ?_ | refine JC.region ?_ | refine JC.block ?_ | refine JL.nil ?_ | refine JE.next ?_)
  refine JC.loop (fun q : Nat × Nat × Nat => [(4, .slice (some ⟨q.2.1, 0, none⟩) (bare (s.l.take q.1)).length q.2.2), (10, s.v), (11, N s.l.length), (12, N q.1)])
    (fun q => [⟨q.2.1, Sl.Own 5 1 (bare (s.l.take q.1)).length q.2.2 ((bare (s.l.take q.1)).map U8), true⟩])
    (fun q => s.l.length - q.1) (fun q => q.1 ≤ s.l.length) (0, b, s.l.length) (Nat.zero_le _) (by repeat (first | exact SubE.nil | refine SubE.cons _ _ _ rfl ?_)) (.keep _ _ _ _ _ _ (fun o h => h) (.nil _)) ?_
  rintro ⟨i, b', cap'⟩ hi
  simp only at hi
  dsimp only
  repeat (first | refine JL.q (by (apply OQ.lssN; exact rfl; exact rfl)) rfl ?_ | refine JC.seq ?_ | refine JC.region ?_ | refine JL.nil ?_ | refine JE.next ?_)
  refine JC.cond rfl (fun h => ?_) (fun h => ?_)
  · have hi' : i < s.l.length := of_decide_eq_true h
    clear h hi
    obtain ⟨ba, ja, hae, hca⟩ := hs.reads.at (by simp; omega)
    have hc := hca i _ (map_at U8 0 hi')
    have hav : s.v = .slice (some ⟨ba, ja, none⟩) s.l.length s.cap := by rw [← hae]; rfl
    have hbt := bare_take s.l hi'
    have hTl : (bare (s.l.take i)).length ≤ 20000 := Nat.le_trans (bare_le _) (by rw [List.length_take]; omega)
    generalize bare (s.l.take i) = T at hbt hTl ⊢
    generalize s.l.getD i 0 = c at hc hbt
    rw [hav]
    repeat (first | refine JL.q (by first | (apply OQ.idxS1; exact Tryz.underlying22; exact u8s; exact rfl; exact rfl; exact hi') | (apply OQ.load_old; exact u8c; exact rfl; exact (block_lt_of_cell hc); exact (by simp); exact hc) | (apply OQ.callx (vs := [U8 c]); exact goes_ablank; exact rfl; exact (fun w' _ => ablank_any c w')) | (apply OQ.not; exact rfl) | (apply OQ.move; exact rfl) | (apply OQ.assign; exact rfl)) rfl ?_ | refine JC.seq ?_ | refine JC.region ?_ | refine JC.block ?_ | refine JC.skip ?_ | refine JL.nil ?_ | refine JE.next ?_)
    refine JC.cond rfl (fun h => ?_) (fun h => ?_)
    · have hb : ¬ Arm.blank c = true := by simpa using h
      clear h
      rw [if_neg hb] at hbt
      repeat (first | refine JL.q (by (apply OQ.move; exact rfl)) rfl ?_ | refine JC.region ?_)
      refine JL.push1 (xs := T.map U8) (v := U8 c) (fun b'' cap'' => [⟨b'', Sl.Own 5 1 (T.length + 1) cap'' (T.map U8 ++ [U8 c]), true⟩]) Tryz.underlying22 u8e rfl rfl rfl rfl (fun _ => rfl) (by intro _ _; repeat (first | exact Repl.here | apply Repl.there)) (by omega) (by omega) rfl rfl fun bl b'' cap'' => ?_
      rw [← hav]
      repeat (first | refine JL.q (by first | (apply OQ.move; exact rfl) | (apply OQ.assign; exact rfl) | (apply OQ.addN; exact rfl; exact rfl; exact (by (try simp only []); omega))) rfl ?_ | refine JC.region ?_ | refine JL.nil ?_ | refine JE.next ?_ | refine JE.blk_normal ?_)
      refine JE.again (i := (i, b', cap')) (i + 1, b'', cap'') hi' (by show s.l.length - (i + 1) < s.l.length - i; omega) ?_ ?_
      · dsimp only
        rw [hbt, List.length_append]
        exact (by repeat (first | exact SubE.nil | refine SubE.cons _ _ _ rfl ?_))
      · dsimp only
        rw [hbt, List.length_append, List.map_append]
        exact Less.refl _
    · have hb : Arm.blank c = true := by simpa using h
      clear h
      rw [if_pos hb, List.append_nil] at hbt
      rw [← hbt, ← hav]
      repeat (first | refine JL.q (by first | (apply OQ.move; exact rfl) | (apply OQ.addN; exact rfl; exact rfl; exact (by (try simp only []); omega))) rfl ?_ | refine JC.region ?_ | refine JC.skip ?_ | refine JL.nil ?_ | refine JE.next ?_ | refine JE.blk_normal ?_)
      exact JE.again (i := (i, b', cap')) (i + 1, b', cap') hi' (by show s.l.length - (i + 1) < s.l.length - i; omega) (by repeat (first | exact SubE.nil | refine SubE.cons _ _ _ rfl ?_)) (Less.refl _)
  · have hi' : ¬ i < s.l.length := of_decide_eq_false h
    obtain rfl : i = s.l.length := by omega
    clear h hi hi'
    rw [List.take_length]
    have hTl : (bare s.l).length ≤ 20000 := Nat.le_trans (bare_le _) hl
    generalize bare s.l = T at hTl ⊢
    repeat (first | refine JL.q (by first | (apply OQ.b2s (s := ⟨some ⟨b', 0, none⟩, cap', T⟩); exact Tryz.underlying22; exact Tryz.underlying5; exact Tryz.underlying9; exact rfl; exact (fun w' hw' => ownb_ok hw' .here)) | (apply OQ.move; exact rfl)) rfl ?_ | refine JC.seq ?_ | refine JC.region ?_ | refine JC.exit ?_ | refine JE.next ?_ | refine JE.then_exit ?_ | refine JE.blk_hit ?_)
    refine JL.callg (vs := [Z T]) (ι := { x : Sl8 // Ans x ((decB T).getD []) }) (fun x => .tuple #[x.1.v, N (ecode (decB T))]) (fun x => x.1.ents) goes_adec rfl rfl (fun x => x.1.ents_wr) (fun w' _ => (adec_any T w' hTl).mono fun e w2 ⟨x, h1, h2, h3⟩ => ⟨⟨x, h2⟩, h1, h3⟩) ?_
    rintro ⟨x, hx⟩
    dsimp only
    repeat (first | refine JL.q (by first | (apply OQ.extract; exact rfl; exact rfl) | (apply OQ.assign; exact rfl)) rfl ?_ | refine JL.nil ?_ | refine JE.next ?_)
    refine JC.ret ?_
    refine JE.ret2 rfl (RV.tmp rfl) (RV.tmp rfl) ?_
    exact fun w' hw => ⟨x, rfl, hx, hw.weak (less_pre _ _)⟩
end Go.Proofs.YtbbmhkdfdgnkpaaGreatDoor
