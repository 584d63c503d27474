/-
  Of no statement by itself: what field's functions owe (FieldOk); over it: what despatchlaw09's speaks, FieldNames and FieldTold give.
  Conditions: FieldOk, and each theorem's own.
-/
import Derived.Test.YtchoiikhepjdiaaDoorFieX
import Derived.Test.YtchoiikhepjdiaaDoorFieT
import Derived.Test.YtchoiikhepjdiaaDoorSame
namespace Go.Proofs.YtchoiikhepjdiaaDoor
set_option maxRecDepth 10000
open Sl Fld
def goodF (n v : List Bt) : Bool := nameB n && valB v
def foldR (n v : List Bt) : List Bt := if goodF n v then foldB n v else []
def codeF (n v : List Bt) : Nat := if goodF n v then 0 else 3
def codeR {α : Type} : Except Nat α → Nat
  | .ok _ => 0
  | .error k => k
def fieldsR : Except Nat (List Pr × List Bt) → List Pr
  | .ok q => q.1
  | .error _ => []
def restR : Except Nat (List Pr × List Bt) → List Bt
  | .ok q => q.2
  | .error _ => []
structure FieldOk : Prop where
  name : ∀ (s : List Bt) (w : World), s.length < 9223372036854775808 → Calls Tryd.prog 15 [Z s].toArray w fun e w' => e = .returned (.bool (nameB s)) ∧ Ext w w'
  value : ∀ (s : List Bt) (w : World), s.length < 9223372036854775808 → Calls Tryd.prog 17 [Z s].toArray w fun e w' => e = .returned (.bool (valB s)) ∧ Ext w w'
  same : ∀ (a b : List Bt) (w : World), a.length < 9223372036854775808 → b.length < 9223372036854775808 → Calls Tryd.prog 19 [Z a, Z b].toArray w fun e w' => e = .returned (.bool (sameB a b)) ∧ Ext w w'
  fold : ∀ (n v : List Bt) (w : World), n.length < 9223372036854775808 → v.length < 9223372036854775808 → Calls Tryd.prog 14 [.agg (pc (n, v)).toArray].toArray w fun e w' =>
    ∃ x : { x : Sl8 // Ans x (foldR n v) }, e = .returned (.tuple #[x.1.v, N (codeF n v)]) ∧ Holds w [] x.1.ents w'
  read : ∀ (s : Sl8) (w : World), s.ok w → s.l.length ≤ 70000 → Calls Tryd.prog 24 [s.v].toArray w fun e w' =>
    ∃ q : { q : Sl2 × Sl8 // q.1.l = fieldsR (readB s.l) ∧ q.2.l = restR (readB s.l) }, e = .returned (.tuple #[q.1.1.v, q.1.2.v, N (codeR (readB s.l))]) ∧ Ext w w' ∧ (q.1.1.ok w' ∧ q.1.2.ok w')
theorem goes_fname : Goes Tryd.prog 15 := ⟨_, Tryd.func15, rfl, by kernel_rfl⟩
theorem goes_fvalue : Goes Tryd.prog 17 := ⟨_, Tryd.func17, rfl, by kernel_rfl⟩
theorem goes_fsame : Goes Tryd.prog 19 := ⟨_, Tryd.func19, rfl, by kernel_rfl⟩
theorem goes_ffold : Goes Tryd.prog 14 := ⟨_, Tryd.func14, rfl, by kernel_rfl⟩
theorem goes_fread : Goes Tryd.prog 24 := ⟨_, Tryd.func24, rfl, by kernel_rfl⟩
theorem goes_speaks9 : Goes Tryd.prog 13 := ⟨_, Tryd.func13, rfl, by kernel_rfl⟩
theorem build_eg {n : Nat} {E : Env} {C : World → Prop} {dst : Option Tmp} {ty : TypeId} {pos : String} {aft : Array Edge} {g : Option (Nat × Bool)} {a b : List Bt} : OQ Tryd.prog n E C ⟨dst, .build 23 #[(0, .const (Z a)), (1, .const (Z b))], ty, pos, aft, g⟩ (.agg (pc (a, b)).toArray) := OQ.pure rfl rfl (by kernel_rfl)
def egB : List Bt := [65, 58, 32, 98, 10, 32, 99, 10, 10, 120]
theorem eg_is : readB egB = .ok ([([65], [98, 32, 99])], [120]) := by
  have hf : Fo (32 :: [98, 32, 99]) ([32, 98] ++ ([10] ++ 32 :: [99])) := .byte 32 _ _ (by decide) (.byte 98 _ _ (by decide) (.fold 32 [10] _ _ (by decide) (.inl rfl) (.byte 99 _ _ (by decide) .nil)))
  have hh := Hd.cons [65] [98, 32, 99] _ [10] [] [] (by decide) (by decide) hf (.inl rfl) .nil
  have := read_head hh (.inl rfl : isE [10]) [120] (by decide) (by decide)
  exact this
set_option maxHeartbeats 8000000 in
theorem speaks9_any (hF : FieldOk) (w : World) : Calls Tryd.prog 13 ([] : List Value).toArray w fun e w' => e = .returned (.bool true) ∧ Ext w w' := by
  refine enter (n := 30) Tryd.func13 rfl rfl rfl (Holds.start w []) ?_
  repeat (first | refine JL.q (by first | (apply OQ.move; exact rfl) | (apply OQ.assign; exact rfl) | (apply OQ.len; exact rfl; exact rfl) | (apply OQ.addN; exact rfl; exact rfl; exact (by (try simp only []); omega)) | (apply OQ.lssN; exact rfl; exact rfl) | (apply OQ.eqN; exact rfl; exact rfl) | (apply OQ.fld; exact rfl; exact rfl; exact rfl; exact (by decide); exact rfl)) rfl ?_ | refine JC.seq ?_ | refine JC.region ?_ | refine JC.block ?_ | refine JC.skip ?_ | refine JC.exit ?_ | refine JL.nil ?_ | refine JE.next ?_ | refine JE.blk_normal ?_ | refine JE.then_exit ?_ | refine JE.blk_hit ?_ | refine JE.blk_miss rfl ?_ | refine JE.then_ret ?_ | refine JE.blk_ret ?_ | refine JC.label ?_ | refine JL.gon rfl rfl ?_ | refine JL.gskip rfl rfl rfl rfl ?_ | refine JL.gskipU rfl rfl rfl rfl ?_)
  refine JL.litL (xs := egB.map fun b => .const (U8 b)) (vs := egB.map U8) Tryd.underlying25 u8e rfl rfl rfl rfl (by intro v hv; obtain ⟨x, _, rfl⟩ := List.mem_map.1 hv; rfl) rfl (by decide) (by decide) rfl fun b1 _ => ?_
  refine JL.mark (r := egB.map U8) (te := 5) Tryd.underlying25 Tryd.underlying5 rfl .here rfl ?_
  refine JL.callw (vs := [Sl8.v ⟨some ⟨b1, 0, none⟩, 10, egB⟩]) (S' := []) (ι := { q : Sl2 × Sl8 // q.1.l = fieldsR (readB egB) ∧ q.2.l = restR (readB egB) }) (fun q => .tuple #[q.1.1.v, q.1.2.v, N (codeR (readB egB))]) (fun q w' => q.1.1.ok w' ∧ q.1.2.ok w') [] goes_fread rfl rfl (fun w' hw' => hF.read ⟨some ⟨b1, 0, none⟩, 10, egB⟩ w' ⟨Nat.le_refl _, (by obtain ⟨o, ho, hA⟩ := hw'.get .here; exact Reads.block ho (Frz.all _ hA))⟩ (show 10 ≤ 70000 by decide)) (.nil _) (by simp) ?_
  rintro ⟨⟨x, r⟩, hx, hr⟩ w1 hw1 ⟨okx, okr⟩
  have hq := eg_is
  dsimp only
  replace okx : x.ok w1 := okx
  replace okr : r.ok w1 := okr
  rw [hq] at hx hr ⊢
  replace hx : x.l = [([65], [98, 32, 99])] := hx
  replace hr : r.l = [120] := hr
  obtain ⟨bx, jx, eX, lx, cx1, cx2⟩ := okx.at (i := 0) (by rw [hx]; decide)
  have cx := pair_cells cx1 cx2
  rw [hx] at cx
  replace cx : ∀ i u, (pc ([65], [98, 32, 99]))[i]? = some u → w1.cell? ⟨bx, jx + 0 * 2 + i, none⟩ = some u := cx
  have vx : x.v = .slice (some ⟨bx, jx, none⟩) 1 x.cap := by
    rw [← eX, Sl2.v, hx]; rfl
  have vr : r.v = .slice r.ad 1 r.cap := by rw [Sl8.v, hr]; rfl
  have hx1 : Ext w w1 := hw1.chg
  dsimp only [codeR]
  rw [vx]
  repeat (first | refine JL.q (by first | (apply OQ.extract; exact rfl; exact rfl) | (apply OQ.eqB (b := 0); exact rfl; exact rfl; exact rfl) | (apply OQ.len; exact Tryd.underlying34; exact rfl) | (apply OQ.eqB (b := 1); exact rfl; exact rfl; exact rfl) | (apply OQ.pick_t; exact rfl; exact rfl) | (apply OQ.idxS (i := 0); exact Tryd.underlying34; exact fieldS; exact rfl; exact rfl; exact (by decide)) | (apply OQ.load_agg_old (cs := pc ([65], [98, 32, 99])); exact fieldA; exact rfl; exact fieldS; exact lx; exact (by simp); exact cx) | (apply build_eg (a := [65]) (b := [98, 32, 99])) | (apply OQ.eqP (c := true) (p := ([65], [98, 32, 99])) (q := ([65], [98, 32, 99])); exact fieldE; exact rfl; exact rfl; exact (by decide)) | (apply OQ.b2s (s := r); exact Tryd.underlying25; exact Tryd.underlying5; exact Tryd.underlying9; exact rfl; exact (fun w' hw' => okr.holds hw' rfl)) | (apply OQ.eqS_t (l := r.l) (r := [120]); exact rfl; exact rfl; exact hr) | (apply OQ.move; exact rfl) | (apply OQ.assign; exact rfl) | (apply OQ.len; exact rfl; exact rfl) | (apply OQ.addN; exact rfl; exact rfl; exact (by (try simp only []); omega)) | (apply OQ.lssN; exact rfl; exact rfl) | (apply OQ.eqN; exact rfl; exact rfl) | (apply OQ.fld; exact rfl; exact rfl; exact rfl; exact (by decide); exact rfl)) rfl ?_ | refine JC.seq ?_ | refine JC.region ?_ | refine JC.block ?_ | refine JC.skip ?_ | refine JC.exit ?_ | refine JL.nil ?_ | refine JE.next ?_ | refine JE.blk_normal ?_ | refine JE.then_exit ?_ | refine JE.blk_hit ?_ | refine JE.blk_miss rfl ?_ | refine JE.then_ret ?_ | refine JE.blk_ret ?_ | refine JC.label ?_ | refine JL.gon rfl rfl ?_ | refine JL.gskip rfl rfl rfl rfl ?_ | refine JL.gskipU rfl rfl rfl rfl ?_)
  refine JC.ret (JE.ret1 rfl (RV.tmp rfl) ?_)
  exact fun w' hw => ⟨rfl, hx1.trans hw.chg⟩
theorem boolU : Tryd.prog.underlying 4 = some .bool := by kernel_rfl
theorem OQ.eqbB {P : Program} {n : Nat} {E : Env} {C : World → Prop} {dst : Option Tmp} {t t' ty : TypeId} {pos : String} {aft : Array Edge} {g : Option (Nat × Bool)} {x y : Operand} {a c d : Bool} (hu : P.underlying t = some .bool) (hx : ev E x = some (.bool a)) (hy : ev E y = some (.bool c)) (h : (a == c) = d) : OQ P n E C ⟨dst, .binOp .eql t x y t', ty, pos, aft, g⟩ (.bool d) := h ▸ OQ.eqb hu hx hy
theorem OQ.neb {P : Program} {n : Nat} {E : Env} {C : World → Prop} {dst : Option Tmp} {t t' ty : TypeId} {pos : String} {aft : Array Edge} {g : Option (Nat × Bool)} {x y : Operand} {a : Bool} (hu : P.underlying t = some .bool) (hx : ev E x = some (.bool a)) (hy : ev E y = some (.bool a)) : OQ P n E C ⟨dst, .binOp .neq t x y t', ty, pos, aft, g⟩ (.bool false) :=
  OQ.run fun ac ha w _ => by
    have h1 := ha.eval hx
    have h2 := ha.eval hy
    have h3 := run_equalIn_bool (P := P) w 9999 t a a hu
    cases a <;> simp [execOp, h1, h2, eqGuard, binOp, Op.equal, Op.maxDepth, h3]
set_option maxHeartbeats 16000000 in
theorem law_fieldNames (hF : FieldOk) (a b c : List Bt) (w : World) : Calls Tryd.prog 7 [Z a, Z b, Z c].toArray w fun e w' => e = .returned (.bool true) ∧ Ext w w' := by
  refine enter (n := 69) Tryd.func7 rfl rfl rfl (Holds.start w []) ?_
  have cs := fun w' => speaks9_any hF w'
  repeat (first | refine JL.q (by first | (apply OQ.callx (vs := []); exact goes_speaks9; exact rfl; exact (fun w' _ => cs w')) | (apply OQ.not; exact rfl) | (apply OQ.move; exact rfl) | (apply OQ.assign; exact rfl) | (apply OQ.len; exact rfl; exact rfl) | (apply OQ.addN; exact rfl; exact rfl; exact (by (try simp only []); omega)) | (apply OQ.lssN; exact rfl; exact rfl) | (apply OQ.eqN; exact rfl; exact rfl) | (apply OQ.fld; exact rfl; exact rfl; exact rfl; exact (by decide); exact rfl)) rfl ?_ | refine JC.seq ?_ | refine JC.region ?_ | refine JC.block ?_ | refine JC.skip ?_ | refine JC.exit ?_ | refine JL.nil ?_ | refine JE.next ?_ | refine JE.blk_normal ?_ | refine JE.then_exit ?_ | refine JE.blk_hit ?_ | refine JE.blk_miss rfl ?_ | refine JE.then_ret ?_ | refine JE.blk_ret ?_ | refine JC.label ?_ | refine JL.gon rfl rfl ?_ | refine JL.gskip rfl rfl rfl rfl ?_ | refine JL.gskipU rfl rfl rfl rfl ?_)
  refine JC.cond rfl (fun h => by cases h) (fun _ => ?_)
  cases g0 : decide ((300 : Int) < (a.length : Int)) <;> cases g1 : decide ((300 : Int) < (b.length : Int)) <;> cases g2 : decide ((300 : Int) < (c.length : Int))
  all_goals (repeat (first | refine JL.q (by first | (apply OQ.lenS; exact Tryd.underlying9; exact rfl) | (apply OQ.gtrB (b := 300); exact rfl; exact rfl; exact g0) | (apply OQ.gtrB (b := 300); exact rfl; exact rfl; exact g1) | (apply OQ.gtrB (b := 300); exact rfl; exact rfl; exact g2) | (apply OQ.pick_t; exact rfl; exact rfl) | (apply OQ.pick_f; exact rfl; exact rfl) | (apply OQ.move; exact rfl) | (apply OQ.assign; exact rfl) | (apply OQ.len; exact rfl; exact rfl) | (apply OQ.addN; exact rfl; exact rfl; exact (by (try simp only []); omega)) | (apply OQ.lssN; exact rfl; exact rfl) | (apply OQ.eqN; exact rfl; exact rfl) | (apply OQ.fld; exact rfl; exact rfl; exact rfl; exact (by decide); exact rfl)) rfl ?_ | refine JC.seq ?_ | refine JC.region ?_ | refine JC.block ?_ | refine JC.skip ?_ | refine JC.exit ?_ | refine JL.nil ?_ | refine JE.next ?_ | refine JE.blk_normal ?_ | refine JE.then_exit ?_ | refine JE.blk_hit ?_ | refine JE.blk_miss rfl ?_ | refine JE.then_ret ?_ | refine JE.blk_ret ?_ | refine JC.label ?_ | refine JL.gon rfl rfl ?_ | refine JL.gskip rfl rfl rfl rfl ?_ | refine JL.gskipU rfl rfl rfl rfl ?_))
  all_goals refine JC.cond rfl (fun h => ?_) (fun h => ?_)
  all_goals first | (exfalso; revert h; decide) | skip
  all_goals clear h
  all_goals first
    | ((repeat (first | refine JL.q (by first | (apply OQ.move; exact rfl) | (apply OQ.assign; exact rfl) | (apply OQ.len; exact rfl; exact rfl) | (apply OQ.addN; exact rfl; exact rfl; exact (by (try simp only []); omega)) | (apply OQ.lssN; exact rfl; exact rfl) | (apply OQ.eqN; exact rfl; exact rfl) | (apply OQ.fld; exact rfl; exact rfl; exact rfl; exact (by decide); exact rfl)) rfl ?_ | refine JC.seq ?_ | refine JC.region ?_ | refine JC.block ?_ | refine JC.skip ?_ | refine JC.exit ?_ | refine JL.nil ?_ | refine JE.next ?_ | refine JE.blk_normal ?_ | refine JE.then_exit ?_ | refine JE.blk_hit ?_ | refine JE.blk_miss rfl ?_ | refine JE.then_ret ?_ | refine JE.blk_ret ?_ | refine JC.label ?_ | refine JL.gon rfl rfl ?_ | refine JL.gskip rfl rfl rfl rfl ?_ | refine JL.gskipU rfl rfl rfl rfl ?_))
       refine JC.ret ?_
       (repeat (first | refine JL.q (by first | (apply OQ.move; exact rfl) | (apply OQ.assign; exact rfl) | (apply OQ.len; exact rfl; exact rfl) | (apply OQ.addN; exact rfl; exact rfl; exact (by (try simp only []); omega)) | (apply OQ.lssN; exact rfl; exact rfl) | (apply OQ.eqN; exact rfl; exact rfl) | (apply OQ.fld; exact rfl; exact rfl; exact rfl; exact (by decide); exact rfl)) rfl ?_ | refine JC.seq ?_ | refine JC.region ?_ | refine JC.block ?_ | refine JC.skip ?_ | refine JC.exit ?_ | refine JL.nil ?_ | refine JE.next ?_ | refine JE.blk_normal ?_ | refine JE.then_exit ?_ | refine JE.blk_hit ?_ | refine JE.blk_miss rfl ?_ | refine JE.then_ret ?_ | refine JE.blk_ret ?_ | refine JC.label ?_ | refine JL.gon rfl rfl ?_ | refine JL.gskip rfl rfl rfl rfl ?_ | refine JL.gskipU rfl rfl rfl rfl ?_))
       exact JE.ret1 rfl (RV.tmp rfl) fun w' hw => ⟨rfl, hw.chg⟩)
    | skip
  have la : a.length ≤ 300 := by have := of_decide_eq_false g0; omega
  have lb : b.length ≤ 300 := by have := of_decide_eq_false g1; omega
  have lc : c.length ≤ 300 := by have := of_decide_eq_false g2; omega
  have raa := fun w' => hF.same a a w' (by omega) (by omega)
  have rab := fun w' => hF.same a b w' (by omega) (by omega)
  have rba := fun w' => hF.same b a w' (by omega) (by omega)
  have rbc := fun w' => hF.same b c w' (by omega) (by omega)
  have rac := fun w' => hF.same a c w' (by omega) (by omega)
  have na := fun w' => hF.name a w' (by omega)
  have nb := fun w' => hF.name b w' (by omega)
  have h0 := same_refl a
  have htr := @same_trans a b c
  have hsy := same_symm b a
  have hnm := @same_name a b
  have hln := @same_len a b
  generalize sameB a a = saa at raa h0
  subst h0
  generalize sameB b a = sba at rba hsy
  subst hsy
  generalize sameB a b = sab at rab rba htr hnm hln
  generalize sameB b c = sbc at rbc htr
  generalize sameB a c = sac at rac htr
  generalize nameB a = ma at na hnm
  generalize nameB b = mb at nb hnm
  cases sab
  · repeat (first | refine JL.q (by first | (apply OQ.callx (vs := [Z a, Z a]); exact goes_fsame; exact rfl; exact (fun w' _ => raa w')) | (apply OQ.callx (vs := [Z a, Z b]); exact goes_fsame; exact rfl; exact (fun w' _ => rab w')) | (apply OQ.callx (vs := [Z b, Z a]); exact goes_fsame; exact rfl; exact (fun w' _ => rba w')) | (apply OQ.not; exact rfl) | (apply OQ.neb; exact boolU; exact rfl; exact rfl) | (apply OQ.pick_t; exact rfl; exact rfl) | (apply OQ.pick_f; exact rfl; exact rfl) | (apply OQ.move; exact rfl) | (apply OQ.assign; exact rfl) | (apply OQ.len; exact rfl; exact rfl) | (apply OQ.addN; exact rfl; exact rfl; exact (by (try simp only []); omega)) | (apply OQ.lssN; exact rfl; exact rfl) | (apply OQ.eqN; exact rfl; exact rfl) | (apply OQ.fld; exact rfl; exact rfl; exact rfl; exact (by decide); exact rfl)) rfl ?_ | refine JC.seq ?_ | refine JC.region ?_ | refine JC.block ?_ | refine JC.skip ?_ | refine JC.exit ?_ | refine JL.nil ?_ | refine JE.next ?_ | refine JE.blk_normal ?_ | refine JE.then_exit ?_ | refine JE.blk_hit ?_ | refine JE.blk_miss rfl ?_ | refine JE.then_ret ?_ | refine JE.blk_ret ?_ | refine JC.label ?_ | refine JL.gon rfl rfl ?_ | refine JL.gskip rfl rfl rfl rfl ?_ | refine JL.gskipU rfl rfl rfl rfl ?_)
    refine JC.cond rfl (fun h => by cases h) (fun _ => ?_)
    repeat (first | refine JL.q (by first | (apply OQ.callx (vs := [Z a, Z b]); exact goes_fsame; exact rfl; exact (fun w' _ => rab w')) | (apply OQ.not; exact rfl) | (apply OQ.pick_t; exact rfl; exact rfl) | (apply OQ.pick_f; exact rfl; exact rfl) | (apply OQ.move; exact rfl) | (apply OQ.assign; exact rfl) | (apply OQ.len; exact rfl; exact rfl) | (apply OQ.addN; exact rfl; exact rfl; exact (by (try simp only []); omega)) | (apply OQ.lssN; exact rfl; exact rfl) | (apply OQ.eqN; exact rfl; exact rfl) | (apply OQ.fld; exact rfl; exact rfl; exact rfl; exact (by decide); exact rfl)) rfl ?_ | refine JC.seq ?_ | refine JC.region ?_ | refine JC.block ?_ | refine JC.skip ?_ | refine JC.exit ?_ | refine JL.nil ?_ | refine JE.next ?_ | refine JE.blk_normal ?_ | refine JE.then_exit ?_ | refine JE.blk_hit ?_ | refine JE.blk_miss rfl ?_ | refine JE.then_ret ?_ | refine JE.blk_ret ?_ | refine JC.label ?_ | refine JL.gon rfl rfl ?_ | refine JL.gskip rfl rfl rfl rfl ?_ | refine JL.gskipU rfl rfl rfl rfl ?_)
    exact JC.ret (JE.ret1 rfl (RV.tmp rfl) fun w' hw => ⟨rfl, hw.chg⟩)
  · obtain rfl := hnm rfl
    have hln := hln rfl
    have hl0 : decide ((a.length : Int) = (b.length : Int)) = true := decide_eq_true (by omega)
    cases sbc
    · repeat (first | refine JL.q (by first | (apply OQ.callx (vs := [Z a, Z a]); exact goes_fsame; exact rfl; exact (fun w' _ => raa w')) | (apply OQ.callx (vs := [Z a, Z b]); exact goes_fsame; exact rfl; exact (fun w' _ => rab w')) | (apply OQ.callx (vs := [Z b, Z a]); exact goes_fsame; exact rfl; exact (fun w' _ => rba w')) | (apply OQ.callx (vs := [Z b, Z c]); exact goes_fsame; exact rfl; exact (fun w' _ => rbc w')) | (apply OQ.not; exact rfl) | (apply OQ.neb; exact boolU; exact rfl; exact rfl) | (apply OQ.pick_t; exact rfl; exact rfl) | (apply OQ.pick_f; exact rfl; exact rfl) | (apply OQ.move; exact rfl) | (apply OQ.assign; exact rfl) | (apply OQ.len; exact rfl; exact rfl) | (apply OQ.addN; exact rfl; exact rfl; exact (by (try simp only []); omega)) | (apply OQ.lssN; exact rfl; exact rfl) | (apply OQ.eqN; exact rfl; exact rfl) | (apply OQ.fld; exact rfl; exact rfl; exact rfl; exact (by decide); exact rfl)) rfl ?_ | refine JC.seq ?_ | refine JC.region ?_ | refine JC.block ?_ | refine JC.skip ?_ | refine JC.exit ?_ | refine JL.nil ?_ | refine JE.next ?_ | refine JE.blk_normal ?_ | refine JE.then_exit ?_ | refine JE.blk_hit ?_ | refine JE.blk_miss rfl ?_ | refine JE.then_ret ?_ | refine JE.blk_ret ?_ | refine JC.label ?_ | refine JL.gon rfl rfl ?_ | refine JL.gskip rfl rfl rfl rfl ?_ | refine JL.gskipU rfl rfl rfl rfl ?_)
      refine JC.cond rfl (fun h => by cases h) (fun _ => ?_)
      repeat (first | refine JL.q (by first | (apply OQ.callx (vs := [Z a, Z b]); exact goes_fsame; exact rfl; exact (fun w' _ => rab w')) | (apply OQ.callx (vs := [Z a]); exact goes_fname; exact rfl; exact (fun w' _ => na w')) | (apply OQ.callx (vs := [Z b]); exact goes_fname; exact rfl; exact (fun w' _ => nb w')) | (apply OQ.lenS; exact Tryd.underlying9; exact rfl) | (apply OQ.not; exact rfl) | (apply OQ.eqbB (d := true); exact boolU; exact rfl; exact rfl; exact (beq_self_eq_true _)) | (apply OQ.eqB; exact rfl; exact rfl; exact hl0) | (apply OQ.pick_t; exact rfl; exact rfl) | (apply OQ.pick_f; exact rfl; exact rfl) | (apply OQ.move; exact rfl) | (apply OQ.assign; exact rfl) | (apply OQ.len; exact rfl; exact rfl) | (apply OQ.addN; exact rfl; exact rfl; exact (by (try simp only []); omega)) | (apply OQ.lssN; exact rfl; exact rfl) | (apply OQ.eqN; exact rfl; exact rfl) | (apply OQ.fld; exact rfl; exact rfl; exact rfl; exact (by decide); exact rfl)) rfl ?_ | refine JC.seq ?_ | refine JC.region ?_ | refine JC.block ?_ | refine JC.skip ?_ | refine JC.exit ?_ | refine JL.nil ?_ | refine JE.next ?_ | refine JE.blk_normal ?_ | refine JE.then_exit ?_ | refine JE.blk_hit ?_ | refine JE.blk_miss rfl ?_ | refine JE.then_ret ?_ | refine JE.blk_ret ?_ | refine JC.label ?_ | refine JL.gon rfl rfl ?_ | refine JL.gskip rfl rfl rfl rfl ?_ | refine JL.gskipU rfl rfl rfl rfl ?_)
      exact JC.ret (JE.ret1 rfl (RV.tmp rfl) fun w' hw => ⟨rfl, hw.chg⟩)
    · obtain rfl := htr rfl rfl
      repeat (first | refine JL.q (by first | (apply OQ.callx (vs := [Z a, Z a]); exact goes_fsame; exact rfl; exact (fun w' _ => raa w')) | (apply OQ.callx (vs := [Z a, Z b]); exact goes_fsame; exact rfl; exact (fun w' _ => rab w')) | (apply OQ.callx (vs := [Z b, Z a]); exact goes_fsame; exact rfl; exact (fun w' _ => rba w')) | (apply OQ.callx (vs := [Z b, Z c]); exact goes_fsame; exact rfl; exact (fun w' _ => rbc w')) | (apply OQ.callx (vs := [Z a, Z c]); exact goes_fsame; exact rfl; exact (fun w' _ => rac w')) | (apply OQ.not; exact rfl) | (apply OQ.neb; exact boolU; exact rfl; exact rfl) | (apply OQ.pick_t; exact rfl; exact rfl) | (apply OQ.pick_f; exact rfl; exact rfl) | (apply OQ.move; exact rfl) | (apply OQ.assign; exact rfl) | (apply OQ.len; exact rfl; exact rfl) | (apply OQ.addN; exact rfl; exact rfl; exact (by (try simp only []); omega)) | (apply OQ.lssN; exact rfl; exact rfl) | (apply OQ.eqN; exact rfl; exact rfl) | (apply OQ.fld; exact rfl; exact rfl; exact rfl; exact (by decide); exact rfl)) rfl ?_ | refine JC.seq ?_ | refine JC.region ?_ | refine JC.block ?_ | refine JC.skip ?_ | refine JC.exit ?_ | refine JL.nil ?_ | refine JE.next ?_ | refine JE.blk_normal ?_ | refine JE.then_exit ?_ | refine JE.blk_hit ?_ | refine JE.blk_miss rfl ?_ | refine JE.then_ret ?_ | refine JE.blk_ret ?_ | refine JC.label ?_ | refine JL.gon rfl rfl ?_ | refine JL.gskip rfl rfl rfl rfl ?_ | refine JL.gskipU rfl rfl rfl rfl ?_)
      refine JC.cond rfl (fun h => by cases h) (fun _ => ?_)
      repeat (first | refine JL.q (by first | (apply OQ.callx (vs := [Z a, Z b]); exact goes_fsame; exact rfl; exact (fun w' _ => rab w')) | (apply OQ.callx (vs := [Z a]); exact goes_fname; exact rfl; exact (fun w' _ => na w')) | (apply OQ.callx (vs := [Z b]); exact goes_fname; exact rfl; exact (fun w' _ => nb w')) | (apply OQ.lenS; exact Tryd.underlying9; exact rfl) | (apply OQ.not; exact rfl) | (apply OQ.eqbB (d := true); exact boolU; exact rfl; exact rfl; exact (beq_self_eq_true _)) | (apply OQ.eqB; exact rfl; exact rfl; exact hl0) | (apply OQ.pick_t; exact rfl; exact rfl) | (apply OQ.pick_f; exact rfl; exact rfl) | (apply OQ.move; exact rfl) | (apply OQ.assign; exact rfl) | (apply OQ.len; exact rfl; exact rfl) | (apply OQ.addN; exact rfl; exact rfl; exact (by (try simp only []); omega)) | (apply OQ.lssN; exact rfl; exact rfl) | (apply OQ.eqN; exact rfl; exact rfl) | (apply OQ.fld; exact rfl; exact rfl; exact rfl; exact (by decide); exact rfl)) rfl ?_ | refine JC.seq ?_ | refine JC.region ?_ | refine JC.block ?_ | refine JC.skip ?_ | refine JC.exit ?_ | refine JL.nil ?_ | refine JE.next ?_ | refine JE.blk_normal ?_ | refine JE.then_exit ?_ | refine JE.blk_hit ?_ | refine JE.blk_miss rfl ?_ | refine JE.then_ret ?_ | refine JE.blk_ret ?_ | refine JC.label ?_ | refine JL.gon rfl rfl ?_ | refine JL.gskip rfl rfl rfl rfl ?_ | refine JL.gskipU rfl rfl rfl rfl ?_)
      exact JC.ret (JE.ret1 rfl (RV.tmp rfl) fun w' hw => ⟨rfl, hw.chg⟩)
theorem has_skip {M : List Ent} {b : Nat} {A : Obj → Prop} {wr : Bool} : ∀ N : List Ent, Has M b A wr → Has (N ++ M) b A wr
  | [], h => h
  | _ :: N, h => .there (has_skip N h)
theorem foldB_len (n v : List Fld.By) : (foldB n v).length ≤ n.length + 4 + 3 * v.length := by
  have := (st_len n v v.length).1
  rw [foldB, List.length_append]
  simp only [List.length_cons, List.length_nil]
  omega
theorem nameB_len {n : List Fld.By} (h : nameB n = true) : n.length ≤ 64 := (name_parts h).2.2
theorem valB_len {v : List Fld.By} (h : valB v = true) : v.length ≤ 8192 := (valB_parts h).2.1
set_option maxHeartbeats 16000000 in
theorem law_fieldTold (hF : FieldOk) (a b n v : List Bt) (w : World) (ln : n.length < 9223372036854775808) (lv : v.length < 9223372036854775808) : Calls Tryd.prog 3 [Z a, Z b, .agg (pc (n, v)).toArray].toArray w fun e w' => e = .returned (.bool true) ∧ Ext w w' := by
  refine enter (n := 76) Tryd.func3 rfl rfl rfl (Holds.start w []) ?_
  have cs := fun w' => speaks9_any hF w'
  refine JC.seq (JC.region (JL.box (r := pc (n, v)) rfl rfl rfl fun bF hbF => ?_))
  repeat (first | refine JL.q (by first | (apply OQ.callx (vs := []); exact goes_speaks9; exact rfl; exact (fun w' _ => cs w')) | (apply OQ.not; exact rfl) | (apply OQ.move; exact rfl) | (apply OQ.assign; exact rfl) | (apply OQ.len; exact rfl; exact rfl) | (apply OQ.addN; exact rfl; exact rfl; exact (by (try simp only []); omega)) | (apply OQ.lssN; exact rfl; exact rfl) | (apply OQ.eqN; exact rfl; exact rfl) | (apply OQ.fld; exact rfl; exact rfl; exact rfl; exact (by decide); exact rfl)) rfl ?_ | refine JC.seq ?_ | refine JC.region ?_ | refine JC.block ?_ | refine JC.skip ?_ | refine JC.exit ?_ | refine JL.nil ?_ | refine JE.next ?_ | refine JE.blk_normal ?_ | refine JE.then_exit ?_ | refine JE.blk_hit ?_ | refine JE.blk_miss rfl ?_ | refine JE.then_ret ?_ | refine JE.blk_ret ?_ | refine JC.label ?_ | refine JL.gon rfl rfl ?_ | refine JL.gskip rfl rfl rfl rfl ?_ | refine JL.gskipU rfl rfl rfl rfl ?_)
  refine JC.cond rfl (fun h => by cases h) (fun _ => ?_)
  cases g0 : decide ((300 : Int) < (a.length : Int)) <;> cases g1 : decide ((300 : Int) < (b.length : Int)) <;> cases g2 : decide ((9000 : Int) < (v.length : Int))
  all_goals (repeat (first | refine JL.q (by first | (apply OQ.lenS; exact Tryd.underlying9; exact rfl) | (apply OQ.load; exact strC; exact rfl; exact (by repeat (first | exact Has.here | apply Has.there)); exact (Row.cell (v := Z v) rfl)) | (apply OQ.gtrB (b := 300); exact rfl; exact rfl; exact g0) | (apply OQ.gtrB (b := 300); exact rfl; exact rfl; exact g1) | (apply OQ.gtrB (b := 9000); exact rfl; exact rfl; exact g2) | (apply OQ.pick_t; exact rfl; exact rfl) | (apply OQ.pick_f; exact rfl; exact rfl) | (apply OQ.move; exact rfl) | (apply OQ.assign; exact rfl) | (apply OQ.len; exact rfl; exact rfl) | (apply OQ.addN; exact rfl; exact rfl; exact (by (try simp only []); omega)) | (apply OQ.lssN; exact rfl; exact rfl) | (apply OQ.eqN; exact rfl; exact rfl) | (apply OQ.fld; exact rfl; exact rfl; exact rfl; exact (by decide); exact rfl)) rfl ?_ | refine JC.seq ?_ | refine JC.region ?_ | refine JC.block ?_ | refine JC.skip ?_ | refine JC.exit ?_ | refine JL.nil ?_ | refine JE.next ?_ | refine JE.blk_normal ?_ | refine JE.then_exit ?_ | refine JE.blk_hit ?_ | refine JE.blk_miss rfl ?_ | refine JE.then_ret ?_ | refine JE.blk_ret ?_ | refine JC.label ?_ | refine JL.gon rfl rfl ?_ | refine JL.gskip rfl rfl rfl rfl ?_ | refine JL.gskipU rfl rfl rfl rfl ?_))
  all_goals refine JC.cond rfl (fun h => ?_) (fun h => ?_)
  all_goals first | (exfalso; revert h; decide) | skip
  all_goals clear h
  all_goals first
    | ((repeat (first | refine JL.q (by first | (apply OQ.move; exact rfl) | (apply OQ.assign; exact rfl) | (apply OQ.len; exact rfl; exact rfl) | (apply OQ.addN; exact rfl; exact rfl; exact (by (try simp only []); omega)) | (apply OQ.lssN; exact rfl; exact rfl) | (apply OQ.eqN; exact rfl; exact rfl) | (apply OQ.fld; exact rfl; exact rfl; exact rfl; exact (by decide); exact rfl)) rfl ?_ | refine JC.seq ?_ | refine JC.region ?_ | refine JC.block ?_ | refine JC.skip ?_ | refine JC.exit ?_ | refine JL.nil ?_ | refine JE.next ?_ | refine JE.blk_normal ?_ | refine JE.then_exit ?_ | refine JE.blk_hit ?_ | refine JE.blk_miss rfl ?_ | refine JE.then_ret ?_ | refine JE.blk_ret ?_ | refine JC.label ?_ | refine JL.gon rfl rfl ?_ | refine JL.gskip rfl rfl rfl rfl ?_ | refine JL.gskipU rfl rfl rfl rfl ?_))
       refine JC.ret ?_
       (repeat (first | refine JL.q (by first | (apply OQ.move; exact rfl) | (apply OQ.assign; exact rfl) | (apply OQ.len; exact rfl; exact rfl) | (apply OQ.addN; exact rfl; exact rfl; exact (by (try simp only []); omega)) | (apply OQ.lssN; exact rfl; exact rfl) | (apply OQ.eqN; exact rfl; exact rfl) | (apply OQ.fld; exact rfl; exact rfl; exact rfl; exact (by decide); exact rfl)) rfl ?_ | refine JC.seq ?_ | refine JC.region ?_ | refine JC.block ?_ | refine JC.skip ?_ | refine JC.exit ?_ | refine JL.nil ?_ | refine JE.next ?_ | refine JE.blk_normal ?_ | refine JE.then_exit ?_ | refine JE.blk_hit ?_ | refine JE.blk_miss rfl ?_ | refine JE.then_ret ?_ | refine JE.blk_ret ?_ | refine JC.label ?_ | refine JL.gon rfl rfl ?_ | refine JL.gskip rfl rfl rfl rfl ?_ | refine JL.gskipU rfl rfl rfl rfl ?_))
       exact JE.ret1 rfl (RV.tmp rfl) fun w' hw => ⟨rfl, hw.chg⟩)
    | skip
  have la : a.length ≤ 300 := by have := of_decide_eq_false g0; omega
  have lb : b.length ≤ 300 := by have := of_decide_eq_false g1; omega
  repeat (first | refine JL.q (by first | (apply OQ.load_agg (cs := pc (n, v)); exact fieldA; exact fieldS; exact rfl; exact (by repeat (first | exact Has.here | apply Has.there)); exact rfl; exact Row.all) | (apply OQ.move; exact rfl) | (apply OQ.assign; exact rfl) | (apply OQ.len; exact rfl; exact rfl) | (apply OQ.addN; exact rfl; exact rfl; exact (by (try simp only []); omega)) | (apply OQ.lssN; exact rfl; exact rfl) | (apply OQ.eqN; exact rfl; exact rfl) | (apply OQ.fld; exact rfl; exact rfl; exact rfl; exact (by decide); exact rfl)) rfl ?_ | refine JC.seq ?_ | refine JC.region ?_ | refine JC.block ?_ | refine JC.skip ?_ | refine JC.exit ?_ | refine JL.nil ?_ | refine JE.next ?_ | refine JE.blk_normal ?_ | refine JE.then_exit ?_ | refine JE.blk_hit ?_ | refine JE.blk_miss rfl ?_ | refine JE.then_ret ?_ | refine JE.blk_ret ?_ | refine JC.label ?_ | refine JL.gon rfl rfl ?_ | refine JL.gskip rfl rfl rfl rfl ?_ | refine JL.gskipU rfl rfl rfl rfl ?_)
  refine JL.callg (vs := [.agg (pc (n, v)).toArray]) (ι := { x : Sl8 // Ans x (foldR n v) }) (fun x => .tuple #[x.1.v, N (codeF n v)]) (fun x => x.1.ents) goes_ffold rfl rfl (fun x => x.1.ents_wr) (fun w' _ => hF.fold n v w' ln lv) ?_
  rintro ⟨x, hx⟩
  dsimp only
  have hasB : ∀ {A : Obj → Prop}, Has (x.ents ++ [⟨bF, A, true⟩]) bF A true := has_skip _ .here
  have na := fun w' => hF.name a w' (by omega)
  have ra := fun w' => rname_any a w' (by omega)
  have vb := fun w' => hF.value b w' (by omega)
  have rb := fun w' => rvalue_any b w' (by omega)
  have sab := fun w' => hF.same a b w' (by omega) (by omega)
  have rab := fun w' => rsame9_any a b w' (by omega) (by omega)
  generalize nameB a = ma at na ra
  generalize valB b = mb at vb rb
  generalize sameB a b = mab at sab rab
  repeat (first | refine JL.q (by first | (apply OQ.extract; exact rfl; exact rfl) | (apply OQ.callx (vs := [Z a]); exact goes_fname; exact rfl; exact (fun w' _ => na w')) | (apply OQ.callx (vs := [Z a]); exact goes_rname; exact rfl; exact (fun w' _ => ra w')) | (apply OQ.callx (vs := [Z b]); exact goes_fvalue; exact rfl; exact (fun w' _ => vb w')) | (apply OQ.callx (vs := [Z b]); exact goes_rvalue; exact rfl; exact (fun w' _ => rb w')) | (apply OQ.callx (vs := [Z a, Z b]); exact goes_fsame; exact rfl; exact (fun w' _ => sab w')) | (apply OQ.callx (vs := [Z a, Z b]); exact goes_rsame9; exact rfl; exact (fun w' _ => rab w')) | (apply OQ.neb; exact boolU; exact rfl; exact rfl) | (apply OQ.pick_f; exact rfl; exact rfl) | (apply OQ.move; exact rfl) | (apply OQ.assign; exact rfl) | (apply OQ.len; exact rfl; exact rfl) | (apply OQ.addN; exact rfl; exact rfl; exact (by (try simp only []); omega)) | (apply OQ.lssN; exact rfl; exact rfl) | (apply OQ.eqN; exact rfl; exact rfl) | (apply OQ.fld; exact rfl; exact rfl; exact rfl; exact (by decide); exact rfl)) rfl ?_ | refine JC.seq ?_ | refine JC.region ?_ | refine JC.block ?_ | refine JC.skip ?_ | refine JC.exit ?_ | refine JL.nil ?_ | refine JE.next ?_ | refine JE.blk_normal ?_ | refine JE.then_exit ?_ | refine JE.blk_hit ?_ | refine JE.blk_miss rfl ?_ | refine JE.then_ret ?_ | refine JE.blk_ret ?_ | refine JC.label ?_ | refine JL.gon rfl rfl ?_ | refine JL.gskip rfl rfl rfl rfl ?_ | refine JL.gskipU rfl rfl rfl rfl ?_)
  refine JC.cond rfl (fun h => by cases h) (fun _ => ?_)
  have rn := fun w' => rname_any n w' ln
  have rv := fun w' => rvalue_any v w' lv
  cases h1 : nameB n <;> cases h2 : valB v
  all_goals (repeat (first | refine JL.q (by first | (apply OQ.load; exact strC; exact rfl; exact hasB; exact (Row.cell (v := Z v) rfl)) | (apply OQ.load; exact strC; exact rfl; exact hasB; exact (Row.cell (v := Z n) rfl)) | (apply OQ.callb (vs := [Z n]); exact goes_rname; exact rfl; exact rn; exact h1) | (apply OQ.callb (vs := [Z v]); exact goes_rvalue; exact rfl; exact rv; exact h2) | (apply OQ.not; exact rfl) | (apply OQ.pick_t; exact rfl; exact rfl) | (apply OQ.pick_f; exact rfl; exact rfl) | (apply OQ.move; exact rfl) | (apply OQ.assign; exact rfl) | (apply OQ.len; exact rfl; exact rfl) | (apply OQ.addN; exact rfl; exact rfl; exact (by (try simp only []); omega)) | (apply OQ.lssN; exact rfl; exact rfl) | (apply OQ.eqN; exact rfl; exact rfl) | (apply OQ.fld; exact rfl; exact rfl; exact rfl; exact (by decide); exact rfl)) rfl ?_ | refine JC.seq ?_ | refine JC.region ?_ | refine JC.block ?_ | refine JC.skip ?_ | refine JC.exit ?_ | refine JL.nil ?_ | refine JE.next ?_ | refine JE.blk_normal ?_ | refine JE.then_exit ?_ | refine JE.blk_hit ?_ | refine JE.blk_miss rfl ?_ | refine JE.then_ret ?_ | refine JE.blk_ret ?_ | refine JC.label ?_ | refine JL.gon rfl rfl ?_ | refine JL.gskip rfl rfl rfl rfl ?_ | refine JL.gskipU rfl rfl rfl rfl ?_))
  all_goals refine JC.cond rfl (fun h => ?_) (fun h => ?_)
  all_goals first | (exfalso; revert h; decide) | skip
  all_goals clear h
  all_goals first
    | (have hg : goodF n v = false := by rw [goodF, h1, h2]; rfl
       have hc : codeF n v = 3 := by rw [codeF, hg]; rfl
       have hx0 : x.l = [] := by rw [hx.val, foldR, hg]; rfl
       have vx : x.v = .slice x.ad 0 x.cap := by rw [Sl8.v, hx0]; rfl
       rw [hc, vx]
       (repeat (first | refine JL.q (by first | (apply OQ.eqB (b := 3); exact rfl; exact rfl; exact rfl) | (apply OQ.eqB (b := 0); exact rfl; exact rfl; exact rfl) | (apply OQ.pick_t; exact rfl; exact rfl) | (apply OQ.move; exact rfl) | (apply OQ.assign; exact rfl) | (apply OQ.len; exact rfl; exact rfl) | (apply OQ.addN; exact rfl; exact rfl; exact (by (try simp only []); omega)) | (apply OQ.lssN; exact rfl; exact rfl) | (apply OQ.eqN; exact rfl; exact rfl) | (apply OQ.fld; exact rfl; exact rfl; exact rfl; exact (by decide); exact rfl)) rfl ?_ | refine JC.seq ?_ | refine JC.region ?_ | refine JC.block ?_ | refine JC.skip ?_ | refine JC.exit ?_ | refine JL.nil ?_ | refine JE.next ?_ | refine JE.blk_normal ?_ | refine JE.then_exit ?_ | refine JE.blk_hit ?_ | refine JE.blk_miss rfl ?_ | refine JE.then_ret ?_ | refine JE.blk_ret ?_ | refine JC.label ?_ | refine JL.gon rfl rfl ?_ | refine JL.gskip rfl rfl rfl rfl ?_ | refine JL.gskipU rfl rfl rfl rfl ?_))
       refine JC.ret ?_
       (repeat (first | refine JL.q (by first | (apply OQ.move; exact rfl) | (apply OQ.assign; exact rfl) | (apply OQ.len; exact rfl; exact rfl) | (apply OQ.addN; exact rfl; exact rfl; exact (by (try simp only []); omega)) | (apply OQ.lssN; exact rfl; exact rfl) | (apply OQ.eqN; exact rfl; exact rfl) | (apply OQ.fld; exact rfl; exact rfl; exact rfl; exact (by decide); exact rfl)) rfl ?_ | refine JC.seq ?_ | refine JC.region ?_ | refine JC.block ?_ | refine JC.skip ?_ | refine JC.exit ?_ | refine JL.nil ?_ | refine JE.next ?_ | refine JE.blk_normal ?_ | refine JE.then_exit ?_ | refine JE.blk_hit ?_ | refine JE.blk_miss rfl ?_ | refine JE.then_ret ?_ | refine JE.blk_ret ?_ | refine JC.label ?_ | refine JL.gon rfl rfl ?_ | refine JL.gskip rfl rfl rfl rfl ?_ | refine JL.gskipU rfl rfl rfl rfl ?_))
       exact JE.ret1 rfl (RV.tmp rfl) fun w' hw => ⟨rfl, hw.chg⟩)
    | skip
  have hg : goodF n v = true := by rw [goodF, h1, h2]; rfl
  have hc : codeF n v = 0 := by rw [codeF, hg]; rfl
  have hx0 : x.l = foldB n v := by rw [hx.val, foldR, hg]; rfl
  have l1 := nameB_len h1
  have l2 := valB_len h2
  have l3 := foldB_len n v
  rw [hc]
  repeat (first | refine JL.q (by first | (apply OQ.eqB (b := 0); exact rfl; exact rfl; exact rfl) | (apply OQ.load_agg (cs := pc (n, v)); exact fieldA; exact fieldS; exact rfl; exact hasB; exact rfl; exact Row.all) | (apply OQ.move; exact rfl) | (apply OQ.assign; exact rfl) | (apply OQ.len; exact rfl; exact rfl) | (apply OQ.addN; exact rfl; exact rfl; exact (by (try simp only []); omega)) | (apply OQ.lssN; exact rfl; exact rfl) | (apply OQ.eqN; exact rfl; exact rfl) | (apply OQ.fld; exact rfl; exact rfl; exact rfl; exact (by decide); exact rfl)) rfl ?_ | refine JC.seq ?_ | refine JC.region ?_ | refine JC.block ?_ | refine JC.skip ?_ | refine JC.exit ?_ | refine JL.nil ?_ | refine JE.next ?_ | refine JE.blk_normal ?_ | refine JE.then_exit ?_ | refine JE.blk_hit ?_ | refine JE.blk_miss rfl ?_ | refine JE.then_ret ?_ | refine JE.blk_ret ?_ | refine JC.label ?_ | refine JL.gon rfl rfl ?_ | refine JL.gskip rfl rfl rfl rfl ?_ | refine JL.gskipU rfl rfl rfl rfl ?_)
  refine JL.callg (vs := [.agg #[Z n, Z v]]) (ι := { y : Sl8 // Ans y (foldB n v) }) (fun y => y.1.v) (fun y => y.1.ents) goes_rfold rfl rfl (fun y => y.1.ents_wr) (fun w' hw' => (rfold_any n v w' (by omega) (by omega)).mono fun e w2 ⟨y, h1, h2, h3⟩ => ⟨⟨y, h2⟩, h1, h3⟩) ?_
  rintro ⟨y, hy⟩
  dsimp only
  repeat (first | refine JL.q (by first | (apply OQ.callx (vs := [x.v, y.v]); exact goes_same; exact rfl; exact (fun w' hw' => same_t rfl rfl (hx.ok2 hw') (hy.ok hw') (by rw [hx0]; omega) (by rw [hx0, hy.val]))) | (apply OQ.pick_t; exact rfl; exact rfl) | (apply OQ.move; exact rfl) | (apply OQ.assign; exact rfl) | (apply OQ.len; exact rfl; exact rfl) | (apply OQ.addN; exact rfl; exact rfl; exact (by (try simp only []); omega)) | (apply OQ.lssN; exact rfl; exact rfl) | (apply OQ.eqN; exact rfl; exact rfl) | (apply OQ.fld; exact rfl; exact rfl; exact rfl; exact (by decide); exact rfl)) rfl ?_ | refine JC.seq ?_ | refine JC.region ?_ | refine JC.block ?_ | refine JC.skip ?_ | refine JC.exit ?_ | refine JL.nil ?_ | refine JE.next ?_ | refine JE.blk_normal ?_ | refine JE.then_exit ?_ | refine JE.blk_hit ?_ | refine JE.blk_miss rfl ?_ | refine JE.then_ret ?_ | refine JE.blk_ret ?_ | refine JC.label ?_ | refine JL.gon rfl rfl ?_ | refine JL.gskip rfl rfl rfl rfl ?_ | refine JL.gskipU rfl rfl rfl rfl ?_)
  exact JC.ret (JE.ret1 rfl (RV.tmp rfl) fun w' hw => ⟨rfl, hw.chg⟩)
end Go.Proofs.YtchoiikhepjdiaaDoor
