/-
  Of no statement by itself: what FieldFront gives, over FieldOk.
  Conditions: FieldOk, and each theorem's own.
-/
import Derived.Test.YtchoiikhepjdiaaDoorFieL
namespace Go.Proofs.YtchoiikhepjdiaaDoor
set_option maxRecDepth 10000
open Sl Fld
def foldAll (l : List Pr) : List Bt := l.flatMap fun p => foldB p.1 p.2
theorem foldAll_snoc (l : List Pr) {i : Nat} (h : i < l.length) : foldAll (l.take (i + 1)) = foldAll (l.take i) ++ foldB (l.getD i ([], [])).1 (l.getD i ([], [])).2 := by
  have e : l.take (i + 1) = l.take i ++ [l.getD i ([], [])] := by
    rw [List.take_add_one, List.getD_eq_getElem?_getD, List.getElem?_eq_getElem h]; rfl
  rw [e]
  unfold foldAll
  rw [List.flatMap_append, List.flatMap_singleton]
theorem right_all {l : List Pr} (h : rightB l = true) : (∀ p ∈ l, nameB p.1 = true ∧ valB p.2 = true) ∧ l.length ≤ 200 := by
  simp only [rightB, Bool.and_eq_true, List.all_eq_true, decide_eq_true_eq] at h
  exact h
theorem hd_all : ∀ (l : List Pr), (∀ p ∈ l, nameB p.1 = true ∧ valB p.2 = true) → Hd l (foldAll l)
  | [], _ => .nil
  | (n, v) :: l, h => by
    obtain ⟨h1, h2⟩ := h (n, v) (by simp)
    obtain ⟨L, e, hf⟩ := fold_fo n v (valB_parts h2).1
    have := Hd.cons n v L [13, 10] l _ h1 h2 hf (.inr rfl) (hd_all l fun p hp => h p (by simp [hp]))
    show Hd _ (foldB n v ++ foldAll l)
    rw [e]
    exact this
theorem foldAll_len {l : List Pr} (h : ∀ p ∈ l, nameB p.1 = true ∧ valB p.2 = true) : (foldAll l).length ≤ 25000 * l.length := by
  induction l with
  | nil => simp [foldAll]
  | cons p l ih =>
    have ih := ih fun q hq => h q (by simp [hq])
    obtain ⟨h1, h2⟩ := h p (by simp)
    have l1 := nameB_len h1
    have l2 := valB_len h2
    have l3 := foldB_len p.1 p.2
    show (foldB p.1 p.2 ++ foldAll l).length ≤ 25000 * (l.length + 1)
    rw [List.length_append]
    omega
theorem repl_skip {M M' : List Ent} {b b' : Nat} {A A' : Obj → Prop} : ∀ N : List Ent, Repl M b A b' A' M' → Repl (N ++ M) b A b' A' (N ++ M')
  | [], h => h
  | _ :: N, h => .there (repl_skip N h)
theorem cut_pre {T : List Bt} {m : Nat} (h : m < T.length) : ∃ x s, T = T.take m ++ x :: s := by
  have e := (List.take_append_drop m T).symm
  cases hd : T.drop m with
  | nil =>
    have := congrArg List.length hd
    rw [List.length_drop] at this
    simp at this
    omega
  | cons x s =>
    rw [hd] at e
    exact ⟨x, s, e⟩
theorem OQ.lowQ {P : Program} {n : Nat} {E : Env} {C : World → Prop} {dst : Option Tmp} {t t' ty : TypeId} {pos : String} {aft : Array Edge} {g : Option (Nat × Bool)} {x y : Operand} {a : Int} {m q : Nat} (hx : ev E x = some (.int .i64 a)) (hy : ev E y = some (.int .i64 m)) (hm : m < 9223372036854775808) (h : (BitVec.ofInt 64 a &&& BitVec.ofNat 64 m).toNat = q) : OQ P n E C ⟨dst, .binOp .and t x y t', ty, pos, aft, g⟩ (N q) := OQ.to (OQ.lowI hx hy hm) (by rw [h])
theorem OQ.and1M {P : Program} {n : Nat} {E : Env} {C : World → Prop} {dst : Option Tmp} {t t' ty : TypeId} {pos : String} {aft : Array Edge} {g : Option (Nat × Bool)} {x y : Operand} {a : Nat} (hx : ev E x = some (N a)) (hy : ev E y = some (.int .i64 1)) : OQ P n E C ⟨dst, .binOp .and t x y t', ty, pos, aft, g⟩ (N (a % 2)) := by
  have := OQ.andI (P := P) (n := n) (C := C) (dst := dst) (ty := ty) (t := t) (t' := t') (pos := pos) (aft := aft) (g := g) (a := (a : Int)) (m := 1) (r := 2) 1 (by decide) rfl rfl hx hy
  rwa [show ((a : Int) % 2) = ((a % 2 : Nat) : Int) by omega] at this
theorem i64sz : szT Tryd.prog 3 = some 1 := by kernel_rfl
theorem i64sc : scal Tryd.prog 3 = true := by kernel_rfl
theorem fieldZ : zc Tryd.prog 23 = some [Z [], Z []] := by kernel_rfl
set_option maxHeartbeats 32000000 in
theorem law_fieldFront (hF : FieldOk) (a : Sl2) (s : Sl8) (c : Int) (w : World) (ha : a.ok w) (hs : s.ok w) (hz : small2 a) (hal : a.cap ≤ maxLen) : Calls Tryd.prog 6 [a.v, s.v, I c].toArray w fun e w' => e = .returned (.bool true) ∧ Ext w w' := by
  have hal2 : a.l.length < 9223372036854775808 := by
    have := ha.len
    unfold maxLen at hal
    omega
  refine enter (n := 108) Tryd.func6 rfl rfl rfl (Holds.start w []) ?_
  have cs := fun w' => speaks9_any hF w'
  repeat (first | refine JL.q (by first | (apply OQ.callx (vs := []); exact goes_speaks9; exact rfl; exact (fun w' _ => cs w')) | (apply OQ.not; exact rfl) | (apply OQ.move; exact rfl) | (apply OQ.assign; exact rfl) | (apply OQ.len; exact rfl; exact rfl) | (apply OQ.addN; exact rfl; exact rfl; exact (by (try simp only []); omega)) | (apply OQ.remN; exact rfl; exact rfl; exact (by (try simp only []); omega)) | (apply OQ.lssN; exact rfl; exact rfl) | (apply OQ.eqN; exact rfl; exact rfl) | (apply OQ.fld; exact rfl; exact rfl; exact rfl; exact (by decide); exact rfl)) rfl ?_ | refine JC.seq ?_ | refine JC.region ?_ | refine JC.block ?_ | refine JC.skip ?_ | refine JC.exit ?_ | refine JL.nil ?_ | refine JE.next ?_ | refine JE.blk_normal ?_ | refine JE.then_exit ?_ | refine JE.blk_hit ?_ | refine JE.blk_miss rfl ?_ | refine JE.then_ret ?_ | refine JE.blk_ret ?_ | refine JC.label ?_ | refine JL.gon rfl rfl ?_ | refine JL.gskip rfl rfl rfl rfl ?_ | refine JL.gskipU rfl rfl rfl rfl ?_)
  refine JC.cond rfl (fun h => by cases h) (fun _ => ?_)
  cases g0 : decide ((20 : Int) < (a.l.length : Int)) <;> cases g1 : decide ((500 : Int) < (s.l.length : Int)) <;> cases g2 : rightB a.l
  all_goals (repeat (first | refine JL.q (by first | (apply OQ.len; exact Tryd.underlying34; exact rfl) | (apply OQ.len; exact Tryd.underlying25; exact rfl) | (apply OQ.gtrB (b := 20); exact rfl; exact rfl; exact g0) | (apply OQ.gtrB (b := 500); exact rfl; exact rfl; exact g1) | (apply OQ.callx (v := .bool true) (vs := [a.v]); exact goes_rright; exact rfl; exact (fun w' hw' => g2 ▸ rright_any a w' (ha.holds hw' rfl) hz hal2)) | (apply OQ.callx (v := .bool false) (vs := [a.v]); exact goes_rright; exact rfl; exact (fun w' hw' => g2 ▸ rright_any a w' (ha.holds hw' rfl) hz hal2)) | (apply OQ.not; exact rfl) | (apply OQ.pick_t; exact rfl; exact rfl) | (apply OQ.pick_f; exact rfl; exact rfl) | (apply OQ.move; exact rfl) | (apply OQ.assign; exact rfl) | (apply OQ.len; exact rfl; exact rfl) | (apply OQ.addN; exact rfl; exact rfl; exact (by (try simp only []); omega)) | (apply OQ.remN; exact rfl; exact rfl; exact (by (try simp only []); omega)) | (apply OQ.lssN; exact rfl; exact rfl) | (apply OQ.eqN; exact rfl; exact rfl) | (apply OQ.fld; exact rfl; exact rfl; exact rfl; exact (by decide); exact rfl)) rfl ?_ | refine JC.seq ?_ | refine JC.region ?_ | refine JC.block ?_ | refine JC.skip ?_ | refine JC.exit ?_ | refine JL.nil ?_ | refine JE.next ?_ | refine JE.blk_normal ?_ | refine JE.then_exit ?_ | refine JE.blk_hit ?_ | refine JE.blk_miss rfl ?_ | refine JE.then_ret ?_ | refine JE.blk_ret ?_ | refine JC.label ?_ | refine JL.gon rfl rfl ?_ | refine JL.gskip rfl rfl rfl rfl ?_ | refine JL.gskipU rfl rfl rfl rfl ?_))
  all_goals refine JC.cond rfl (fun h => ?_) (fun h => ?_)
  all_goals first | (exfalso; revert h; decide) | skip
  all_goals clear h
  all_goals first
    | ((repeat (first | refine JL.q (by first | (apply OQ.move; exact rfl) | (apply OQ.assign; exact rfl) | (apply OQ.len; exact rfl; exact rfl) | (apply OQ.addN; exact rfl; exact rfl; exact (by (try simp only []); omega)) | (apply OQ.remN; exact rfl; exact rfl; exact (by (try simp only []); omega)) | (apply OQ.lssN; exact rfl; exact rfl) | (apply OQ.eqN; exact rfl; exact rfl) | (apply OQ.fld; exact rfl; exact rfl; exact rfl; exact (by decide); exact rfl)) rfl ?_ | refine JC.seq ?_ | refine JC.region ?_ | refine JC.block ?_ | refine JC.skip ?_ | refine JC.exit ?_ | refine JL.nil ?_ | refine JE.next ?_ | refine JE.blk_normal ?_ | refine JE.then_exit ?_ | refine JE.blk_hit ?_ | refine JE.blk_miss rfl ?_ | refine JE.then_ret ?_ | refine JE.blk_ret ?_ | refine JC.label ?_ | refine JL.gon rfl rfl ?_ | refine JL.gskip rfl rfl rfl rfl ?_ | refine JL.gskipU rfl rfl rfl rfl ?_))
       refine JC.ret ?_
       (repeat (first | refine JL.q (by first | (apply OQ.move; exact rfl) | (apply OQ.assign; exact rfl) | (apply OQ.len; exact rfl; exact rfl) | (apply OQ.addN; exact rfl; exact rfl; exact (by (try simp only []); omega)) | (apply OQ.remN; exact rfl; exact rfl; exact (by (try simp only []); omega)) | (apply OQ.lssN; exact rfl; exact rfl) | (apply OQ.eqN; exact rfl; exact rfl) | (apply OQ.fld; exact rfl; exact rfl; exact rfl; exact (by decide); exact rfl)) rfl ?_ | refine JC.seq ?_ | refine JC.region ?_ | refine JC.block ?_ | refine JC.skip ?_ | refine JC.exit ?_ | refine JL.nil ?_ | refine JE.next ?_ | refine JE.blk_normal ?_ | refine JE.then_exit ?_ | refine JE.blk_hit ?_ | refine JE.blk_miss rfl ?_ | refine JE.then_ret ?_ | refine JE.blk_ret ?_ | refine JC.label ?_ | refine JL.gon rfl rfl ?_ | refine JL.gskip rfl rfl rfl rfl ?_ | refine JL.gskipU rfl rfl rfl rfl ?_))
       exact JE.ret1 rfl (RV.tmp rfl) fun w' hw => ⟨rfl, hw.chg⟩)
    | skip
  have la : a.l.length ≤ 20 := by have := of_decide_eq_false g0; omega
  have ls : s.l.length ≤ 500 := by have := of_decide_eq_false g1; omega
  obtain ⟨hr, _⟩ := right_all g2
  clear g0 g1
  repeat (first | refine JL.q (by first | (apply OQ.move; exact rfl) | (apply OQ.assign; exact rfl) | (apply OQ.len; exact rfl; exact rfl) | (apply OQ.addN; exact rfl; exact rfl; exact (by (try simp only []); omega)) | (apply OQ.remN; exact rfl; exact rfl; exact (by (try simp only []); omega)) | (apply OQ.lssN; exact rfl; exact rfl) | (apply OQ.eqN; exact rfl; exact rfl) | (apply OQ.fld; exact rfl; exact rfl; exact rfl; exact (by decide); exact rfl)) rfl ?_ | refine JC.seq ?_ | refine JC.region ?_ | refine JC.block ?_ | refine JC.skip ?_ | refine JC.exit ?_ | refine JL.nil ?_ | refine JE.next ?_ | refine JE.blk_normal ?_ | refine JE.then_exit ?_ | refine JE.blk_hit ?_ | refine JE.blk_miss rfl ?_ | refine JE.then_ret ?_ | refine JE.blk_ret ?_ | refine JC.label ?_ | refine JL.gon rfl rfl ?_ | refine JL.gskip rfl rfl rfl rfl ?_ | refine JL.gskipU rfl rfl rfl rfl ?_)
  refine JL.lit0O Tryd.underlying25 u8e rfl fun b0 _ => ?_
  repeat (first | refine JL.q (by first | (apply OQ.len; exact Tryd.underlying34; exact rfl) | (apply OQ.move; exact rfl) | (apply OQ.assign; exact rfl) | (apply OQ.len; exact rfl; exact rfl) | (apply OQ.addN; exact rfl; exact rfl; exact (by (try simp only []); omega)) | (apply OQ.remN; exact rfl; exact rfl; exact (by (try simp only []); omega)) | (apply OQ.lssN; exact rfl; exact rfl) | (apply OQ.eqN; exact rfl; exact rfl) | (apply OQ.fld; exact rfl; exact rfl; exact rfl; exact (by decide); exact rfl)) rfl ?_ | refine JC.seq ?_ | refine JC.region ?_ | refine JC.block ?_ | refine JC.skip ?_ | refine JC.exit ?_ | refine JL.nil ?_ | refine JE.next ?_ | refine JE.blk_normal ?_ | refine JE.then_exit ?_ | refine JE.blk_hit ?_ | refine JE.blk_miss rfl ?_ | refine JE.then_ret ?_ | refine JE.blk_ret ?_ | refine JC.label ?_ | refine JL.gon rfl rfl ?_ | refine JL.gskip rfl rfl rfl rfl ?_ | refine JL.gskipU rfl rfl rfl rfl ?_)
  refine JC.loop (fun q : Nat × Nat × Nat => [(0, a.v), (1, s.v), (2, I c), (7, .slice (some ⟨q.2.1, 0, none⟩) (foldAll (a.l.take q.1)).length q.2.2), (34, a.v), (35, N a.l.length), (36, N q.1)])
    (fun q => [⟨q.2.1, Sl.Own 5 1 (foldAll (a.l.take q.1)).length q.2.2 ((foldAll (a.l.take q.1)).map U8), true⟩]) (fun q => a.l.length - q.1) (fun q => q.1 ≤ a.l.length) (0, b0, 0) (Nat.zero_le _) (by repeat (first | exact SubE.nil | refine SubE.cons _ _ _ rfl ?_)) (.keep _ _ _ _ _ _ (fun _ h => h) (.nil _)) ?_
  rintro ⟨i, b, cap⟩ hi
  simp only at hi
  dsimp only
  repeat (first | refine JL.q (by first | (apply OQ.move; exact rfl) | (apply OQ.assign; exact rfl) | (apply OQ.len; exact rfl; exact rfl) | (apply OQ.addN; exact rfl; exact rfl; exact (by (try simp only []); omega)) | (apply OQ.remN; exact rfl; exact rfl; exact (by (try simp only []); omega)) | (apply OQ.lssN; exact rfl; exact rfl) | (apply OQ.eqN; exact rfl; exact rfl) | (apply OQ.fld; exact rfl; exact rfl; exact rfl; exact (by decide); exact rfl)) rfl ?_ | refine JC.seq ?_ | refine JC.region ?_ | refine JC.block ?_ | refine JC.skip ?_ | refine JC.exit ?_ | refine JL.nil ?_ | refine JE.next ?_ | refine JE.blk_normal ?_ | refine JE.then_exit ?_ | refine JE.blk_hit ?_ | refine JE.blk_miss rfl ?_ | refine JE.then_ret ?_ | refine JE.blk_ret ?_ | refine JC.label ?_ | refine JL.gon rfl rfl ?_ | refine JL.gskip rfl rfl rfl rfl ?_ | refine JL.gskipU rfl rfl rfl rfl ?_)
  refine JC.cond rfl (fun h => ?_) (fun h => ?_)
  · have hi' : i < a.l.length := of_decide_eq_true h
    clear h hi
    have hsn := foldAll_snoc a.l hi'
    have hTl := foldAll_len (l := a.l.take i) (fun p hp => hr p (List.mem_of_mem_take hp))
    rw [List.length_take] at hTl
    obtain ⟨hn, hv⟩ := hr _ (mem_getD hi')
    obtain ⟨z1, z2⟩ := hz _ (mem_getD hi')
    obtain ⟨ba, ja, eA, lba, ca1, ca2⟩ := ha.at hi'
    have cA := pair_cells ca1 ca2
    have vA : a.v = .slice (some ⟨ba, ja, none⟩) a.l.length a.cap := by rw [← eA]; rfl
    generalize a.l.getD i ([], []) = p at hsn hn hv z1 z2 cA
    obtain ⟨n, v⟩ := p
    dsimp only at hsn hn hv z1 z2
    have hg : goodF n v = true := by rw [goodF, hn, hv]; rfl
    have hfr : foldR n v = foldB n v := by rw [foldR, hg]; rfl
    have hfl := foldB_len n v
    have l1 := nameB_len hn
    have l2 := valB_len hv
    generalize foldAll (a.l.take i) = T at hsn hTl ⊢
    rw [vA]
    repeat (first | refine JL.q (by first | (apply OQ.idxS; exact Tryd.underlying34; exact fieldS; exact rfl; exact rfl; exact hi') | (apply OQ.load_agg_old (cs := pc (n, v)); exact fieldA; exact rfl; exact fieldS; exact lba; exact (by simp); exact cA) | (apply OQ.move; exact rfl) | (apply OQ.assign; exact rfl) | (apply OQ.len; exact rfl; exact rfl) | (apply OQ.addN; exact rfl; exact rfl; exact (by (try simp only []); omega)) | (apply OQ.remN; exact rfl; exact rfl; exact (by (try simp only []); omega)) | (apply OQ.lssN; exact rfl; exact rfl) | (apply OQ.eqN; exact rfl; exact rfl) | (apply OQ.fld; exact rfl; exact rfl; exact rfl; exact (by decide); exact rfl)) rfl ?_ | refine JC.seq ?_ | refine JC.region ?_ | refine JC.block ?_ | refine JC.skip ?_ | refine JC.exit ?_ | refine JL.nil ?_ | refine JE.next ?_ | refine JE.blk_normal ?_ | refine JE.then_exit ?_ | refine JE.blk_hit ?_ | refine JE.blk_miss rfl ?_ | refine JE.then_ret ?_ | refine JE.blk_ret ?_ | refine JC.label ?_ | refine JL.gon rfl rfl ?_ | refine JL.gskip rfl rfl rfl rfl ?_ | refine JL.gskipU rfl rfl rfl rfl ?_)
    refine JL.alloc fieldZ rfl fun bx _ => ?_
    refine JL.store_all (cs := pc (n, v)) fieldS rfl rfl rfl rfl .here rfl ?_
    repeat (first | refine JL.q (by first | (apply OQ.load_agg (cs := pc (n, v)); exact fieldA; exact fieldS; exact rfl; exact .here; exact rfl; exact Row.all) | (apply OQ.move; exact rfl) | (apply OQ.assign; exact rfl) | (apply OQ.len; exact rfl; exact rfl) | (apply OQ.addN; exact rfl; exact rfl; exact (by (try simp only []); omega)) | (apply OQ.remN; exact rfl; exact rfl; exact (by (try simp only []); omega)) | (apply OQ.lssN; exact rfl; exact rfl) | (apply OQ.eqN; exact rfl; exact rfl) | (apply OQ.fld; exact rfl; exact rfl; exact rfl; exact (by decide); exact rfl)) rfl ?_ | refine JC.seq ?_ | refine JC.region ?_ | refine JC.block ?_ | refine JC.skip ?_ | refine JC.exit ?_ | refine JL.nil ?_ | refine JE.next ?_ | refine JE.blk_normal ?_ | refine JE.then_exit ?_ | refine JE.blk_hit ?_ | refine JE.blk_miss rfl ?_ | refine JE.then_ret ?_ | refine JE.blk_ret ?_ | refine JC.label ?_ | refine JL.gon rfl rfl ?_ | refine JL.gskip rfl rfl rfl rfl ?_ | refine JL.gskipU rfl rfl rfl rfl ?_)
    refine JL.callg (vs := [.agg (pc (n, v)).toArray]) (ι := { x : Sl8 // Ans x (foldR n v) }) (fun x => .tuple #[x.1.v, N (codeF n v)]) (fun x => x.1.ents) goes_ffold rfl rfl (fun x => x.1.ents_wr) (fun w' _ => hF.fold n v w' z1 z2) ?_
    rintro ⟨x, hx⟩
    dsimp only
    have hxv := hx.val
    rw [hfr] at hxv
    repeat (first | refine JL.q (by first | (apply OQ.extract; exact rfl; exact rfl) | (apply OQ.move; exact rfl) | (apply OQ.assign; exact rfl) | (apply OQ.len; exact rfl; exact rfl) | (apply OQ.addN; exact rfl; exact rfl; exact (by (try simp only []); omega)) | (apply OQ.remN; exact rfl; exact rfl; exact (by (try simp only []); omega)) | (apply OQ.lssN; exact rfl; exact rfl) | (apply OQ.eqN; exact rfl; exact rfl) | (apply OQ.fld; exact rfl; exact rfl; exact rfl; exact (by decide); exact rfl)) rfl ?_ | refine JC.seq ?_ | refine JC.region ?_ | refine JC.block ?_ | refine JC.skip ?_ | refine JC.exit ?_ | refine JL.nil ?_ | refine JE.next ?_ | refine JE.blk_normal ?_ | refine JE.then_exit ?_ | refine JE.blk_hit ?_ | refine JE.blk_miss rfl ?_ | refine JE.then_ret ?_ | refine JE.blk_ret ?_ | refine JC.label ?_ | refine JL.gon rfl rfl ?_ | refine JL.gskip rfl rfl rfl rfl ?_ | refine JL.gskipU rfl rfl rfl rfl ?_)
    refine JL.append (cs := x.l.map U8) (m := x.l.length) (ad := x.ad) (sc := x.cap) (xs := T.map U8) (fun b' cap' => x.ents ++ [⟨bx, Row 23 (pc (n, v)), true⟩, ⟨b', Sl.Own 5 1 (T.length + x.l.length) cap' (T.map U8 ++ x.l.map U8), true⟩]) Tryd.underlying25 u8e rfl rfl (fun _ _ => repl_skip _ (.there .here)) (by simp) (fun w' hw' => (hx.ok hw').reads) (all8U _) rfl (by decide) (by rw [hxv]; omega) (by rw [hxv]; omega) rfl fun b' cap' => ?_
    rw [← vA]
    repeat (first | refine JL.q (by first | (apply OQ.move; exact rfl) | (apply OQ.assign; exact rfl) | (apply OQ.len; exact rfl; exact rfl) | (apply OQ.addN; exact rfl; exact rfl; exact (by (try simp only []); omega)) | (apply OQ.remN; exact rfl; exact rfl; exact (by (try simp only []); omega)) | (apply OQ.lssN; exact rfl; exact rfl) | (apply OQ.eqN; exact rfl; exact rfl) | (apply OQ.fld; exact rfl; exact rfl; exact rfl; exact (by decide); exact rfl)) rfl ?_ | refine JC.seq ?_ | refine JC.region ?_ | refine JC.block ?_ | refine JC.skip ?_ | refine JC.exit ?_ | refine JL.nil ?_ | refine JE.next ?_ | refine JE.blk_normal ?_ | refine JE.then_exit ?_ | refine JE.blk_hit ?_ | refine JE.blk_miss rfl ?_ | refine JE.then_ret ?_ | refine JE.blk_ret ?_ | refine JC.label ?_ | refine JL.gon rfl rfl ?_ | refine JL.gskip rfl rfl rfl rfl ?_ | refine JL.gskipU rfl rfl rfl rfl ?_)
    refine JE.again (i := (i, b, cap)) (i + 1, b', cap') hi' (by show a.l.length - (i + 1) < a.l.length - i; omega) ?_ ?_
    · dsimp only
      rw [hsn, List.length_append, hxv]
      exact (by repeat (first | exact SubE.nil | refine SubE.cons _ _ _ rfl ?_))
    · dsimp only
      rw [hsn, List.length_append, List.map_append, hxv]
      exact less_app _ (.drop _ _ _ (.keep _ _ _ _ _ _ (fun _ h => h) (.nil _)))
  · have hi' : ¬ i < a.l.length := of_decide_eq_false h
    obtain rfl : i = a.l.length := by omega
    clear h hi hi'
    rw [List.take_length]
    have hHl := foldAll_len hr
    have hh := hd_all a.l hr
    generalize foldAll a.l = H at hHl hh ⊢
    repeat (first | refine JL.q (by first | (apply OQ.move; exact rfl) | (apply OQ.assign; exact rfl) | (apply OQ.len; exact rfl; exact rfl) | (apply OQ.addN; exact rfl; exact rfl; exact (by (try simp only []); omega)) | (apply OQ.remN; exact rfl; exact rfl; exact (by (try simp only []); omega)) | (apply OQ.lssN; exact rfl; exact rfl) | (apply OQ.eqN; exact rfl; exact rfl) | (apply OQ.fld; exact rfl; exact rfl; exact rfl; exact (by decide); exact rfl)) rfl ?_ | refine JC.seq ?_ | refine JC.region ?_ | refine JC.block ?_ | refine JC.skip ?_ | refine JC.exit ?_ | refine JL.nil ?_ | refine JE.next ?_ | refine JE.blk_normal ?_ | refine JE.then_exit ?_ | refine JE.blk_hit ?_ | refine JE.blk_miss rfl ?_ | refine JE.then_ret ?_ | refine JE.blk_ret ?_ | refine JC.label ?_ | refine JL.gon rfl rfl ?_ | refine JL.gskip rfl rfl rfl rfl ?_ | refine JL.gskipU rfl rfl rfl rfl ?_)
    refine JL.push2 (v1 := U8 13) (v2 := U8 10) (xs := H.map U8) (fun b' cap' => [⟨b', Sl.Own 5 1 (H.length + 2) cap' (H.map U8 ++ [U8 13, U8 10]), true⟩]) Tryd.underlying25 u8e rfl rfl rfl rfl rfl rfl rfl (fun _ => rfl) (by intro _ _; repeat (first | exact Repl.here | apply Repl.there)) (by omega) (by omega) rfl rfl fun bl b cap => ?_
    have hT1 : H.map U8 ++ [U8 13, U8 10] = (H ++ [13, 10]).map U8 := by rw [List.map_append]; rfl
    have hT2 : H.length + 2 = (H ++ [13, 10]).length := by rw [List.length_append]; rfl
    have rd1 := fun R hl => read_head hh (.inr rfl : isE [13, 10]) R (by omega) hl
    have rd2 := fun (q : List Bt) (x : Bt) (s : List Bt) hl hq => read_pre (q := q) (x := x) (s := s) hh (.inr rfl : isE [13, 10]) (by omega) hl hq
    rw [hT1, hT2]
    generalize hT : H ++ [13, 10] = T at rd1 rd2 ⊢
    have hTp : 0 < T.length := by rw [← hT, List.length_append]; exact Nat.lt_of_lt_of_le (by decide) (Nat.le_add_left 2 _)
    have hHT : H.length + 2 = T.length := by rw [← hT, List.length_append]; rfl
    clear hT1 hT2 hh
    cases g3 : decide ((30000 : Int) < (T.length : Int))
    · have lT : T.length ≤ 30000 := by have := of_decide_eq_false g3; omega
      repeat (first | refine JL.q (by first | (apply OQ.len; exact Tryd.underlying25; exact rfl) | (apply OQ.gtrB (b := 30000); exact rfl; exact rfl; exact g3) | (apply OQ.move; exact rfl) | (apply OQ.assign; exact rfl) | (apply OQ.len; exact rfl; exact rfl) | (apply OQ.addN; exact rfl; exact rfl; exact (by (try simp only []); omega)) | (apply OQ.remN; exact rfl; exact rfl; exact (by (try simp only []); omega)) | (apply OQ.lssN; exact rfl; exact rfl) | (apply OQ.eqN; exact rfl; exact rfl) | (apply OQ.fld; exact rfl; exact rfl; exact rfl; exact (by decide); exact rfl)) rfl ?_ | refine JC.seq ?_ | refine JC.region ?_ | refine JC.block ?_ | refine JC.skip ?_ | refine JC.exit ?_ | refine JL.nil ?_ | refine JE.next ?_ | refine JE.blk_normal ?_ | refine JE.then_exit ?_ | refine JE.blk_hit ?_ | refine JE.blk_miss rfl ?_ | refine JE.then_ret ?_ | refine JE.blk_ret ?_ | refine JC.label ?_ | refine JL.gon rfl rfl ?_ | refine JL.gskip rfl rfl rfl rfl ?_ | refine JL.gskipU rfl rfl rfl rfl ?_)
      refine JC.cond rfl (fun h => by cases h) (fun _ => ?_)
      have q1 := rd1 [] (by show H.length + 2 ≤ 65536; omega)
      have q2 := rd1 s.l (by show H.length + 2 ≤ 65536; omega)
      rw [List.append_nil] at q1
      repeat (first | refine JL.q (by first | (apply OQ.move; exact rfl) | (apply OQ.assign; exact rfl) | (apply OQ.len; exact rfl; exact rfl) | (apply OQ.addN; exact rfl; exact rfl; exact (by (try simp only []); omega)) | (apply OQ.remN; exact rfl; exact rfl; exact (by (try simp only []); omega)) | (apply OQ.lssN; exact rfl; exact rfl) | (apply OQ.eqN; exact rfl; exact rfl) | (apply OQ.fld; exact rfl; exact rfl; exact rfl; exact (by decide); exact rfl)) rfl ?_ | refine JC.seq ?_ | refine JC.region ?_ | refine JC.block ?_ | refine JC.skip ?_ | refine JC.exit ?_ | refine JL.nil ?_ | refine JE.next ?_ | refine JE.blk_normal ?_ | refine JE.then_exit ?_ | refine JE.blk_hit ?_ | refine JE.blk_miss rfl ?_ | refine JE.then_ret ?_ | refine JE.blk_ret ?_ | refine JC.label ?_ | refine JL.gon rfl rfl ?_ | refine JL.gskip rfl rfl rfl rfl ?_ | refine JL.gskipU rfl rfl rfl rfl ?_)
      refine JL.callr (vs := [Sl8.v ⟨some ⟨b, 0, none⟩, cap, T⟩]) (ι := { q : Sl2 × Sl8 // q.1.l = fieldsR (readB T) ∧ q.2.l = restR (readB T) }) (fun q => .tuple #[q.1.1.v, q.1.2.v, N (codeR (readB T))]) (fun q w' => q.1.1.ok w' ∧ q.1.2.ok w') goes_fread rfl rfl (fun w' hw' => hF.read ⟨some ⟨b, 0, none⟩, cap, T⟩ w' (ownb_ok hw' .here) (show T.length ≤ 70000 by omega)) ?_
      rintro ⟨⟨x1, r1⟩, hx1, hr1⟩ w1 hw1 ⟨okx1, okr1⟩
      replace okx1 : x1.ok w1 := okx1
      replace hx1 : x1.l = a.l := by rw [show x1.l = _ from hx1, q1]; rfl
      replace hr1 : r1.l = [] := by rw [show r1.l = _ from hr1, q1]; rfl
      dsimp only [ro, List.map]
      rw [q1]
      dsimp only [codeR]
      have e1 : Ext w w1 := hw1.chg
      have vr1 : r1.v = .slice r1.ad 0 r1.cap := by rw [Sl8.v, hr1]; rfl
      rw [vr1]
      repeat (first | refine JL.q (by first | (apply OQ.extract; exact rfl; exact rfl) | (apply OQ.move; exact rfl) | (apply OQ.assign; exact rfl) | (apply OQ.len; exact rfl; exact rfl) | (apply OQ.addN; exact rfl; exact rfl; exact (by (try simp only []); omega)) | (apply OQ.remN; exact rfl; exact rfl; exact (by (try simp only []); omega)) | (apply OQ.lssN; exact rfl; exact rfl) | (apply OQ.eqN; exact rfl; exact rfl) | (apply OQ.fld; exact rfl; exact rfl; exact rfl; exact (by decide); exact rfl)) rfl ?_ | refine JC.seq ?_ | refine JC.region ?_ | refine JC.block ?_ | refine JC.skip ?_ | refine JC.exit ?_ | refine JL.nil ?_ | refine JE.next ?_ | refine JE.blk_normal ?_ | refine JE.then_exit ?_ | refine JE.blk_hit ?_ | refine JE.blk_miss rfl ?_ | refine JE.then_ret ?_ | refine JE.blk_ret ?_ | refine JC.label ?_ | refine JL.gon rfl rfl ?_ | refine JL.gskip rfl rfl rfl rfl ?_ | refine JL.gskipU rfl rfl rfl rfl ?_)
      refine JL.lit0O Tryd.underlying25 u8e rfl fun b2 _ => ?_
      repeat (first | refine JL.q (by first | (apply OQ.move; exact rfl) | (apply OQ.assign; exact rfl) | (apply OQ.len; exact rfl; exact rfl) | (apply OQ.addN; exact rfl; exact rfl; exact (by (try simp only []); omega)) | (apply OQ.remN; exact rfl; exact rfl; exact (by (try simp only []); omega)) | (apply OQ.lssN; exact rfl; exact rfl) | (apply OQ.eqN; exact rfl; exact rfl) | (apply OQ.fld; exact rfl; exact rfl; exact rfl; exact (by decide); exact rfl)) rfl ?_ | refine JC.seq ?_ | refine JC.region ?_ | refine JC.block ?_ | refine JC.skip ?_ | refine JC.exit ?_ | refine JL.nil ?_ | refine JE.next ?_ | refine JE.blk_normal ?_ | refine JE.then_exit ?_ | refine JE.blk_hit ?_ | refine JE.blk_miss rfl ?_ | refine JE.then_ret ?_ | refine JE.blk_ret ?_ | refine JC.label ?_ | refine JL.gon rfl rfl ?_ | refine JL.gskip rfl rfl rfl rfl ?_ | refine JL.gskipU rfl rfl rfl rfl ?_)
      refine JL.append (cs := T.map U8) (m := T.length) (ad := some ⟨b, 0, none⟩) (sc := cap) (xs := []) (fun b' cap' => [⟨b', Sl.Own 5 1 (0 + T.length) cap' ([] ++ T.map U8), true⟩, ⟨b, Sl.Own 5 1 T.length cap (T.map U8), false⟩]) Tryd.underlying25 u8e rfl rfl (by intro _ _; repeat (first | exact Repl.here | apply Repl.there)) (by simp) (fun w' hw' => (ownb_ok (l := T) hw' (by repeat (first | exact Has.here | apply Has.there))).reads) (all8U _) rfl (by decide) (by omega) (by omega) rfl fun b3 cap3 => ?_
      repeat (first | refine JL.q (by first | (apply OQ.move; exact rfl) | (apply OQ.assign; exact rfl) | (apply OQ.len; exact rfl; exact rfl) | (apply OQ.addN; exact rfl; exact rfl; exact (by (try simp only []); omega)) | (apply OQ.remN; exact rfl; exact rfl; exact (by (try simp only []); omega)) | (apply OQ.lssN; exact rfl; exact rfl) | (apply OQ.eqN; exact rfl; exact rfl) | (apply OQ.fld; exact rfl; exact rfl; exact rfl; exact (by decide); exact rfl)) rfl ?_ | refine JC.seq ?_ | refine JC.region ?_ | refine JC.block ?_ | refine JC.skip ?_ | refine JC.exit ?_ | refine JL.nil ?_ | refine JE.next ?_ | refine JE.blk_normal ?_ | refine JE.then_exit ?_ | refine JE.blk_hit ?_ | refine JE.blk_miss rfl ?_ | refine JE.then_ret ?_ | refine JE.blk_ret ?_ | refine JC.label ?_ | refine JL.gon rfl rfl ?_ | refine JL.gskip rfl rfl rfl rfl ?_ | refine JL.gskipU rfl rfl rfl rfl ?_)
      refine JL.append (cs := s.l.map U8) (m := s.l.length) (ad := s.ad) (sc := s.cap) (xs := [] ++ T.map U8) (fun b' cap' => [⟨b', Sl.Own 5 1 (0 + T.length + s.l.length) cap' ([] ++ T.map U8 ++ s.l.map U8), true⟩, ⟨b, Sl.Own 5 1 T.length cap (T.map U8), false⟩]) Tryd.underlying25 u8e rfl rfl (by intro _ _; repeat (first | exact Repl.here | apply Repl.there)) (by simp) (fun w' hw' => ((hs.ext e1).holds hw' rfl).reads) (all8U _) rfl (by decide) (by omega) (by omega) rfl fun b4 cap4 => ?_
      have h5 : [] ++ T.map U8 ++ s.l.map U8 = (T ++ s.l).map U8 := by simp
      have h6 : 0 + T.length + s.l.length = (T ++ s.l).length := by simp
      rw [h5, h6]
      refine JL.callr (vs := [Sl8.v ⟨some ⟨b4, 0, none⟩, cap4, T ++ s.l⟩]) (ι := { q : Sl2 × Sl8 // q.1.l = fieldsR (readB (T ++ s.l)) ∧ q.2.l = restR (readB (T ++ s.l)) }) (fun q => .tuple #[q.1.1.v, q.1.2.v, N (codeR (readB (T ++ s.l)))]) (fun q w' => q.1.1.ok w' ∧ q.1.2.ok w') goes_fread rfl rfl (fun w' hw' => hF.read ⟨some ⟨b4, 0, none⟩, cap4, T ++ s.l⟩ w' (ownb_ok hw' .here) (show (T ++ s.l).length ≤ 70000 by rw [List.length_append]; omega)) ?_
      rintro ⟨⟨x2, r2⟩, hx2, hr2⟩ w2 hw2 ⟨okx2, okr2⟩
      replace okx2 : x2.ok w2 := okx2
      replace okr2 : r2.ok w2 := okr2
      replace hx2 : x2.l = a.l := by rw [show x2.l = _ from hx2, q2]; rfl
      replace hr2 : r2.l = s.l := by rw [show r2.l = _ from hr2, q2]; rfl
      dsimp only [ro, List.map]
      rw [q2]
      dsimp only [codeR]
      have e2 : Ext w1 w2 := hw2.chg
      have okx1' := okx1.ext e2
      have oks := hs.ext (e1.trans e2)
      have hsf : decide (x1.l = x2.l) = true := decide_eq_true (by rw [hx1, hx2])
      repeat (first | refine JL.q (by first | (apply OQ.extract; exact rfl; exact rfl) | (apply OQ.neB (b := 0) (c := true); exact rfl; exact rfl; exact rfl) | (apply OQ.callx (v := .bool true) (vs := [x1.v, x2.v]); exact goes_rsamef; exact rfl; exact (fun w' hw' => hsf ▸ rsamef_any x1 x2 w' (okx1'.holds hw' rfl) (okx2.holds hw' rfl) (by rw [hx1]; omega) (by rw [hx2]; omega))) | (apply OQ.len; exact Tryd.underlying25; exact rfl) | (apply OQ.callx (vs := [r2.v, s.v]); exact goes_same; exact rfl; exact (fun w' hw' => same_t rfl rfl (okr2.holds hw' rfl) (oks.holds hw' rfl) (by rw [hr2]; omega) hr2)) | (apply OQ.not; exact rfl) | (apply OQ.pick_f; exact rfl; exact rfl) | (apply OQ.move; exact rfl) | (apply OQ.assign; exact rfl) | (apply OQ.len; exact rfl; exact rfl) | (apply OQ.addN; exact rfl; exact rfl; exact (by (try simp only []); omega)) | (apply OQ.remN; exact rfl; exact rfl; exact (by (try simp only []); omega)) | (apply OQ.lssN; exact rfl; exact rfl) | (apply OQ.eqN; exact rfl; exact rfl) | (apply OQ.fld; exact rfl; exact rfl; exact rfl; exact (by decide); exact rfl)) rfl ?_ | refine JC.seq ?_ | refine JC.region ?_ | refine JC.block ?_ | refine JC.skip ?_ | refine JC.exit ?_ | refine JL.nil ?_ | refine JE.next ?_ | refine JE.blk_normal ?_ | refine JE.then_exit ?_ | refine JE.blk_hit ?_ | refine JE.blk_miss rfl ?_ | refine JE.then_ret ?_ | refine JE.blk_ret ?_ | refine JC.label ?_ | refine JL.gon rfl rfl ?_ | refine JL.gskip rfl rfl rfl rfl ?_ | refine JL.gskipU rfl rfl rfl rfl ?_)
      refine JC.cond rfl (fun h => by cases h) (fun _ => ?_)
      generalize hq : (BitVec.ofInt 64 c &&& BitVec.ofNat 64 65535).toNat = q
      have hm : q % T.length < T.length := Nat.mod_lt _ hTp
      obtain ⟨x, t, hxt⟩ := cut_pre hm
      have q3 := rd2 (T.take (q % T.length)) x t (by rw [List.length_take]; omega) hxt
      have hmT : q % T.length ≤ 70000 := by omega
      refine JC.fact (p := T.length ≤ cap) (.there .here) (fun o h => by obtain ⟨_, _, _, _, h4⟩ := h; simpa using h4) fun hcap => ?_
      repeat (first | refine JL.q (by first | (apply OQ.len; exact Tryd.underlying25; exact rfl) | (apply OQ.lowQ (m := 65535); exact rfl; exact rfl; exact (by decide); exact hq) | (apply OQ.fst (m := q % T.length) (s := ⟨some ⟨b, 0, none⟩, cap, T⟩); exact Tryd.underlying25; exact u8s; exact rfl; exact rfl; exact (Nat.le_of_lt hm); exact hcap) | (apply OQ.move; exact rfl) | (apply OQ.assign; exact rfl) | (apply OQ.len; exact rfl; exact rfl) | (apply OQ.addN; exact rfl; exact rfl; exact (by (try simp only []); omega)) | (apply OQ.remN; exact rfl; exact rfl; exact (by (try simp only []); omega)) | (apply OQ.lssN; exact rfl; exact rfl) | (apply OQ.eqN; exact rfl; exact rfl) | (apply OQ.fld; exact rfl; exact rfl; exact rfl; exact (by decide); exact rfl)) rfl ?_ | refine JC.seq ?_ | refine JC.region ?_ | refine JC.block ?_ | refine JC.skip ?_ | refine JC.exit ?_ | refine JL.nil ?_ | refine JE.next ?_ | refine JE.blk_normal ?_ | refine JE.then_exit ?_ | refine JE.blk_hit ?_ | refine JE.blk_miss rfl ?_ | refine JE.then_ret ?_ | refine JE.blk_ret ?_ | refine JC.label ?_ | refine JL.gon rfl rfl ?_ | refine JL.gskip rfl rfl rfl rfl ?_ | refine JL.gskipU rfl rfl rfl rfl ?_)
      refine JL.callr (vs := [Sl8.v (Sl8.fst ⟨some ⟨b, 0, none⟩, cap, T⟩ (q % T.length))]) (ι := { q' : Sl2 × Sl8 // q'.1.l = fieldsR (readB (T.take (q % T.length))) ∧ q'.2.l = restR (readB (T.take (q % T.length))) }) (fun q' => .tuple #[q'.1.1.v, q'.1.2.v, N (codeR (readB (T.take (q % T.length))))]) (fun q' w' => q'.1.1.ok w' ∧ q'.1.2.ok w') goes_fread rfl rfl (fun w' hw' => hF.read (Sl8.fst ⟨some ⟨b, 0, none⟩, cap, T⟩ (q % T.length)) w' (Sl8.ok.fst (ownb_ok hw' (.there .here)) _) (by show (T.take _).length ≤ 70000; rw [List.length_take]; omega)) ?_
      rintro ⟨⟨x3, r3⟩, hx3, hr3⟩ w3 hw3 _
      dsimp only [ro, List.map]
      rw [q3]
      dsimp only [codeR]
      repeat (first | refine JL.q (by first | (apply OQ.extract; exact rfl; exact rfl) | (apply OQ.eqB (b := 3); exact rfl; exact rfl; exact rfl) | (apply OQ.move; exact rfl) | (apply OQ.assign; exact rfl) | (apply OQ.len; exact rfl; exact rfl) | (apply OQ.addN; exact rfl; exact rfl; exact (by (try simp only []); omega)) | (apply OQ.remN; exact rfl; exact rfl; exact (by (try simp only []); omega)) | (apply OQ.lssN; exact rfl; exact rfl) | (apply OQ.eqN; exact rfl; exact rfl) | (apply OQ.fld; exact rfl; exact rfl; exact rfl; exact (by decide); exact rfl)) rfl ?_ | refine JC.seq ?_ | refine JC.region ?_ | refine JC.block ?_ | refine JC.skip ?_ | refine JC.exit ?_ | refine JL.nil ?_ | refine JE.next ?_ | refine JE.blk_normal ?_ | refine JE.then_exit ?_ | refine JE.blk_hit ?_ | refine JE.blk_miss rfl ?_ | refine JE.then_ret ?_ | refine JE.blk_ret ?_ | refine JC.label ?_ | refine JL.gon rfl rfl ?_ | refine JL.gskip rfl rfl rfl rfl ?_ | refine JL.gskipU rfl rfl rfl rfl ?_)
      refine JC.ret (JE.ret1 rfl (RV.tmp rfl) fun w' hw => ⟨rfl, ?_⟩)
      exact (e1.trans e2).trans ((show Ext w2 w3 from hw3.chg).trans hw.chg)
    · repeat (first | refine JL.q (by first | (apply OQ.len; exact Tryd.underlying25; exact rfl) | (apply OQ.gtrB (b := 30000); exact rfl; exact rfl; exact g3) | (apply OQ.move; exact rfl) | (apply OQ.assign; exact rfl) | (apply OQ.len; exact rfl; exact rfl) | (apply OQ.addN; exact rfl; exact rfl; exact (by (try simp only []); omega)) | (apply OQ.remN; exact rfl; exact rfl; exact (by (try simp only []); omega)) | (apply OQ.lssN; exact rfl; exact rfl) | (apply OQ.eqN; exact rfl; exact rfl) | (apply OQ.fld; exact rfl; exact rfl; exact rfl; exact (by decide); exact rfl)) rfl ?_ | refine JC.seq ?_ | refine JC.region ?_ | refine JC.block ?_ | refine JC.skip ?_ | refine JC.exit ?_ | refine JL.nil ?_ | refine JE.next ?_ | refine JE.blk_normal ?_ | refine JE.then_exit ?_ | refine JE.blk_hit ?_ | refine JE.blk_miss rfl ?_ | refine JE.then_ret ?_ | refine JE.blk_ret ?_ | refine JC.label ?_ | refine JL.gon rfl rfl ?_ | refine JL.gskip rfl rfl rfl rfl ?_ | refine JL.gskipU rfl rfl rfl rfl ?_)
      refine JC.cond rfl (fun _ => ?_) (fun h => by cases h)
      repeat (first | refine JL.q (by first | (apply OQ.move; exact rfl) | (apply OQ.assign; exact rfl) | (apply OQ.len; exact rfl; exact rfl) | (apply OQ.addN; exact rfl; exact rfl; exact (by (try simp only []); omega)) | (apply OQ.remN; exact rfl; exact rfl; exact (by (try simp only []); omega)) | (apply OQ.lssN; exact rfl; exact rfl) | (apply OQ.eqN; exact rfl; exact rfl) | (apply OQ.fld; exact rfl; exact rfl; exact rfl; exact (by decide); exact rfl)) rfl ?_ | refine JC.seq ?_ | refine JC.region ?_ | refine JC.block ?_ | refine JC.skip ?_ | refine JC.exit ?_ | refine JL.nil ?_ | refine JE.next ?_ | refine JE.blk_normal ?_ | refine JE.then_exit ?_ | refine JE.blk_hit ?_ | refine JE.blk_miss rfl ?_ | refine JE.then_ret ?_ | refine JE.blk_ret ?_ | refine JC.label ?_ | refine JL.gon rfl rfl ?_ | refine JL.gskip rfl rfl rfl rfl ?_ | refine JL.gskipU rfl rfl rfl rfl ?_)
      refine JC.ret ?_
      repeat (first | refine JL.q (by first | (apply OQ.move; exact rfl) | (apply OQ.assign; exact rfl) | (apply OQ.len; exact rfl; exact rfl) | (apply OQ.addN; exact rfl; exact rfl; exact (by (try simp only []); omega)) | (apply OQ.remN; exact rfl; exact rfl; exact (by (try simp only []); omega)) | (apply OQ.lssN; exact rfl; exact rfl) | (apply OQ.eqN; exact rfl; exact rfl) | (apply OQ.fld; exact rfl; exact rfl; exact rfl; exact (by decide); exact rfl)) rfl ?_ | refine JC.seq ?_ | refine JC.region ?_ | refine JC.block ?_ | refine JC.skip ?_ | refine JC.exit ?_ | refine JL.nil ?_ | refine JE.next ?_ | refine JE.blk_normal ?_ | refine JE.then_exit ?_ | refine JE.blk_hit ?_ | refine JE.blk_miss rfl ?_ | refine JE.then_ret ?_ | refine JE.blk_ret ?_ | refine JC.label ?_ | refine JL.gon rfl rfl ?_ | refine JL.gskip rfl rfl rfl rfl ?_ | refine JL.gskipU rfl rfl rfl rfl ?_)
      exact JE.ret1 rfl (RV.tmp rfl) fun w' hw => ⟨rfl, hw.chg⟩
end Go.Proofs.YtchoiikhepjdiaaDoor
