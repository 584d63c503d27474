/-
  Of no statement by itself: the texts TokX, TkC, MibA, TokB, TokA, TokI, TokP, TokR, Same, MimQ, FieW, FibA, FieR, Sle, FieX, FieG, MibE, PkA, PkB, MibP, LinB, LsB in one.
  Conditions: each theorem's own.
-/
import Derived.Test.YtdabhneehconeaaGreatDoorCb
import Derived.Laws.Tables
import Derived.Laws.Cover3
import Derived.Shelf.Bytes.SlIndexAt
import Derived.Lib.BytesEntry
set_option linter.unusedSimpArgs false
set_option linter.unusedVariables false
/-
  Of no statement by itself: what the reference's Trim, Dotted and Kind (layer 10) give.
  Conditions: each theorem's own.
-/
namespace Go.Proofs.YtdabhneehconeaaGreatDoor
set_option maxRecDepth 10000
open Sl Fld Tok
theorem goes_rtrim : Goes Tryz.prog 63 := ⟨_, Tryz.func63, rfl, by kernel_rfl⟩
theorem goes_rdotted : Goes Tryz.prog 64 := ⟨_, Tryz.func64, rfl, by kernel_rfl⟩
theorem bl_is10 : ∀ c : Fld.By, bl c = (decide ((c.toNat : Int) = 32) || decide ((c.toNat : Int) = 9)) := by
  have h : ∀ c : Fin 256, bl (BitVec.ofNat 8 c.val) = (decide (((BitVec.ofNat 8 c.val).toNat : Int) = 32) || decide (((BitVec.ofNat 8 c.val).toNat : Int) = 9)) := by decide +kernel
  intro c
  simpa using h ⟨c.toNat, c.isLt⟩
theorem trimL_go : ∀ {v : List Fld.By}, 0 < v.length → bl (v.getD 0 0) = true → trimL (v.drop 1) = trimL v
  | [], h, _ => by simp at h
  | c :: r, _, h => by
    have h' : bl c = true := h
    show trimL r = List.dropWhile bl (c :: r)
    rw [List.dropWhile_cons, if_pos h']; rfl
theorem trimL_stop : ∀ {v : List Fld.By}, (0 < v.length → bl (v.getD 0 0) = false) → trimL v = v
  | [], _ => rfl
  | c :: r, h => by
    have h' : bl c = false := h (by simp)
    show List.dropWhile bl (c :: r) = _
    rw [List.dropWhile_cons, if_neg (by rw [h']; decide)]
theorem rev_last {v : List Fld.By} (h : 0 < v.length) : v.reverse = v.getD (v.length - 1) 0 :: (v.take (v.length - 1)).reverse := by
  have h1 := take_succ_getD v (i := v.length - 1) (by omega)
  rw [show v.length - 1 + 1 = v.length by omega, List.take_length] at h1
  conv => lhs; rw [h1]
  simp
theorem trimR_go {v : List Fld.By} (h : 0 < v.length) (hb : bl (v.getD (v.length - 1) 0) = true) : trimL (v.take (v.length - 1)).reverse = trimL v.reverse := by
  rw [rev_last h]
  exact trimL_go (v := _ :: _) (by simp) hb
theorem trimR_stop {v : List Fld.By} (h : 0 < v.length → bl (v.getD (v.length - 1) 0) = false) : trimL v.reverse = v.reverse :=
  trimL_stop fun h0 => by
    rw [List.length_reverse] at h0
    rw [rev_last h0]
    exact h h0
theorem trim_short (s : List Fld.By) : (trim s).length ≤ s.length := by
  have h : ∀ l : List Fld.By, (trimL l).length ≤ l.length := fun l => (List.dropWhile_sublist _).length_le
  have h1 := h s
  have h2 := h (trimL s).reverse
  simp only [trim, List.length_reverse] at h2 ⊢
  omega
set_option maxHeartbeats 16000000 in
theorem rtrim_any (s : List Fld.By) (w : World) (hl : s.length < 9223372036854775808) : Calls Tryz.prog 63 [Z s].toArray w fun e w' => e = .returned (Z (trim s)) ∧ Ext w w' := by
  refine enter (n := 43) Tryz.func63 rfl rfl rfl (Holds.start w []) ?_
  repeat (first | refine JL.q (by (apply OQ.assign; exact rfl)) rfl ?_ | refine JC.seq ?_ | refine JC.region ?_ | refine JC.block ?_ | refine JL.nil ?_ | refine JE.next ?_)
  refine JC.joinB (ι := Unit) (fun _ => [(0, Z (trimL s))]) (fun _ => []) (fun _ => True) ?_ ?_
  · refine JC.loop (fun v : List Fld.By => [(0, Z v)]) (fun _ => []) (fun v => v.length) (fun v => v.length ≤ s.length ∧ trimL v = trimL s) s ⟨Nat.le_refl _, rfl⟩ (by repeat (first | exact SubE.nil | refine SubE.cons _ _ _ rfl ?_)) (Less.refl _) ?_
    rintro v ⟨hv, ht⟩
    cases h0 : decide ((0 : Int) < (v.length : Int))
    case true =>
      have hp : 0 < v.length := by have := of_decide_eq_true h0; omega
      have hidx := fun {n : Nat} {E : Env} {C : World → Prop} {dst : Option Tmp} {ty : TypeId} {pos : String} {aft : Array Edge} {g : Option (Nat × Bool)} {x y : Operand} => idxAt10 hp (n := n) (E := E) (C := C) (dst := dst) (ty := ty) (pos := pos) (aft := aft) (g := g) (x := x) (y := y)
      have hgo := trimL_go hp
      have hst := trimL_stop (v := v)
      have hb := bl_is10 (v.getD 0 0)
      generalize v.getD 0 0 = c at hidx hgo hst hb
      cases h1 : decide ((c.toNat : Int) = 32) <;> cases h2 : decide ((c.toNat : Int) = 9)
      all_goals (
        rw [h1, h2] at hb
        (repeat (first | refine JL.q (by first | (apply OQ.lenS; exact Tryz.underlying9; exact rfl) | (apply OQ.gtrB (b := 0); exact rfl; exact rfl; exact h0) | (apply hidx; exact rfl; exact rfl) | (apply OQ.eqB (b := 32); exact rfl; exact rfl; exact h1) | (apply OQ.eqB (b := 9); exact rfl; exact rfl; exact h2) | (apply OQ.pick_t; exact rfl; exact rfl) | (apply OQ.pick_f; exact rfl; exact rfl) | (apply OQ.move; exact rfl)) rfl ?_ | refine JC.seq ?_ | refine JC.region ?_ | refine JL.nil ?_ | refine JE.next ?_ | refine JL.gon rfl rfl ?_ | refine JL.gskip rfl rfl rfl rfl ?_))
        refine JC.cond rfl (fun h => ?_) (fun h => ?_)
        all_goals first | (exfalso; revert h; decide) | skip
        all_goals clear h)
      case false.false =>
        rw [← ht, hst fun _ => hb]
        (repeat (first | refine JC.exit ?_ | refine JE.then_exit ?_ | refine JE.blk_hit ?_))
        exact JE.mid () trivial (by repeat (first | exact SubE.nil | refine SubE.cons _ _ _ rfl ?_)) (Less.refl _)
      all_goals (
        (repeat (first | refine JL.q (by first | (apply OQ.subS_lo (i := 1); exact Tryz.underlying9; exact rfl; exact rfl; exact (by omega)) | (apply OQ.move; exact rfl) | (apply OQ.assign; exact rfl)) rfl ?_ | refine JC.region ?_ | refine JC.block ?_ | refine JC.skip ?_ | refine JL.nil ?_ | refine JE.next ?_ | refine JE.blk_normal ?_))
        refine JE.again (i := v) (v.drop 1) ⟨by rw [List.length_drop]; omega, by rw [hgo hb, ht]⟩ (by rw [List.length_drop]; omega) (by repeat (first | exact SubE.nil | refine SubE.cons _ _ _ rfl ?_)) (Less.refl _))
    case false =>
      have hn : ¬ 0 < v.length := by have := of_decide_eq_false h0; omega
      rw [← ht, trimL_stop fun h => absurd h hn]
      repeat (first | refine JL.q (by first | (apply OQ.lenS; exact Tryz.underlying9; exact rfl) | (apply OQ.gtrB (b := 0); exact rfl; exact rfl; exact h0) | (apply OQ.pick_f; exact rfl; exact rfl) | (apply OQ.move; exact rfl)) rfl ?_ | refine JC.seq ?_ | refine JC.region ?_ | refine JL.nil ?_ | refine JE.next ?_ | refine JL.gskip rfl rfl rfl rfl ?_ | refine JL.gskipU rfl rfl rfl rfl ?_)
      refine JC.cond rfl (fun h => by cases h) (fun h => ?_)
      repeat (first | refine JC.exit ?_ | refine JE.then_exit ?_ | refine JE.blk_hit ?_)
      exact JE.mid () trivial (by repeat (first | exact SubE.nil | refine SubE.cons _ _ _ rfl ?_)) (Less.refl _)
  rintro ⟨⟩ _
  have hs1 : (trimL s).length ≤ s.length := (List.dropWhile_sublist _).length_le
  rw [show trim s = (trimL (trimL s).reverse).reverse from rfl]
  generalize trimL s = u at hs1 ⊢
  repeat (first | refine JC.seq ?_ | refine JC.block ?_)
  refine JC.joinB (ι := Unit) (fun _ => [(0, Z (trimL u.reverse).reverse)]) (fun _ => []) (fun _ => True) ?_ ?_
  · refine JC.loop (fun v : List Fld.By => [(0, Z v)]) (fun _ => []) (fun v => v.length) (fun v => v.length ≤ s.length ∧ trimL v.reverse = trimL u.reverse) u ⟨hs1, rfl⟩ (by repeat (first | exact SubE.nil | refine SubE.cons _ _ _ rfl ?_)) (Less.refl _) ?_
    rintro v ⟨hv, ht⟩
    cases h0 : decide ((0 : Int) < (v.length : Int))
    case true =>
      have hp : 0 < v.length := by have := of_decide_eq_true h0; omega
      have hidx := fun {n : Nat} {E : Env} {C : World → Prop} {dst : Option Tmp} {ty : TypeId} {pos : String} {aft : Array Edge} {g : Option (Nat × Bool)} {x y : Operand} => idxAt10 (s := v) (i := v.length - 1) (by omega) (n := n) (E := E) (C := C) (dst := dst) (ty := ty) (pos := pos) (aft := aft) (g := g) (x := x) (y := y)
      have hgo := trimR_go hp
      have hst := trimR_stop (v := v)
      have hb := bl_is10 (v.getD (v.length - 1) 0)
      generalize v.getD (v.length - 1) 0 = c at hidx hgo hst hb
      cases h1 : decide ((c.toNat : Int) = 32) <;> cases h2 : decide ((c.toNat : Int) = 9)
      all_goals (
        rw [h1, h2] at hb
        (repeat (first | refine JL.q (by first | (apply OQ.lenS; exact Tryz.underlying9; exact rfl) | (apply OQ.gtrB (b := 0); exact rfl; exact rfl; exact h0) | (apply hidx; exact rfl; exact rfl) | (apply OQ.eqB (b := 32); exact rfl; exact rfl; exact h1) | (apply OQ.eqB (b := 9); exact rfl; exact rfl; exact h2) | (apply OQ.pick_t; exact rfl; exact rfl) | (apply OQ.pick_f; exact rfl; exact rfl) | (apply OQ.move; exact rfl) | (apply OQ.subN; exact rfl; exact rfl; exact (by (try simp only []); omega); exact (by (try simp only []); omega))) rfl ?_ | refine JC.seq ?_ | refine JC.region ?_ | refine JL.nil ?_ | refine JE.next ?_ | refine JL.gon rfl rfl ?_ | refine JL.gskip rfl rfl rfl rfl ?_))
        refine JC.cond rfl (fun h => ?_) (fun h => ?_)
        all_goals first | (exfalso; revert h; decide) | skip
        all_goals clear h)
      case false.false =>
        rw [← ht, hst fun _ => hb, List.reverse_reverse]
        (repeat (first | refine JC.exit ?_ | refine JE.then_exit ?_ | refine JE.blk_hit ?_))
        exact JE.mid () trivial (by repeat (first | exact SubE.nil | refine SubE.cons _ _ _ rfl ?_)) (Less.refl _)
      all_goals (
        (repeat (first | refine JL.q (by first | (apply OQ.lenS; exact Tryz.underlying9; exact rfl) | (apply OQ.subS_hi (j := v.length - 1); exact Tryz.underlying9; exact rfl; exact rfl; exact (by omega)) | (apply OQ.move; exact rfl) | (apply OQ.assign; exact rfl) | (apply OQ.subN; exact rfl; exact rfl; exact (by (try simp only []); omega); exact (by (try simp only []); omega))) rfl ?_ | refine JC.region ?_ | refine JC.block ?_ | refine JC.skip ?_ | refine JL.nil ?_ | refine JE.next ?_ | refine JE.blk_normal ?_))
        refine JE.again (i := v) (v.take (v.length - 1)) ⟨by rw [List.length_take]; omega, by rw [hgo hb, ht]⟩ (by rw [List.length_take]; omega) (by repeat (first | exact SubE.nil | refine SubE.cons _ _ _ rfl ?_)) (Less.refl _))
    case false =>
      have hn : ¬ 0 < v.length := by have := of_decide_eq_false h0; omega
      rw [← ht, trimR_stop fun h => absurd h hn, List.reverse_reverse]
      repeat (first | refine JL.q (by first | (apply OQ.lenS; exact Tryz.underlying9; exact rfl) | (apply OQ.gtrB (b := 0); exact rfl; exact rfl; exact h0) | (apply OQ.pick_f; exact rfl; exact rfl) | (apply OQ.move; exact rfl)) rfl ?_ | refine JC.seq ?_ | refine JC.region ?_ | refine JL.nil ?_ | refine JE.next ?_ | refine JL.gskip rfl rfl rfl rfl ?_ | refine JL.gskipU rfl rfl rfl rfl ?_)
      refine JC.cond rfl (fun h => by cases h) (fun h => ?_)
      repeat (first | refine JC.exit ?_ | refine JE.then_exit ?_ | refine JE.blk_hit ?_)
      exact JE.mid () trivial (by repeat (first | exact SubE.nil | refine SubE.cons _ _ _ rfl ?_)) (Less.refl _)
  rintro ⟨⟩ _
  repeat (first | refine JL.q (by first | (apply OQ.move; exact rfl) | (apply OQ.assign; exact rfl)) rfl ?_ | refine JC.seq ?_ | refine JC.region ?_ | refine JL.nil ?_ | refine JE.next ?_)
  refine JC.ret ?_
  skip
  exact JE.ret1 rfl (RV.tmp rfl) fun w' hw => ⟨rfl, hw.chg⟩
theorem eq46 (c : Fld.By) : decide ((c.toNat : Int) = 46) = decide (c = 46) := by
  have h := eq_nat 46 c
  rw [show (((46 : Fld.By).toNat : Nat) : Int) = 46 from rfl] at h
  rw [h]; rfl
theorem drop_getD {s : List Fld.By} {i : Nat} (h : i < s.length) : s.drop i = s.getD i 0 :: s.drop (i + 1) := by
  rw [List.drop_eq_getElem_cons h, List.getD_eq_getElem?_getD, List.getElem?_eq_getElem h]; rfl
set_option maxHeartbeats 16000000 in
theorem rdotted_any (s : List Fld.By) (w : World) (hl : s.length < 9223372036854775808) : Calls Tryz.prog 64 [Z s].toArray w fun e w' => e = .returned (.bool (dotB s)) ∧ Ext w w' := by
  refine enter (n := 37) Tryz.func64 rfl rfl rfl (Holds.start w []) ?_
  repeat (first | refine JL.q (by (apply OQ.assign; exact rfl)) rfl ?_ | refine JC.seq ?_ | refine JC.region ?_ | refine JC.block ?_ | refine JL.nil ?_ | refine JE.next ?_)
  refine JC.loop (fun q : Nat × Fld.By => [(0, Z s), (3, U8 q.2), (4, N q.1)]) (fun _ => []) (fun q => s.length - q.1) (fun q => q.1 ≤ s.length ∧ dotB s = dotR (s.drop q.1) q.2) (0, 46) ⟨Nat.zero_le _, rfl⟩ (by repeat (first | exact SubE.nil | refine SubE.cons _ _ _ rfl ?_)) (Less.refl _) ?_
  rintro ⟨i, l⟩ ⟨hi, ha⟩
  simp only at hi ha
  dsimp only
  have hl4 := eq46 l
  repeat (first | refine JL.q (by first | (apply OQ.lenS; exact Tryz.underlying9; exact rfl) | (apply OQ.move; exact rfl) | (apply OQ.lssN; exact rfl; exact rfl)) rfl ?_ | refine JC.seq ?_ | refine JC.region ?_ | refine JL.nil ?_ | refine JE.next ?_)
  refine JC.cond rfl (fun h => ?_) (fun h => ?_)
  · have hi' : i < s.length := of_decide_eq_true h
    clear h hi
    rw [drop_getD hi'] at ha
    have hidx := fun {n : Nat} {E : Env} {C : World → Prop} {dst : Option Tmp} {ty : TypeId} {pos : String} {aft : Array Edge} {g : Option (Nat × Bool)} {x y : Operand} => idxAt10 hi' (n := n) (E := E) (C := C) (dst := dst) (ty := ty) (pos := pos) (aft := aft) (g := g) (x := x) (y := y)
    have cP := fun w' => rplain_any (s.getD i 0) w'
    generalize s.getD i 0 = c at hidx cP ha
    have hc4 := eq46 c
    unfold dotR at ha
    generalize plainB c = x at cP ha
    cases h1 : decide ((c.toNat : Int) = 46) <;> cases h2 : decide ((l.toNat : Int) = 46) <;> cases h3 : x
    all_goals (
      subst h3
      rw [h1] at hc4
      rw [h2] at hl4
      have hc := hc4.symm
      have hl := hl4.symm
      simp only [decide_eq_true_eq, decide_eq_false_iff_not] at hc hl
      simp only [hc, hl, true_and, and_true, false_and, and_false, or_false, false_or, not_true, not_false_eq_true, if_true, if_false, reduceCtorEq] at ha
      (repeat (first | refine JL.q (by first | (apply hidx; exact rfl; exact rfl) | (apply OQ.eqB (b := 46); exact rfl; exact rfl; exact h1) | (apply OQ.eqB (b := 46); exact rfl; exact rfl; exact h2) | (apply OQ.neB (b := 46); exact rfl; exact rfl; exact h1) | (apply OQ.callb (vs := [U8 c]); exact goes_rplain; exact rfl; exact cP; exact rfl) | (apply OQ.not; exact rfl) | (apply OQ.pick_t; exact rfl; exact rfl) | (apply OQ.pick_f; exact rfl; exact rfl) | (apply OQ.move; exact rfl)) rfl ?_ | refine JC.seq ?_ | refine JC.region ?_ | refine JC.block ?_ | refine JC.skip ?_ | refine JL.nil ?_ | refine JE.next ?_ | refine JL.gon rfl rfl ?_ | refine JL.gskip rfl rfl rfl rfl ?_ | refine JL.gskipU rfl rfl rfl rfl ?_))
      refine JC.cond rfl (fun h => ?_) (fun h => ?_)
      all_goals first | (exfalso; revert h; decide) | skip
      all_goals clear h)
    all_goals first
      | (rw [ha]
         (repeat (first | refine JL.q (by first | (apply OQ.move; exact rfl) | (apply OQ.assign; exact rfl)) rfl ?_ | refine JC.seq ?_ | refine JC.region ?_ | refine JC.skip ?_ | refine JL.nil ?_ | refine JE.next ?_))
         refine JC.ret ?_
         (repeat (first | refine JE.then_ret ?_ | refine JE.blk_ret ?_))
         exact JE.ret1 rfl (RV.tmp rfl) fun w' hw => ⟨rfl, hw.chg⟩)
      | ((repeat (first | refine JL.q (by first | (apply hidx; exact rfl; exact rfl) | (apply OQ.move; exact rfl) | (apply OQ.assign; exact rfl) | (apply OQ.addN; exact rfl; exact rfl; exact (by (try simp only []); omega))) rfl ?_ | refine JC.region ?_ | refine JC.skip ?_ | refine JL.nil ?_ | refine JE.next ?_ | refine JE.blk_normal ?_))
         exact JE.again (i := (i, l)) (i + 1, c) ⟨hi', by show dotB s = dotR (s.drop (i + 1)) c; first | exact ha | (rw [hc]; exact ha)⟩ (by show s.length - (i + 1) < s.length - i; omega) (by repeat (first | exact SubE.nil | refine SubE.cons _ _ _ rfl ?_)) (Less.refl _))
  · have hi' : ¬ i < s.length := of_decide_eq_false h
    obtain rfl : i = s.length := by omega
    clear h hi hi'
    rw [List.drop_length] at ha
    have he : (l == 46) = decide ((l.toNat : Int) = 46) := (eq_nat 46 l).symm
    rw [ha, dotR, he]
    cases h1 : decide ((l.toNat : Int) = 46)
    all_goals (repeat (first | refine JL.q (by first | (apply OQ.neB (b := 46); exact rfl; exact rfl; exact h1) | (apply OQ.move; exact rfl) | (apply OQ.assign; exact rfl)) rfl ?_ | refine JC.seq ?_ | refine JC.region ?_ | refine JC.exit ?_ | refine JL.nil ?_ | refine JE.next ?_ | refine JE.then_exit ?_ | refine JE.blk_hit ?_))
    all_goals refine JC.ret ?_
    all_goals exact JE.ret1 rfl (RV.tmp rfl) fun w' hw => ⟨rfl, hw.chg⟩
theorem fst_is (c : Fld.By) : ∀ (s : List Fld.By) {i : Nat}, i < s.length → (s.take i).all (fun d => !(d == c)) = true → (s.getD i 0 == c) = true → fst c s = i
  | [], i, h, _, _ => by simp at h
  | d :: r, 0, _, _, h => by
    have h' : (d == c) = true := h
    unfold fst
    rw [List.takeWhile_cons, if_neg (by rw [h']; decide)]; rfl
  | d :: r, i + 1, hi, ha, h => by
    rw [List.take_succ_cons, List.all_cons, Bool.and_eq_true] at ha
    have := fst_is c r (i := i) (by simpa using hi) ha.2 h
    unfold fst at this ⊢
    rw [List.takeWhile_cons, if_pos ha.1, List.length_cons, this]
theorem fst_end (c : Fld.By) : ∀ s : List Fld.By, s.all (fun d => !(d == c)) = true → fst c s = s.length
  | [], _ => rfl
  | d :: r, h => by
    rw [List.all_cons, Bool.and_eq_true] at h
    have := fst_end c r h.2
    unfold fst at this ⊢
    rw [List.takeWhile_cons, if_pos h.1, List.length_cons, this, List.length_cons]
theorem fst_le (c : Fld.By) (s : List Fld.By) : fst c s ≤ s.length := (List.takeWhile_sublist _).length_le
theorem eqc (c : Fld.By) (k : Fld.By) : (c == k) = decide ((c.toNat : Int) = (k.toNat : Int)) := (eq_nat k c).symm
end Go.Proofs.YtdabhneehconeaaGreatDoor

/-
  Of no statement by itself: what the landed token's dotted and Address give.
  Conditions: each theorem's own.
-/
namespace Go.Proofs.YtdabhneehconeaaGreatDoor
set_option maxRecDepth 10000
open Sl Fld Tok
theorem goes_dotted : Goes Tryz.prog 124 := ⟨_, Tryz.func124, rfl, by kernel_rfl⟩
theorem goes_addrA : Goes Tryz.prog 79 := ⟨_, Tryz.func79, rfl, by kernel_rfl⟩
theorem strS1 : szT Tryz.prog 9 = some 1 := by kernel_rfl
/-! ### dotted atoms -/
theorem dotR_is : ∀ (s : List Fld.By) (l : Fld.By), dotR s l = ((!(l == 46) || !((spW 46 s).headD []).isEmpty) && (((spW 46 s).headD []).all plainB && (spW 46 s).tail.all atomB))
  | [], l => by simp [dotR, spW]
  | c :: r, l => by
    have ih := dotR_is r
    have hne := spW_ne 46 r
    rw [dotR]
    obtain ⟨x, L, hx⟩ : ∃ x L, spW 46 r = x :: L := by
      cases h : spW 46 r with
      | nil => exact absurd h hne
      | cons x L => exact ⟨x, L, rfl⟩
    by_cases hc : c = 46
    · subst hc
      rw [spW, if_pos rfl]
      simp only [ih, hx, List.headD_cons, List.tail_cons, List.all_cons, List.all_nil]
      by_cases hl : l = 46
      · subst hl
        simp
      · rw [if_neg (by rintro (⟨_, h⟩ | ⟨h, _⟩); exact hl h; exact h trivial)]
        have : (l == 46) = false := beq_eq_false_iff_ne.2 hl
        rw [this]
        simp only [atomB, Bool.not_false, Bool.true_or, Bool.true_and, beq_self_eq_true, Bool.not_true, Bool.false_or]
        cases x with
        | nil => simp
        | cons d x => simp [Bool.and_assoc]
    · rw [spW, if_neg hc, hx]
      simp only [ih, hx, List.headD_cons, List.tail_cons, List.all_cons]
      have hb : (c == 46) = false := beq_eq_false_iff_ne.2 hc
      rw [hb]
      cases hp : plainB c with
      | false =>
        rw [if_pos (.inr ⟨hc, rfl⟩)]
        simp
      | true =>
        rw [if_neg (by rintro (⟨h, _⟩ | ⟨_, h⟩); exact hc h; cases h)]
        simp
theorem dotB_is (s : List Fld.By) : dotB s = (spW 46 s).all atomB := by
  unfold dotB
  rw [dotR_is]
  cases h : spW 46 s with
  | nil => exact absurd h (spW_ne 46 s)
  | cons x L =>
    rw [List.headD_cons, List.tail_cons, List.all_cons, atomB]
    cases x with
    | nil => simp
    | cons d x => simp [Bool.and_assoc]
theorem spW_len (c : Fld.By) : ∀ s : List Fld.By, (spW c s).length ≤ s.length + 1 ∧ ∀ x ∈ spW c s, x.length ≤ s.length
  | [] => by simp [spW]
  | d :: r => by
    obtain ⟨h1, h2⟩ := spW_len c r
    rw [spW]
    split
    · refine ⟨by simp only [List.length_cons]; omega, fun x hx => ?_⟩
      rcases List.mem_cons.1 hx with rfl | hx
      · simp
      · have := h2 x hx
        simp only [List.length_cons]
        omega
    · cases h : spW c r with
      | nil => exact absurd h (spW_ne c r)
      | cons y L =>
        rw [h] at h1 h2
        refine ⟨by simpa using Nat.le_succ_of_le h1, fun x hx => ?_⟩
        rcases List.mem_cons.1 hx with rfl | hx
        · have := h2 y (by simp)
          simpa using this
        · have := h2 x (by simp [hx])
          simp only [List.length_cons]
          omega
set_option maxHeartbeats 8000000 in
theorem dotted_any (s : List Bt) (w : World) (hl : s.length < 4294967281) : Calls Tryz.prog 124 [Z s].toArray w fun e w' => e = .returned (.bool (dotB s)) ∧ Ext w w' := by
  refine enter (n := 16) Tryz.func124 rfl rfl rfl (Holds.start w []) ?_
  rw [dotB_is]
  obtain ⟨h1, h2⟩ := spW_len 46 s
  repeat (first | refine JL.q (by first | (apply OQ.move; exact rfl) | (apply OQ.assign; exact rfl)) rfl ?_ | refine JC.seq ?_ | refine JC.region ?_ | refine JL.nil ?_ | refine JE.next ?_)
  refine JL.callg (ι := Nat) (vs := [Z s, Z [46]]) (fun b => .slice (some ⟨b, 0, none⟩) (spW 46 s).length (spW 46 s).length) (fun b => [⟨b, Row 9 ((spW 46 s).map Z), true⟩]) goes_splw rfl rfl (fun b e he => by rw [List.mem_singleton.1 he]) (fun w' _ => splw_any s 46 w' hl) fun b => ?_
  generalize spW 46 s = L at h1 h2
  repeat (first | refine JL.q (by first | (apply OQ.len; exact Tryz.underlying96; exact rfl) | (apply OQ.move; exact rfl)) rfl ?_ | refine JC.block ?_ | refine JL.nil ?_ | refine JE.next ?_)
  refine JC.loop (fun i : Nat => [(6, .slice (some ⟨b, 0, none⟩) L.length L.length), (7, N L.length), (8, N i)]) (fun _ => [⟨b, Row 9 (L.map Z), true⟩]) (fun i => L.length - i) (fun i => i ≤ L.length ∧ (L.take i).all atomB = true) 0 ⟨Nat.zero_le _, by simp⟩ (by repeat (first | exact SubE.nil | refine SubE.cons _ _ _ rfl ?_)) (Less.refl _) ?_
  rintro i ⟨hi, ha⟩
  repeat (first | refine JL.q (by (apply OQ.lssN; exact rfl; exact rfl)) rfl ?_ | refine JC.seq ?_ | refine JC.region ?_ | refine JL.nil ?_ | refine JE.next ?_)
  refine JC.cond rfl (fun h => ?_) (fun h => ?_)
  · have hi' : i < L.length := of_decide_eq_true h
    clear h hi
    have hx : L.getD i [] ∈ L := by
      rw [List.getD_eq_getElem?_getD, List.getElem?_eq_getElem hi']
      exact List.getElem_mem hi'
    have hxl := h2 _ hx
    have hv : (L.map Z)[i]? = some (Z (L.getD i [])) := map_at Z [] hi'
    have cA := fun w' => atomA_any (L.getD i []) w' (by omega)
    have hall := all_take atomB L [] hi'
    have hbad := all_bad atomB L [] hi'
    rw [ha, Bool.true_and] at hall
    generalize L.getD i [] = x at hv cA hall hbad
    cases hat : atomB x
    · rw [hat] at cA
      rw [hbad hat]
      repeat (first | refine JL.q (by first | (apply OQ.idxS0; exact Tryz.underlying96; exact strS1; exact rfl; exact rfl; exact hi') | (apply OQ.load; exact strC1; exact rfl; exact .here; exact (Row.cell hv)) | (apply OQ.callx (vs := [Z x]); exact goes_atomA; exact rfl; exact (fun w' _ => cA w')) | (apply OQ.not; exact rfl) | (apply OQ.move; exact rfl) | (apply OQ.assign; exact rfl)) rfl ?_ | refine JC.seq ?_ | refine JC.region ?_ | refine JC.block ?_ | refine JC.skip ?_ | refine JL.nil ?_ | refine JE.next ?_)
      refine JC.cond rfl (fun _ => ?_) (fun h => by cases h)
      repeat (first | refine JL.q (by (apply OQ.assign; exact rfl)) rfl ?_ | refine JC.seq ?_ | refine JC.region ?_ | refine JL.nil ?_ | refine JE.next ?_)
      refine JC.ret ?_
      repeat (first | refine JE.then_ret ?_ | refine JE.blk_ret ?_)
      exact JE.ret1 rfl (RV.tmp rfl) fun w' hw => ⟨rfl, hw.chg⟩
    · rw [hat] at cA hall
      repeat (first | refine JL.q (by first | (apply OQ.idxS0; exact Tryz.underlying96; exact strS1; exact rfl; exact rfl; exact hi') | (apply OQ.load; exact strC1; exact rfl; exact .here; exact (Row.cell hv)) | (apply OQ.callx (vs := [Z x]); exact goes_atomA; exact rfl; exact (fun w' _ => cA w')) | (apply OQ.not; exact rfl) | (apply OQ.move; exact rfl) | (apply OQ.assign; exact rfl)) rfl ?_ | refine JC.seq ?_ | refine JC.region ?_ | refine JC.block ?_ | refine JC.skip ?_ | refine JL.nil ?_ | refine JE.next ?_)
      refine JC.cond rfl (fun h => by cases h) (fun _ => ?_)
      repeat (first | refine JL.q (by first | (apply OQ.move; exact rfl) | (apply OQ.addN; exact rfl; exact rfl; exact (by (try simp only []); omega))) rfl ?_ | refine JC.region ?_ | refine JC.skip ?_ | refine JL.nil ?_ | refine JE.next ?_ | refine JE.blk_normal ?_)
      exact JE.again (i := i) (i + 1) ⟨hi', hall⟩ (by omega) (by repeat (first | exact SubE.nil | refine SubE.cons _ _ _ rfl ?_)) (Less.refl _)
  · have hi' : ¬ i < L.length := of_decide_eq_false h
    obtain rfl : i = L.length := by omega
    rw [List.take_length] at ha
    rw [ha]
    repeat (first | refine JL.q (by (apply OQ.assign; exact rfl)) rfl ?_ | refine JC.seq ?_ | refine JC.region ?_ | refine JC.exit ?_ | refine JL.nil ?_ | refine JE.next ?_ | refine JE.then_exit ?_ | refine JE.blk_hit ?_)
    refine JC.ret ?_
    exact JE.ret1 rfl (RV.tmp rfl) fun w' hw => ⟨rfl, hw.chg⟩
/-! ### addresses -/
theorem plain_low {c : Fld.By} (h : plainB c = true) : c.toNat < 128 := by
  simp only [plainB, Bool.and_eq_true, decide_eq_true_eq] at h
  omega
theorem dotR_low : ∀ (s : List Fld.By) (l : Fld.By), dotR s l = true → ∀ c ∈ s, c.toNat < 128
  | [], _, _, _, hc => by cases hc
  | c :: r, l, h, d, hd => by
    rw [dotR] at h
    split at h
    · cases h
    · next hn =>
      rcases List.mem_cons.1 hd with rfl | hd
      · by_cases e : d = 46
        · subst e; decide
        · cases hp : plainB d with
          | true => exact plain_low hp
          | false => exact absurd (.inr ⟨e, hp⟩) hn
      · exact dotR_low r c h d hd
theorem ang_la (s : List Fld.By) : ang s = s.drop (s.length - la 60 s) := by
  unfold ang la
  have h := List.takeWhile_append_dropWhile (p := fun d => !(d == (60 : Fld.By))) (l := s.reverse)
  generalize s.reverse.takeWhile (fun d => !(d == (60 : Fld.By))) = a at h ⊢
  generalize s.reverse.dropWhile (fun d => !(d == (60 : Fld.By))) = b at h
  have hs : s = b.reverse ++ a.reverse := by rw [← List.reverse_append, h, List.reverse_reverse]
  rw [hs, List.length_append, List.length_reverse, List.length_reverse, Nat.add_sub_cancel, List.drop_append_of_le_length (by simp), List.drop_of_length_le (by simp), List.nil_append]
theorem addrT_is (s : List Fld.By) : addrT s = if s.getLast? = some 62 then (if 60 ∈ s.dropLast then addrS (trim (s.dropLast.drop (s.dropLast.length - la 60 s.dropLast))) else ([], 3)) else addrS s := by
  unfold addrT
  by_cases h : s.getLast? = some 62
  · obtain ⟨a, rfl⟩ := List.getLast?_eq_some_iff.1 h
    rw [if_pos ⟨by simp, by simp⟩, if_pos h, List.dropLast_concat, ang_la]
    congr 1
    simp
  · rw [if_neg h, if_neg]
    rintro ⟨h1, h2⟩
    refine h ?_
    rw [List.getLast?_eq_getElem?, List.getElem?_eq_getElem (by omega)]
    rw [List.getD_eq_getElem?_getD, List.getElem?_eq_getElem (by omega)] at h2
    exact congrArg some h2
theorem addrS_is (s : List Fld.By) : addrS s = if fi 64 s < s.length ∧ dotB (s.take (fi 64 s)) = true ∧ dotB (s.drop (fi 64 s + 1)) = true then (s.take (fi 64 s) ++ [64] ++ (s.drop (fi 64 s + 1)).map small, 0) else ([], 3) := by
  have hf : fst 64 s = fi 64 s := rfl
  unfold addrS
  rw [hf]
  have h1 := fi_le 64 s
  by_cases h : fi 64 s < s.length
  · have ht : s.take (fi 64 s + 1) = s.take (fi 64 s) ++ [64] := by
      rw [List.take_add_one, List.getElem?_eq_getElem h, Option.toList_some]
      congr 2
      have := fi_at 64 s h
      rw [List.getD_eq_getElem?_getD, List.getElem?_eq_getElem h] at this
      exact this
    cases d1 : dotB (s.take (fi 64 s)) <;> cases d2 : dotB (s.drop (fi 64 s + 1))
    · rw [if_pos (.inr (.inl rfl)), if_neg (fun k => by cases k.2.1)]
    · rw [if_pos (.inr (.inl rfl)), if_neg (fun k => by cases k.2.1)]
    · rw [if_pos (.inr (.inr rfl)), if_neg (fun k => by cases k.2.2)]
    · rw [if_neg (by rintro (k | k | k); omega; cases k; cases k), if_pos ⟨h, rfl, rfl⟩, ht]
  · rw [if_pos (.inl (by omega)), if_neg (fun k => h k.1)]
set_option maxHeartbeats 32000000 in
theorem addrA_any (s : List Bt) (w : World) (hl : s.length < 1000000) : Calls Tryz.prog 79 [Z s].toArray w fun e w' => e = .returned (.tuple #[Z (addrB s).1, N (addrB s).2]) ∧ Ext w w' := by
  refine enter (n := 61) Tryz.func79 rfl rfl rfl (Holds.start w []) ?_
  have cB := fun w' => bareA_any s w' (by omega)
  have hbl := bareB_len s
  unfold addrB
  generalize (bareB s).1 = x at cB hbl ⊢
  generalize (bareB s).2 = k at cB ⊢
  cases hk : decide ((k : Int) = 0)
  · rw [if_neg (by have := of_decide_eq_false hk; omega)]
    repeat (first | refine JL.q (by first | (apply OQ.callx (vs := [Z s]); exact goes_bareA; exact rfl; exact (fun w' _ => cB w')) | (apply OQ.extract; exact rfl; exact rfl) | (apply OQ.neB (b := 0); exact rfl; exact rfl; exact hk) | (apply OQ.move; exact rfl) | (apply OQ.assign; exact rfl)) rfl ?_ | refine JC.seq ?_ | refine JC.region ?_ | refine JL.nil ?_ | refine JE.next ?_)
    refine JC.cond rfl (fun _ => ?_) (fun h => by cases h)
    repeat (first | refine JL.q (by first | (apply OQ.move; exact rfl) | (apply OQ.assign; exact rfl)) rfl ?_ | refine JC.seq ?_ | refine JC.region ?_ | refine JL.nil ?_ | refine JE.next ?_)
    refine JC.ret ?_
    repeat (refine JE.then_ret ?_)
    refine JE.ret2 rfl (RV.tmp rfl) (RV.tmp rfl) ?_
    exact fun w' hw => ⟨rfl, hw.chg⟩
  rw [if_pos (by have := of_decide_eq_true hk; omega)]
  have cT := fun w' => trimw_any x w' (by omega)
  have htl := trim_short x
  generalize trim x = t at cT htl ⊢
  have cS := fun w' => csw_any t 62 w' (by omega)
  have hT := addrT_is t
  unfold csV at cS
  repeat (first | refine JL.q (by first | (apply OQ.callx (vs := [Z s]); exact goes_bareA; exact rfl; exact (fun w' _ => cB w')) | (apply OQ.extract; exact rfl; exact rfl) | (apply OQ.neB (b := 0); exact rfl; exact rfl; exact hk) | (apply OQ.move; exact rfl) | (apply OQ.assign; exact rfl)) rfl ?_ | refine JC.seq ?_ | refine JC.region ?_ | refine JL.nil ?_ | refine JE.next ?_)
  refine JC.cond rfl (fun h => by cases h) (fun _ => ?_)
  by_cases hg : t.getLast? = some 62
  · rw [if_pos hg] at hT cS
    have hal : t.dropLast.length ≤ t.length := by rw [List.length_dropLast]; omega
    generalize t.dropLast = a at hT cS hal
    have cL := fun w' => lastw_any a 60 w' (by omega)
    have hla := la_lt 60 a
    have hla2 := la_le 60 a
    repeat (first | refine JL.q (by first | (apply OQ.callx (vs := [Z x, Z [32, 9]]); exact goes_trimw; exact rfl; exact (fun w' _ => cT w')) | (apply OQ.callx (vs := [Z t, Z [62]]); exact goes_csw; exact rfl; exact (fun w' _ => cS w')) | (apply OQ.extract; exact rfl; exact rfl) | (apply OQ.move; exact rfl) | (apply OQ.assign; exact rfl)) rfl ?_ | refine JC.seq ?_ | refine JC.region ?_ | refine JC.skip ?_ | refine JL.nil ?_ | refine JE.next ?_)
    refine JC.join (ι := List Bt) (fun y => [(6, Z y)]) (fun _ => []) (fun y => addrT t = addrS y ∧ y.length < 1000000) ?_ ?_
    · refine JC.cond rfl (fun _ => ?_) (fun h => by cases h)
      cases hm : decide (ixL 60 a < 0)
      · have hm' : ¬ ixL 60 a < 0 := of_decide_eq_false hm
        have hmem : 60 ∈ a := hla.1 (by unfold ixL at hm'; omega)
        rw [if_pos hmem] at hT
        obtain ⟨p, hp⟩ : ∃ p, p + 1 = a.length - la 60 a := ⟨a.length - la 60 a - 1, by have := hla.2 hmem; omega⟩
        have hix : ixL 60 a = (p : Int) := by unfold ixL; omega
        have hpl : p + 1 ≤ a.length := by omega
        rw [← hp] at hT
        rw [hix] at cL hm
        have hdl : (a.drop (p + 1)).length ≤ a.length := by rw [List.length_drop]; omega
        have cT2 := fun w' => trimw_any (a.drop (p + 1)) w' (by omega)
        have htl2 := trim_short (a.drop (p + 1))
        generalize trim (a.drop (p + 1)) = y at hT cT2 htl2
        repeat (first | refine JL.q (by first | (apply OQ.callx (vs := [Z a, U8 60]); exact goes_lastw; exact rfl; exact (fun w' _ => cL w')) | (apply OQ.lssB (b := 0); exact rfl; exact rfl; exact hm) | (apply OQ.move; exact rfl) | (apply OQ.assign; exact rfl)) rfl ?_ | refine JC.seq ?_ | refine JC.region ?_ | refine JL.nil ?_ | refine JE.next ?_)
        refine JC.cond rfl (fun h => by cases h) (fun _ => ?_)
        repeat (first | refine JL.q (by first | (apply OQ.subS_lo; exact Tryz.underlying9; exact rfl; exact rfl; exact hpl) | (apply OQ.callx (vs := [Z (a.drop (p + 1)), Z [32, 9]]); exact goes_trimw; exact rfl; exact (fun w' _ => cT2 w')) | (apply OQ.move; exact rfl) | (apply OQ.assign; exact rfl) | (apply OQ.addN; exact rfl; exact rfl; exact (by (try simp only []); omega))) rfl ?_ | refine JC.region ?_ | refine JC.skip ?_ | refine JL.nil ?_ | refine JE.next ?_)
        exact JE.mid y ⟨hT, by omega⟩ (by repeat (first | exact SubE.nil | refine SubE.cons _ _ _ rfl ?_)) (Less.refl _)
      · have hm' : ixL 60 a < 0 := of_decide_eq_true hm
        have hmem : ¬ 60 ∈ a := fun h => by have := hla.2 h; unfold ixL at hm'; omega
        rw [if_neg hmem] at hT
        rw [hT]
        repeat (first | refine JL.q (by first | (apply OQ.callx (vs := [Z a, U8 60]); exact goes_lastw; exact rfl; exact (fun w' _ => cL w')) | (apply OQ.lssB (b := 0); exact rfl; exact rfl; exact hm) | (apply OQ.move; exact rfl) | (apply OQ.assign; exact rfl)) rfl ?_ | refine JC.seq ?_ | refine JC.region ?_ | refine JL.nil ?_ | refine JE.next ?_)
        refine JC.cond rfl (fun _ => ?_) (fun h => by cases h)
        repeat (first | refine JL.q (by (apply OQ.assign; exact rfl)) rfl ?_ | refine JC.seq ?_ | refine JC.region ?_ | refine JL.nil ?_ | refine JE.next ?_)
        refine JC.ret ?_
        repeat (refine JE.then_ret ?_)
        exact JE.ret2 rfl (RV.tmp rfl) (RV.tmp rfl) fun w' hw => ⟨rfl, hw.chg⟩
    · rintro y ⟨hy, hyl⟩
      rw [hy]
      have cC := fun w' => cutw_any y 64 w' (by omega)
      have hfl := fi_le 64 y
      have hS := addrS_is y
      unfold cutV at cC
      by_cases hf : fi 64 y < y.length
      · rw [if_pos hf] at cC
        have hwl : (y.take (fi 64 y)).length ≤ y.length := by rw [List.length_take]; omega
        have hdl : (y.drop (fi 64 y + 1)).length ≤ y.length := by rw [List.length_drop]; omega
        have hlow := dotR_low (y.drop (fi 64 y + 1)) 46
        replace hlow : dotB (y.drop (fi 64 y + 1)) = true → ∀ c ∈ y.drop (fi 64 y + 1), c.toNat < 128 := hlow
        replace hS : addrS y = if dotB (y.take (fi 64 y)) = true ∧ dotB (y.drop (fi 64 y + 1)) = true then (y.take (fi 64 y) ++ [64] ++ (y.drop (fi 64 y + 1)).map small, 0) else ([], 3) := by
          rw [hS]
          by_cases h : dotB (y.take (fi 64 y)) = true ∧ dotB (y.drop (fi 64 y + 1)) = true
          · rw [if_pos ⟨hf, h⟩, if_pos h]
          · rw [if_neg (fun k => h k.2), if_neg h]
        generalize y.take (fi 64 y) = who at cC hS hwl
        generalize y.drop (fi 64 y + 1) = whe at cC hS hdl hlow
        have c1 := fun w' => dotted_any who w' (by omega)
        have c2 := fun w' => dotted_any whe w' (by omega)
        cases d1 : dotB who
        · rw [d1] at c1
          rw [hS, if_neg (fun k => by rw [d1] at k; cases k.1)]
          repeat (first | refine JL.q (by first | (apply OQ.callx (vs := [Z y, Z [64]]); exact goes_cutw; exact rfl; exact (fun w' _ => cC w')) | (apply OQ.extract; exact rfl; exact rfl) | (apply OQ.not; exact rfl) | (apply OQ.pick_t; exact rfl; exact rfl) | (apply OQ.pick_f; exact rfl; exact rfl) | (apply OQ.callx (vs := [Z who]); exact goes_dotted; exact rfl; exact (fun w' _ => c1 w')) | (apply OQ.move; exact rfl) | (apply OQ.assign; exact rfl)) rfl ?_ | refine JC.seq ?_ | refine JC.region ?_ | refine JL.nil ?_ | refine JE.next ?_ | refine JL.gon rfl rfl ?_ | refine JL.gskip rfl rfl rfl rfl ?_)
          refine JC.cond rfl (fun _ => ?_) (fun h => by cases h)
          repeat (first | refine JL.q (by (apply OQ.assign; exact rfl)) rfl ?_ | refine JC.seq ?_ | refine JC.region ?_ | refine JL.nil ?_ | refine JE.next ?_)
          refine JC.ret ?_
          repeat (refine JE.then_ret ?_)
          exact JE.ret2 rfl (RV.tmp rfl) (RV.tmp rfl) fun w' hw => ⟨rfl, hw.chg⟩
        · cases d2 : dotB whe
          · rw [d1] at c1
            rw [d2] at c2
            rw [hS, if_neg (fun k => by rw [d2] at k; cases k.2)]
            repeat (first | refine JL.q (by first | (apply OQ.callx (vs := [Z y, Z [64]]); exact goes_cutw; exact rfl; exact (fun w' _ => cC w')) | (apply OQ.extract; exact rfl; exact rfl) | (apply OQ.not; exact rfl) | (apply OQ.pick_f; exact rfl; exact rfl) | (apply OQ.callx (vs := [Z who]); exact goes_dotted; exact rfl; exact (fun w' _ => c1 w')) | (apply OQ.callx (vs := [Z whe]); exact goes_dotted; exact rfl; exact (fun w' _ => c2 w')) | (apply OQ.move; exact rfl) | (apply OQ.assign; exact rfl)) rfl ?_ | refine JC.seq ?_ | refine JC.region ?_ | refine JL.nil ?_ | refine JE.next ?_ | refine JL.gon rfl rfl ?_)
            refine JC.cond rfl (fun _ => ?_) (fun h => by cases h)
            repeat (first | refine JL.q (by (apply OQ.assign; exact rfl)) rfl ?_ | refine JC.seq ?_ | refine JC.region ?_ | refine JL.nil ?_ | refine JE.next ?_)
            refine JC.ret ?_
            repeat (refine JE.then_ret ?_)
            exact JE.ret2 rfl (RV.tmp rfl) (RV.tmp rfl) fun w' hw => ⟨rfl, hw.chg⟩
          · rw [hS, if_pos ⟨d1, d2⟩]
            rw [d1] at c1
            rw [d2] at c2
            have cL := fun w' => lower_any whe w' (by omega) (hlow d2)
            repeat (first | refine JL.q (by first | (apply OQ.callx (vs := [Z y, Z [64]]); exact goes_cutw; exact rfl; exact (fun w' _ => cC w')) | (apply OQ.extract; exact rfl; exact rfl) | (apply OQ.not; exact rfl) | (apply OQ.pick_f; exact rfl; exact rfl) | (apply OQ.callx (vs := [Z who]); exact goes_dotted; exact rfl; exact (fun w' _ => c1 w')) | (apply OQ.callx (vs := [Z whe]); exact goes_dotted; exact rfl; exact (fun w' _ => c2 w')) | (apply OQ.move; exact rfl) | (apply OQ.assign; exact rfl)) rfl ?_ | refine JC.seq ?_ | refine JC.region ?_ | refine JL.nil ?_ | refine JE.next ?_ | refine JL.gon rfl rfl ?_)
            refine JC.cond rfl (fun h => by cases h) (fun _ => ?_)
            repeat (first | refine JL.q (by first | (apply OQ.addS (l := who) (r := [64]); exact rfl; exact rfl; exact (by rw [List.length_singleton]; omega)) | (apply OQ.callx (vs := [Z whe]); exact goes_lower; exact rfl; exact (fun w' _ => cL w')) | (apply OQ.addS (l := who ++ [64]) (r := whe.map small); exact rfl; exact rfl; exact (by rw [List.length_append, List.length_map, List.length_singleton]; omega)) | (apply OQ.move; exact rfl) | (apply OQ.assign; exact rfl)) rfl ?_ | refine JC.seq ?_ | refine JC.region ?_ | refine JC.skip ?_ | refine JL.nil ?_ | refine JE.next ?_)
            refine JC.ret ?_
            exact JE.ret2 rfl (RV.tmp rfl) (RV.tmp rfl) fun w' hw => ⟨rfl, hw.chg⟩
      · rw [if_neg hf] at cC
        rw [hS, if_neg (fun k => hf k.1)]
        repeat (first | refine JL.q (by first | (apply OQ.callx (vs := [Z y, Z [64]]); exact goes_cutw; exact rfl; exact (fun w' _ => cC w')) | (apply OQ.extract; exact rfl; exact rfl) | (apply OQ.not; exact rfl) | (apply OQ.pick_t; exact rfl; exact rfl) | (apply OQ.move; exact rfl) | (apply OQ.assign; exact rfl)) rfl ?_ | refine JC.seq ?_ | refine JC.region ?_ | refine JL.nil ?_ | refine JE.next ?_ | refine JL.gskip rfl rfl rfl rfl ?_)
        refine JC.cond rfl (fun _ => ?_) (fun h => by cases h)
        repeat (first | refine JL.q (by (apply OQ.assign; exact rfl)) rfl ?_ | refine JC.seq ?_ | refine JC.region ?_ | refine JL.nil ?_ | refine JE.next ?_)
        refine JC.ret ?_
        repeat (refine JE.then_ret ?_)
        exact JE.ret2 rfl (RV.tmp rfl) (RV.tmp rfl) fun w' hw => ⟨rfl, hw.chg⟩
  · rw [if_neg hg] at hT cS
    repeat (first | refine JL.q (by first | (apply OQ.callx (vs := [Z x, Z [32, 9]]); exact goes_trimw; exact rfl; exact (fun w' _ => cT w')) | (apply OQ.callx (vs := [Z t, Z [62]]); exact goes_csw; exact rfl; exact (fun w' _ => cS w')) | (apply OQ.extract; exact rfl; exact rfl) | (apply OQ.move; exact rfl) | (apply OQ.assign; exact rfl)) rfl ?_ | refine JC.seq ?_ | refine JC.region ?_ | refine JC.skip ?_ | refine JL.nil ?_ | refine JE.next ?_)
    refine JC.join (ι := List Bt) (fun y => [(6, Z y)]) (fun _ => []) (fun y => addrT t = addrS y ∧ y.length < 1000000) ?_ ?_
    · refine JC.cond rfl (fun h => by cases h) (fun _ => ?_)
      repeat (refine JC.skip ?_)
      exact JE.mid t ⟨hT, by omega⟩ (by repeat (first | exact SubE.nil | refine SubE.cons _ _ _ rfl ?_)) (Less.refl _)
    · rintro y ⟨hy, hyl⟩
      rw [hy]
      have cC := fun w' => cutw_any y 64 w' (by omega)
      have hfl := fi_le 64 y
      have hS := addrS_is y
      unfold cutV at cC
      by_cases hf : fi 64 y < y.length
      · rw [if_pos hf] at cC
        have hwl : (y.take (fi 64 y)).length ≤ y.length := by rw [List.length_take]; omega
        have hdl : (y.drop (fi 64 y + 1)).length ≤ y.length := by rw [List.length_drop]; omega
        have hlow := dotR_low (y.drop (fi 64 y + 1)) 46
        replace hlow : dotB (y.drop (fi 64 y + 1)) = true → ∀ c ∈ y.drop (fi 64 y + 1), c.toNat < 128 := hlow
        replace hS : addrS y = if dotB (y.take (fi 64 y)) = true ∧ dotB (y.drop (fi 64 y + 1)) = true then (y.take (fi 64 y) ++ [64] ++ (y.drop (fi 64 y + 1)).map small, 0) else ([], 3) := by
          rw [hS]
          by_cases h : dotB (y.take (fi 64 y)) = true ∧ dotB (y.drop (fi 64 y + 1)) = true
          · rw [if_pos ⟨hf, h⟩, if_pos h]
          · rw [if_neg (fun k => h k.2), if_neg h]
        generalize y.take (fi 64 y) = who at cC hS hwl
        generalize y.drop (fi 64 y + 1) = whe at cC hS hdl hlow
        have c1 := fun w' => dotted_any who w' (by omega)
        have c2 := fun w' => dotted_any whe w' (by omega)
        cases d1 : dotB who
        · rw [d1] at c1
          rw [hS, if_neg (fun k => by rw [d1] at k; cases k.1)]
          repeat (first | refine JL.q (by first | (apply OQ.callx (vs := [Z y, Z [64]]); exact goes_cutw; exact rfl; exact (fun w' _ => cC w')) | (apply OQ.extract; exact rfl; exact rfl) | (apply OQ.not; exact rfl) | (apply OQ.pick_t; exact rfl; exact rfl) | (apply OQ.pick_f; exact rfl; exact rfl) | (apply OQ.callx (vs := [Z who]); exact goes_dotted; exact rfl; exact (fun w' _ => c1 w')) | (apply OQ.move; exact rfl) | (apply OQ.assign; exact rfl)) rfl ?_ | refine JC.seq ?_ | refine JC.region ?_ | refine JL.nil ?_ | refine JE.next ?_ | refine JL.gon rfl rfl ?_ | refine JL.gskip rfl rfl rfl rfl ?_)
          refine JC.cond rfl (fun _ => ?_) (fun h => by cases h)
          repeat (first | refine JL.q (by (apply OQ.assign; exact rfl)) rfl ?_ | refine JC.seq ?_ | refine JC.region ?_ | refine JL.nil ?_ | refine JE.next ?_)
          refine JC.ret ?_
          repeat (refine JE.then_ret ?_)
          exact JE.ret2 rfl (RV.tmp rfl) (RV.tmp rfl) fun w' hw => ⟨rfl, hw.chg⟩
        · cases d2 : dotB whe
          · rw [d1] at c1
            rw [d2] at c2
            rw [hS, if_neg (fun k => by rw [d2] at k; cases k.2)]
            repeat (first | refine JL.q (by first | (apply OQ.callx (vs := [Z y, Z [64]]); exact goes_cutw; exact rfl; exact (fun w' _ => cC w')) | (apply OQ.extract; exact rfl; exact rfl) | (apply OQ.not; exact rfl) | (apply OQ.pick_f; exact rfl; exact rfl) | (apply OQ.callx (vs := [Z who]); exact goes_dotted; exact rfl; exact (fun w' _ => c1 w')) | (apply OQ.callx (vs := [Z whe]); exact goes_dotted; exact rfl; exact (fun w' _ => c2 w')) | (apply OQ.move; exact rfl) | (apply OQ.assign; exact rfl)) rfl ?_ | refine JC.seq ?_ | refine JC.region ?_ | refine JL.nil ?_ | refine JE.next ?_ | refine JL.gon rfl rfl ?_)
            refine JC.cond rfl (fun _ => ?_) (fun h => by cases h)
            repeat (first | refine JL.q (by (apply OQ.assign; exact rfl)) rfl ?_ | refine JC.seq ?_ | refine JC.region ?_ | refine JL.nil ?_ | refine JE.next ?_)
            refine JC.ret ?_
            repeat (refine JE.then_ret ?_)
            exact JE.ret2 rfl (RV.tmp rfl) (RV.tmp rfl) fun w' hw => ⟨rfl, hw.chg⟩
          · rw [hS, if_pos ⟨d1, d2⟩]
            rw [d1] at c1
            rw [d2] at c2
            have cL := fun w' => lower_any whe w' (by omega) (hlow d2)
            repeat (first | refine JL.q (by first | (apply OQ.callx (vs := [Z y, Z [64]]); exact goes_cutw; exact rfl; exact (fun w' _ => cC w')) | (apply OQ.extract; exact rfl; exact rfl) | (apply OQ.not; exact rfl) | (apply OQ.pick_f; exact rfl; exact rfl) | (apply OQ.callx (vs := [Z who]); exact goes_dotted; exact rfl; exact (fun w' _ => c1 w')) | (apply OQ.callx (vs := [Z whe]); exact goes_dotted; exact rfl; exact (fun w' _ => c2 w')) | (apply OQ.move; exact rfl) | (apply OQ.assign; exact rfl)) rfl ?_ | refine JC.seq ?_ | refine JC.region ?_ | refine JL.nil ?_ | refine JE.next ?_ | refine JL.gon rfl rfl ?_)
            refine JC.cond rfl (fun h => by cases h) (fun _ => ?_)
            repeat (first | refine JL.q (by first | (apply OQ.addS (l := who) (r := [64]); exact rfl; exact rfl; exact (by rw [List.length_singleton]; omega)) | (apply OQ.callx (vs := [Z whe]); exact goes_lower; exact rfl; exact (fun w' _ => cL w')) | (apply OQ.addS (l := who ++ [64]) (r := whe.map small); exact rfl; exact rfl; exact (by rw [List.length_append, List.length_map, List.length_singleton]; omega)) | (apply OQ.move; exact rfl) | (apply OQ.assign; exact rfl)) rfl ?_ | refine JC.seq ?_ | refine JC.region ?_ | refine JC.skip ?_ | refine JL.nil ?_ | refine JE.next ?_)
            refine JC.ret ?_
            exact JE.ret2 rfl (RV.tmp rfl) (RV.tmp rfl) fun w' hw => ⟨rfl, hw.chg⟩
      · rw [if_neg hf] at cC
        rw [hS, if_neg (fun k => hf k.1)]
        repeat (first | refine JL.q (by first | (apply OQ.callx (vs := [Z y, Z [64]]); exact goes_cutw; exact rfl; exact (fun w' _ => cC w')) | (apply OQ.extract; exact rfl; exact rfl) | (apply OQ.not; exact rfl) | (apply OQ.pick_t; exact rfl; exact rfl) | (apply OQ.move; exact rfl) | (apply OQ.assign; exact rfl)) rfl ?_ | refine JC.seq ?_ | refine JC.region ?_ | refine JL.nil ?_ | refine JE.next ?_ | refine JL.gskip rfl rfl rfl rfl ?_)
        refine JC.cond rfl (fun _ => ?_) (fun h => by cases h)
        repeat (first | refine JL.q (by (apply OQ.assign; exact rfl)) rfl ?_ | refine JC.seq ?_ | refine JC.region ?_ | refine JL.nil ?_ | refine JE.next ?_)
        refine JC.ret ?_
        repeat (refine JE.then_ret ?_)
        exact JE.ret2 rfl (RV.tmp rfl) (RV.tmp rfl) fun w' hw => ⟨rfl, hw.chg⟩
end Go.Proofs.YtdabhneehconeaaGreatDoor

/-
  Of no statement by itself: what the landed mime's inBoundary, Boundary, betweenLine, lastLine give; strings.HasPrefix at any texts.
  Conditions: each theorem's own.
-/
namespace Go.Proofs.YtdabhneehconeaaGreatDoor
set_option maxRecDepth 10000
open Sl Fld Mim
theorem goes_minb : Goes Tryz.prog 189 := ⟨_, Tryz.func189, rfl, by kernel_rfl⟩
theorem goes_mbnd : Goes Tryz.prog 134 := ⟨_, Tryz.func134, rfl, by kernel_rfl⟩
theorem goes_mbetw : Goes Tryz.prog 135 := ⟨_, Tryz.func135, rfl, by kernel_rfl⟩
theorem goes_mlastl : Goes Tryz.prog 136 := ⟨_, Tryz.func136, rfl, by kernel_rfl⟩
def bodL (c : Fld.By) : Bool := ((decide ((97 : Int) ≤ (c.toNat : Int)) && decide ((c.toNat : Int) ≤ 122)) || (decide ((65 : Int) ≤ (c.toNat : Int)) && decide ((c.toNat : Int) ≤ 90))) || (decide ((48 : Int) ≤ (c.toNat : Int)) && decide ((c.toNat : Int) ≤ 57))
theorem bodL_is (c : Fld.By) : bodB c = (bodL c || decide ((0 : Int) ≤ ixC c bsg)) := by
  have h : ∀ c : Fin 256, bodB (BitVec.ofNat 8 c.val) = (bodL (BitVec.ofNat 8 c.val) || decide ((0 : Int) ≤ ixC (BitVec.ofNat 8 c.val) bsg)) := by decide +kernel
  simpa using h ⟨c.toNat, c.isLt⟩
set_option maxHeartbeats 32000000 in
theorem minb_any (c : Bt) (w : World) : Calls Tryz.prog 189 [U8 c].toArray w fun e w' => e = .returned (.bool (bodB c)) ∧ Ext w w' := by
  refine enter (n := 30) Tryz.func189 rfl rfl rfl (Holds.start w []) ?_
  rw [bodL_is c]
  have ci := fun w' => idxb_any bsg c w'
  unfold bodL
  cases h1 : decide ((97 : Int) ≤ (c.toNat : Int)) <;> cases h2 : decide ((c.toNat : Int) ≤ 122) <;> cases h3 : decide ((65 : Int) ≤ (c.toNat : Int)) <;> cases h4 : decide ((c.toNat : Int) ≤ 90) <;> cases h5 : decide ((48 : Int) ≤ (c.toNat : Int)) <;> cases h6 : decide ((c.toNat : Int) ≤ 57)
  all_goals first
    | (exfalso
       have k1 := h1; have k2 := h2; have k3 := h3; have k4 := h4; have k5 := h5; have k6 := h6
       simp only [decide_eq_true_eq, decide_eq_false_iff_not] at k1 k2 k3 k4 k5 k6
       omega)
    | skip
  all_goals cases h7 : decide ((0 : Int) ≤ ixC c bsg)
  all_goals (repeat (first | refine JL.q (by first | (apply OQ.geqB (b := 97); exact rfl; exact rfl; exact h1) | (apply OQ.leqB (b := 122); exact rfl; exact rfl; exact h2) | (apply OQ.geqB (b := 65); exact rfl; exact rfl; exact h3) | (apply OQ.leqB (b := 90); exact rfl; exact rfl; exact h4) | (apply OQ.geqB (b := 48); exact rfl; exact rfl; exact h5) | (apply OQ.leqB (b := 57); exact rfl; exact rfl; exact h6) | (apply OQ.callx (vs := [Z bsg, U8 c]); exact goes_idxb; exact rfl; exact (fun w' _ => ci w')) | (apply OQ.geqB (b := 0); exact rfl; exact rfl; exact h7) | (apply OQ.pick_t; exact rfl; exact rfl) | (apply OQ.pick_f; exact rfl; exact rfl) | (apply OQ.move; exact rfl) | (apply OQ.assign; exact rfl)) rfl ?_ | refine JC.seq ?_ | refine JC.region ?_ | refine JL.nil ?_ | refine JE.next ?_ | refine JL.gon rfl rfl ?_ | refine JL.gskip rfl rfl rfl rfl ?_ | refine JL.gskipU rfl rfl rfl rfl ?_))
  all_goals exact JC.ret (JE.ret1 rfl (RV.tmp rfl) fun w' hw => ⟨rfl, hw.chg⟩)
set_option maxHeartbeats 16000000 in
theorem mbnd_any (s : List Bt) (w : World) (hl : s.length < 9223372036854775808) : Calls Tryz.prog 134 [Z s].toArray w fun e w' => e = .returned (.bool (boundB s)) ∧ Ext w w' := by
  refine enter (n := 22) Tryz.func134 rfl rfl rfl (Holds.start w []) ?_
  repeat (first | refine JL.q (by first | (apply OQ.lenS; exact Tryz.underlying9; exact rfl) | (apply OQ.move; exact rfl) | (apply OQ.assign; exact rfl)) rfl ?_ | refine JC.seq ?_ | refine JC.region ?_ | refine JC.block ?_ | refine JL.nil ?_ | refine JE.next ?_)
  refine JC.loop (fun i : Nat => [(0, Z s), (5, N s.length), (6, N i)]) (fun _ => []) (fun i => s.length - i) (fun i => i ≤ s.length ∧ (s.take i).all bodB = true) 0 ⟨Nat.zero_le _, rfl⟩ (by repeat (first | exact SubE.nil | refine SubE.cons _ _ _ rfl ?_)) (Less.refl _) ?_
  rintro i ⟨hi, ha⟩
  repeat (first | refine JL.q (by (apply OQ.lssN; exact rfl; exact rfl)) rfl ?_ | refine JC.seq ?_ | refine JC.region ?_ | refine JL.nil ?_ | refine JE.next ?_)
  refine JC.cond rfl (fun h => ?_) (fun h => ?_)
  · have hi' : i < s.length := of_decide_eq_true h
    clear h hi
    have hall := all_take bodB s 0 hi'
    have hbad := all_bad bodB s 0 hi'
    rw [ha, Bool.true_and] at hall
    have i0 := fun {n : Nat} {E : Env} {C : World → Prop} {dst : Option Tmp} {ty : TypeId} {pos : String} {aft : Array Edge} {g : Option (Nat × Bool)} {x y : Operand} => OQ.idxZ (P := Tryz.prog) (n := n) (E := E) (C := C) (dst := dst) (t := 9) (ty := ty) (pos := pos) (aft := aft) (g := g) (x := x) (y := y) (l := s) (k := .i64) (i := i) Tryz.underlying9 (hi := hi')
    generalize s.getD i 0 = c at hall hbad i0
    have cc := fun w' => minb_any c w'
    cases hb : bodB c
    · rw [hb] at cc
      have hF : boundB s = false := by
        unfold boundB
        rw [hbad hb]
        rfl
      rw [hF]
      repeat (first | refine JL.q (by first | (apply i0; exact rfl; exact rfl) | (apply OQ.callx (vs := [U8 c]); exact goes_minb; exact rfl; exact (fun w' _ => cc w')) | (apply OQ.not; exact rfl) | (apply OQ.move; exact rfl) | (apply OQ.assign; exact rfl)) rfl ?_ | refine JC.seq ?_ | refine JC.region ?_ | refine JC.block ?_ | refine JC.skip ?_ | refine JL.nil ?_ | refine JE.next ?_)
      refine JC.cond rfl (fun _ => ?_) (fun h => by cases h)
      repeat (first | refine JL.q (by (apply OQ.assign; exact rfl)) rfl ?_ | refine JC.seq ?_ | refine JC.region ?_ | refine JL.nil ?_ | refine JE.next ?_)
      refine JC.ret ?_
      repeat (first | refine JE.then_ret ?_ | refine JE.blk_ret ?_)
      exact JE.ret1 rfl (RV.tmp rfl) fun w' hw => ⟨rfl, hw.chg⟩
    · rw [hb] at cc hall
      repeat (first | refine JL.q (by first | (apply i0; exact rfl; exact rfl) | (apply OQ.callx (vs := [U8 c]); exact goes_minb; exact rfl; exact (fun w' _ => cc w')) | (apply OQ.not; exact rfl) | (apply OQ.move; exact rfl) | (apply OQ.assign; exact rfl)) rfl ?_ | refine JC.seq ?_ | refine JC.region ?_ | refine JC.block ?_ | refine JC.skip ?_ | refine JL.nil ?_ | refine JE.next ?_)
      refine JC.cond rfl (fun h => by cases h) (fun _ => ?_)
      repeat (first | refine JL.q (by first | (apply OQ.move; exact rfl) | (apply OQ.addN; exact rfl; exact rfl; exact (by (try simp only []); omega))) rfl ?_ | refine JC.region ?_ | refine JC.skip ?_ | refine JL.nil ?_ | refine JE.next ?_ | refine JE.blk_normal ?_)
      exact JE.again (i := i) (i + 1) ⟨hi', hall⟩ (by omega) (by repeat (first | exact SubE.nil | refine SubE.cons _ _ _ rfl ?_)) (Less.refl _)
  · have hi' : ¬ i < s.length := of_decide_eq_false h
    obtain rfl : i = s.length := by omega
    clear h hi hi'
    rw [List.take_length] at ha
    repeat (first | refine JL.q (by (apply OQ.move; exact rfl)) rfl ?_ | refine JC.seq ?_ | refine JC.region ?_ | refine JC.exit ?_ | refine JE.next ?_ | refine JE.then_exit ?_ | refine JE.blk_hit ?_)
    have hB : boundB s = (!decide (s = []) && decide ((s.length : Int) ≤ 70)) := by
      unfold boundB
      rw [ha, Bool.true_and]
      cases s with
      | nil => rfl
      | cons c r =>
        have e1 : decide ((1 : Nat) ≤ (c :: r).length) = true := decide_eq_true (by simp)
        have e2 : decide (c :: r = []) = false := decide_eq_false (by simp)
        have e3 : decide ((c :: r).length ≤ 70) = decide (((c :: r).length : Int) ≤ 70) := decide_eq_decide.2 (by omega)
        rw [e1, e2, e3]
        rfl
    rw [hB]
    cases e0 : decide (s = []) <;> cases h70 : decide ((s.length : Int) ≤ 70)
    all_goals (repeat (first | refine JL.q (by first | (apply OQ.lenS; exact Tryz.underlying9; exact rfl) | (apply OQ.neSB (r := []); exact rfl; exact rfl; exact e0) | (apply OQ.leqB (b := 70); exact rfl; exact rfl; exact h70) | (apply OQ.pick_t; exact rfl; exact rfl) | (apply OQ.pick_f; exact rfl; exact rfl) | (apply OQ.move; exact rfl) | (apply OQ.assign; exact rfl)) rfl ?_ | refine JL.nil ?_ | refine JE.next ?_ | refine JL.gon rfl rfl ?_ | refine JL.gskip rfl rfl rfl rfl ?_))
    all_goals exact JC.ret (JE.ret1 rfl (RV.tmp rfl) fun w' hw => ⟨rfl, hw.chg⟩)
theorem mbetw_any (s : List Bt) (w : World) (hl : s.length ≤ 1000000) : Calls Tryz.prog 135 [Z s].toArray w fun e w' => e = .returned (Z (45 :: 45 :: s)) ∧ Ext w w' := by
  refine enter (n := 5) Tryz.func135 rfl rfl rfl (Holds.start w []) ?_
  have e2 : ([45, 45] : List Bt).length = 2 := rfl
  repeat (first | refine JL.q (by first | (apply OQ.addS (l := [45, 45]) (r := s); exact rfl; exact rfl; exact (by rw [e2]; omega)) | (apply OQ.move; exact rfl) | (apply OQ.assign; exact rfl)) rfl ?_ | refine JC.seq ?_ | refine JC.region ?_ | refine JL.nil ?_ | refine JE.next ?_)
  exact JC.ret (JE.ret1 rfl (RV.tmp rfl) fun w' hw => ⟨rfl, hw.chg⟩)
theorem mlastl_any (s : List Bt) (w : World) (hl : s.length ≤ 1000000) : Calls Tryz.prog 136 [Z s].toArray w fun e w' => e = .returned (Z (45 :: 45 :: (s ++ [45, 45]))) ∧ Ext w w' := by
  refine enter (n := 6) Tryz.func136 rfl rfl rfl (Holds.start w []) ?_
  have e2 : ([45, 45] : List Bt).length = 2 := rfl
  have e3 : ([45, 45] ++ s : List Bt).length = s.length + 2 := by simp
  repeat (first | refine JL.q (by first | (apply OQ.addS (l := [45, 45]) (r := s); exact rfl; exact rfl; exact (by rw [e2]; omega)) | (apply OQ.addS (l := [45, 45] ++ s) (r := [45, 45]); exact rfl; exact rfl; exact (by rw [e2, e3]; omega)) | (apply OQ.move; exact rfl) | (apply OQ.assign; exact rfl)) rfl ?_ | refine JC.seq ?_ | refine JC.region ?_ | refine JL.nil ?_ | refine JE.next ?_)
  exact JC.ret (JE.ret1 rfl (RV.tmp rfl) fun w' hw => ⟨rfl, hw.chg⟩)
theorem goes_shpx : Goes Tryz.prog 133 := ⟨_, Tryz.func133, rfl, by kernel_rfl⟩
theorem goes_shpy : Goes Tryz.prog 188 := ⟨_, Tryz.func188, rfl, by kernel_rfl⟩
set_option maxHeartbeats 2000000 in
theorem shpy_any (s d : List Bt) (w : World) : Calls Tryz.prog 188 [Z s, Z d].toArray w fun e w' => e = .returned (.bool (decide (s.take d.length = d))) ∧ Ext w w' := by
  refine enter (n := 18) Tryz.func188 rfl rfl rfl (Holds.start w []) ?_
  cases h1 : decide ((d.length : Int) ≤ (s.length : Int))
  · have hF : decide (s.take d.length = d) = false := decide_eq_false fun e => by
      have := congrArg List.length e
      rw [List.length_take] at this
      have := of_decide_eq_false h1
      omega
    rw [hF]
    repeat (first | refine JL.q (by first | (apply OQ.lenS; exact Tryz.underlying9; exact rfl) | (apply OQ.geqB (b := (d.length : Int)); exact rfl; exact rfl; exact h1) | (apply OQ.pick_f; exact rfl; exact rfl) | (apply OQ.move; exact rfl) | (apply OQ.assign; exact rfl)) rfl ?_ | refine JC.seq ?_ | refine JC.region ?_ | refine JL.nil ?_ | refine JE.next ?_ | refine JL.gskip rfl rfl rfl rfl ?_)
    exact JC.ret (JE.ret1 rfl (RV.tmp rfl) fun w' hw => ⟨rfl, hw.chg⟩)
  · have hle : d.length ≤ s.length := by have := of_decide_eq_true h1; omega
    cases h2 : decide (s.take d.length = d)
    all_goals (repeat (first | refine JL.q (by first | (apply OQ.lenS; exact Tryz.underlying9; exact rfl) | (apply OQ.geqB (b := (d.length : Int)); exact rfl; exact rfl; exact h1) | (apply OQ.subS_hi (j := d.length); exact Tryz.underlying9; exact rfl; exact rfl; exact hle) | (apply OQ.eqSB; exact rfl; exact rfl; exact h2) | (apply OQ.pick_t; exact rfl; exact rfl) | (apply OQ.move; exact rfl) | (apply OQ.assign; exact rfl)) rfl ?_ | refine JC.seq ?_ | refine JC.region ?_ | refine JL.nil ?_ | refine JE.next ?_ | refine JL.gon rfl rfl ?_))
    all_goals exact JC.ret (JE.ret1 rfl (RV.tmp rfl) fun w' hw => ⟨rfl, hw.chg⟩)
theorem shpx_any (s d : List Bt) (w : World) : Calls Tryz.prog 133 [Z s, Z d].toArray w fun e w' => e = .returned (.bool (decide (s.take d.length = d))) ∧ Ext w w' := by
  refine enter (n := 8) Tryz.func133 rfl rfl rfl (Holds.start w []) ?_
  have hq := fun w' => shpy_any s d w'
  repeat (first | refine JL.q (by first | (apply OQ.callx (vs := [Z s, Z d]); exact goes_shpy; exact rfl; exact (fun w' _ => hq w')) | (apply OQ.move; exact rfl) | (apply OQ.assign; exact rfl)) rfl ?_ | refine JC.seq ?_ | refine JC.region ?_ | refine JL.nil ?_ | refine JE.next ?_)
  exact JC.ret (JE.ret1 rfl (RV.tmp rfl) fun w' hw => ⟨rfl, hw.chg⟩)
end Go.Proofs.YtdabhneehconeaaGreatDoor

/-
  Of no statement by itself: what the reference's Bare (layer 10) gives.
  Conditions: each theorem's own.
-/
namespace Go.Proofs.YtdabhneehconeaaGreatDoor
set_option maxRecDepth 10000
open Sl Fld Tok
theorem goes_rbare : Goes Tryz.prog 62 := ⟨_, Tryz.func62, rfl, by kernel_rfl⟩
structure BS where
  i : Nat
  d : Nat
  q : Bool
  o : List Fld.By
  n : Nat
  b : Nat
  cap : Nat
theorem is_of {c : Fld.By} (k : Fld.By) (h : decide ((c.toNat : Int) = (k.toNat : Int)) = true) : c = k := by rw [eq_nat] at h; exact beq_iff_eq.1 h
theorem not_of {c : Fld.By} (k : Fld.By) (h : decide ((c.toNat : Int) = (k.toNat : Int)) = false) : ¬ c = k := by rw [eq_nat] at h; exact beq_eq_false_iff_ne.1 h
set_option maxHeartbeats 32000000 in
theorem rbare_any (s : List Fld.By) (w : World) (hl : s.length < 1000000) : Calls Tryz.prog 62 [Z s].toArray w fun e w' => e = .returned (.tuple #[Z (bareB s).1, N (bareB s).2]) ∧ Ext w w' := by
  refine enter (n := 86) Tryz.func62 rfl rfl rfl (Holds.start w []) ?_
  repeat (first | refine JL.q (by (apply OQ.assign; exact rfl)) rfl ?_ | refine JC.seq ?_ | refine JC.region ?_ | refine JL.nil ?_ | refine JE.next ?_)
  refine JL.lit0O Tryz.underlying22 u8e rfl fun b0 _ => ?_
  repeat (first | refine JL.q (by (apply OQ.assign; exact rfl)) rfl ?_ | refine JC.seq ?_ | refine JC.region ?_ | refine JC.block ?_ | refine JL.nil ?_ | refine JE.next ?_)
  refine JC.loop (fun z : BS => [(0, Z s), (4, .slice (some ⟨z.b, 0, none⟩) z.n z.cap), (5, N z.d), (6, .bool z.q), (7, N z.i)]) (fun z => [⟨z.b, Sl.Own 5 1 z.n z.cap (z.o.map U8), true⟩]) (fun z => s.length + 1 - z.i) (fun z => z.i ≤ s.length + 1 ∧ z.d ≤ 9 ∧ z.o.length = z.n ∧ z.n ≤ z.i ∧ bareB s = bareR (s.drop z.i) z.d z.q z.o) ⟨0, 0, false, [], 0, b0, 0⟩ ⟨by simp, by simp, rfl, by simp, rfl⟩ (by repeat (first | exact SubE.nil | refine SubE.cons _ _ _ rfl ?_)) (Less.refl _) ?_
  rintro ⟨i, d, q, o, n, b, cap⟩ ⟨hi, hd, hon, hn, ha⟩
  simp only at hi hd hon hn ha
  dsimp only
  repeat (first | refine JL.q (by first | (apply OQ.lenS; exact Tryz.underlying9; exact rfl) | (apply OQ.move; exact rfl) | (apply OQ.lssN; exact rfl; exact rfl)) rfl ?_ | refine JC.seq ?_ | refine JC.region ?_ | refine JL.nil ?_ | refine JE.next ?_)
  refine JC.cond rfl (fun h => ?_) (fun h => ?_)
  · have hi' : i < s.length := of_decide_eq_true h
    clear h hi
    rw [drop_getD hi'] at ha
    have hidx := fun {n : Nat} {E : Env} {C : World → Prop} {dst : Option Tmp} {ty : TypeId} {pos : String} {aft : Array Edge} {g : Option (Nat × Bool)} {x y : Operand} => idxAt10 hi' (n := n) (E := E) (C := C) (dst := dst) (ty := ty) (pos := pos) (aft := aft) (g := g) (x := x) (y := y)
    generalize s.getD i 0 = c at hidx ha
    cases h92 : decide ((c.toNat : Int) = 92) <;> cases hq : q <;> cases h0 : decide ((0 : Int) < (d : Int))
    all_goals subst hq
    all_goals (repeat (first | refine JL.q (by first | (apply hidx; exact rfl; exact rfl) | (apply OQ.eqB (b := 92); exact rfl; exact rfl; exact h92) | (apply OQ.gtrB (b := 0); exact rfl; exact rfl; exact h0) | (apply OQ.pick_t; exact rfl; exact rfl) | (apply OQ.pick_f; exact rfl; exact rfl) | (apply OQ.move; exact rfl) | (apply OQ.assign; exact rfl)) rfl ?_ | refine JC.seq ?_ | refine JC.region ?_ | refine JC.block ?_ | refine JC.skip ?_ | refine JL.nil ?_ | refine JE.next ?_ | refine JL.gon rfl rfl ?_ | refine JL.gskip rfl rfl rfl rfl ?_ | refine JL.gskipU rfl rfl rfl rfl ?_))
    all_goals refine JC.cond rfl (fun h => ?_) (fun h => ?_)
    all_goals first | (exfalso; revert h; decide) | skip
    all_goals clear h
    case refine_1.true.true.false.refine_1 | refine_1.true.true.true.refine_1 =>
      obtain rfl : c = 92 := is_of 92 h92
      (repeat (first | refine JL.q (by (apply OQ.move; exact rfl)) rfl ?_ | refine JC.seq ?_ | refine JC.region ?_ | refine JL.nil ?_ | refine JE.next ?_))
      refine JC.cond rfl (fun _ => ?_) (fun h => by cases h)
      (repeat (first | refine JL.q (by (apply OQ.move; exact rfl)) rfl ?_ | refine JC.seq ?_ | refine JC.region ?_))
      refine JL.push1 (xs := o.map U8) (fun b' cap' => [⟨b', Sl.Own 5 1 (n + 1) cap' (o.map U8 ++ [U8 92]), true⟩]) Tryz.underlying22 u8e rfl rfl rfl rfl (fun _ => rfl) (by intro _ _; repeat (first | exact Repl.here | apply Repl.there)) (by omega) (by omega) rfl rfl fun bl b1 cap1 => ?_
      cases h4 : decide (((i + 1 : Nat) : Int) < (s.length : Int))
      · (repeat (first | refine JL.q (by first | (apply OQ.lenS; exact Tryz.underlying9; exact rfl) | (apply OQ.lssB; exact rfl; exact rfl; exact h4) | (apply OQ.move; exact rfl) | (apply OQ.assign; exact rfl) | (apply OQ.addN; exact rfl; exact rfl; exact (by (try simp only []); omega))) rfl ?_ | refine JC.seq ?_ | refine JC.region ?_ | refine JL.nil ?_ | refine JE.next ?_))
        refine JC.cond rfl (fun h => by cases h) (fun _ => ?_)
        (repeat (first | refine JL.q (by first | (apply OQ.move; exact rfl) | (apply OQ.assign; exact rfl) | (apply OQ.addN; exact rfl; exact rfl; exact (by (try simp only []); omega))) rfl ?_ | refine JC.seq ?_ | refine JC.region ?_ | refine JC.skip ?_ | refine JC.exit ?_ | refine JL.nil ?_ | refine JE.next ?_ | refine JE.then_exit ?_ | refine JE.blk_hit ?_))
        have he : s.length ≤ i + 1 := by have := of_decide_eq_false h4; omega
        rw [List.drop_of_length_le he, bare_q92e] at ha
        refine JE.again (i := BS.mk i d true o n b cap) (BS.mk (i + 2) d true (o ++ [92]) (n + 1) b1 cap1) ⟨by dsimp only; omega, hd, by simp [hon], by dsimp only; omega, by dsimp only; rw [List.drop_of_length_le (by omega), ha, bare_end]; simp⟩ (by dsimp only; omega) (by repeat (first | exact SubE.nil | refine SubE.cons _ _ _ rfl ?_)) (.keep _ _ _ _ _ _ (fun o h => by dsimp only; simp only [List.map_append]; exact h) (.nil _))
      · have hi2 : i + 1 < s.length := by have := of_decide_eq_true h4; omega
        rw [drop_getD hi2] at ha
        have hidx2 := fun {n : Nat} {E : Env} {C : World → Prop} {dst : Option Tmp} {ty : TypeId} {pos : String} {aft : Array Edge} {g : Option (Nat × Bool)} {x y : Operand} => idxAt10 hi2 (n := n) (E := E) (C := C) (dst := dst) (ty := ty) (pos := pos) (aft := aft) (g := g) (x := x) (y := y)
        generalize s.getD (i + 1) 0 = c2 at hidx2 ha
        rw [bare_q92] at ha
        (repeat (first | refine JL.q (by first | (apply OQ.lenS; exact Tryz.underlying9; exact rfl) | (apply OQ.lssB; exact rfl; exact rfl; exact h4) | (apply OQ.move; exact rfl) | (apply OQ.assign; exact rfl) | (apply OQ.addN; exact rfl; exact rfl; exact (by (try simp only []); omega))) rfl ?_ | refine JC.seq ?_ | refine JC.region ?_ | refine JL.nil ?_ | refine JE.next ?_))
        refine JC.cond rfl (fun _ => ?_) (fun h => by cases h)
        (repeat (first | refine JL.q (by first | (apply hidx2; exact rfl; exact rfl) | (apply OQ.move; exact rfl) | (apply OQ.addN; exact rfl; exact rfl; exact (by (try simp only []); omega))) rfl ?_ | refine JC.region ?_))
        refine JL.push1 (xs := o.map U8 ++ [U8 92]) (fun b' cap' => [⟨b', Sl.Own 5 1 (n + 1 + 1) cap' (o.map U8 ++ [U8 92] ++ [U8 c2]), true⟩]) Tryz.underlying22 u8e rfl rfl rfl rfl (fun _ => rfl) (by intro _ _; repeat (first | exact Repl.here | apply Repl.there)) (by omega) (by omega) rfl rfl fun bl b2 cap2 => ?_
        (repeat (first | refine JL.q (by first | (apply OQ.move; exact rfl) | (apply OQ.assign; exact rfl) | (apply OQ.addN; exact rfl; exact rfl; exact (by (try simp only []); omega))) rfl ?_ | refine JC.seq ?_ | refine JC.region ?_ | refine JC.exit ?_ | refine JL.nil ?_ | refine JE.next ?_ | refine JE.then_exit ?_ | refine JE.blk_hit ?_))
        refine JE.again (i := BS.mk i d true o n b cap) (BS.mk (i + 2) d true (o ++ [92] ++ [c2]) (n + 1 + 1) b2 cap2) ⟨by dsimp only; omega, hd, by simp [hon], by dsimp only; omega, ha⟩ (by dsimp only; omega) (by repeat (first | exact SubE.nil | refine SubE.cons _ _ _ rfl ?_)) (.keep _ _ _ _ _ _ (fun o h => by dsimp only; simp only [List.map_append]; exact h) (.nil _))
    case refine_1.true.false.true.refine_1 =>
      obtain rfl : c = 92 := is_of 92 h92
      have hd0 : 0 < d := by have := of_decide_eq_true h0; omega
      (repeat (first | refine JL.q (by (apply OQ.move; exact rfl)) rfl ?_ | refine JC.seq ?_ | refine JC.region ?_ | refine JL.nil ?_ | refine JE.next ?_))
      refine JC.cond rfl (fun h => by cases h) (fun _ => ?_)
      (repeat (first | refine JL.q (by first | (apply OQ.move; exact rfl) | (apply OQ.assign; exact rfl) | (apply OQ.addN; exact rfl; exact rfl; exact (by (try simp only []); omega))) rfl ?_ | refine JC.seq ?_ | refine JC.region ?_ | refine JC.skip ?_ | refine JC.exit ?_ | refine JL.nil ?_ | refine JE.next ?_ | refine JE.then_exit ?_ | refine JE.blk_hit ?_))
      refine JE.again (i := BS.mk i d false o n b cap) (BS.mk (i + 2) d false o n b cap) ⟨by dsimp only; omega, hd, hon, by dsimp only; omega, ?_⟩ (by dsimp only; omega) (by repeat (first | exact SubE.nil | refine SubE.cons _ _ _ rfl ?_)) (Less.refl _)
      dsimp only
      by_cases h4 : i + 1 < s.length
      · rw [drop_getD h4, bare_d92 hd0] at ha
        exact ha
      · rw [List.drop_of_length_le (by omega), bare_d92e hd0] at ha
        rw [List.drop_of_length_le (by omega), ha, bare_end, h0]; rfl
    case refine_1.false.true.false.refine_2 | refine_1.false.true.true.refine_2 =>
      rw [bare_q (not_of 92 h92), eqc] at ha
      (repeat (first | refine JL.q (by (apply OQ.move; exact rfl)) rfl ?_ | refine JC.seq ?_ | refine JC.region ?_ | refine JC.skip ?_ | refine JL.nil ?_ | refine JE.next ?_))
      refine JC.cond rfl (fun _ => ?_) (fun h => by cases h)
      (repeat (first | refine JL.q (by (apply OQ.move; exact rfl)) rfl ?_ | refine JC.seq ?_ | refine JC.region ?_))
      refine JL.push1 (xs := o.map U8) (fun b' cap' => [⟨b', Sl.Own 5 1 (n + 1) cap' (o.map U8 ++ [U8 c]), true⟩]) Tryz.underlying22 u8e rfl rfl rfl rfl (fun _ => rfl) (by intro _ _; repeat (first | exact Repl.here | apply Repl.there)) (by omega) (by omega) rfl rfl fun bl b1 cap1 => ?_
      cases h34 : decide ((c.toNat : Int) = 34)
      all_goals (
        (repeat (first | refine JL.q (by first | (apply OQ.neB (b := 34); exact rfl; exact rfl; exact h34) | (apply OQ.move; exact rfl) | (apply OQ.assign; exact rfl) | (apply OQ.addN; exact rfl; exact rfl; exact (by (try simp only []); omega))) rfl ?_ | refine JC.seq ?_ | refine JC.region ?_ | refine JC.exit ?_ | refine JL.nil ?_ | refine JE.next ?_ | refine JE.then_exit ?_ | refine JE.blk_hit ?_))
        rw [show decide ((c.toNat : Int) = ((34 : Fld.By).toNat : Int)) = _ from h34] at ha
        refine JE.again (i := BS.mk i d true o n b cap) (BS.mk (i + 1) d _ (o ++ [c]) (n + 1) b1 cap1) ⟨by dsimp only; omega, hd, by simp [hon], by dsimp only; omega, ha⟩ (by dsimp only; omega) (by repeat (first | exact SubE.nil | refine SubE.cons _ _ _ rfl ?_)) (.keep _ _ _ _ _ _ (fun o h => by dsimp only; simp only [List.map_append]; exact h) (.nil _)))
    all_goals (
      have hns : d = 0 ∨ ¬ c = 92 := by
        first
          | exact Or.inr (not_of 92 h92)
          | exact Or.inl (by have := of_decide_eq_false h0; omega)
      (repeat (first | refine JL.q (by (apply OQ.move; exact rfl)) rfl ?_ | refine JC.seq ?_ | refine JC.region ?_ | refine JC.skip ?_ | refine JL.nil ?_ | refine JE.next ?_))
      refine JC.cond rfl (fun h => by cases h) (fun _ => ?_)
      cases h40 : decide ((c.toNat : Int) = 40)
      case true =>
        obtain rfl : c = 40 := is_of 40 h40
        rw [bare_40] at ha
        (repeat (first | refine JL.q (by first | (apply OQ.eqB (b := 40); exact rfl; exact rfl; exact h40) | (apply OQ.move; exact rfl)) rfl ?_ | refine JC.seq ?_ | refine JC.region ?_ | refine JC.skip ?_ | refine JL.nil ?_ | refine JE.next ?_))
        refine JC.cond rfl (fun _ => ?_) (fun h => by cases h)
        cases h9 : decide ((9 : Int) < ((d + 1 : Nat) : Int))
        · rw [if_neg (by have := of_decide_eq_false h9; omega)] at ha
          (repeat (first | refine JL.q (by first | (apply OQ.gtrB (b := 9); exact rfl; exact rfl; exact h9) | (apply OQ.move; exact rfl) | (apply OQ.assign; exact rfl) | (apply OQ.addN; exact rfl; exact rfl; exact (by (try simp only []); omega))) rfl ?_ | refine JC.seq ?_ | refine JC.region ?_ | refine JL.nil ?_ | refine JE.next ?_))
          refine JC.cond rfl (fun h => by cases h) (fun _ => ?_)
          (repeat (first | refine JL.q (by first | (apply OQ.move; exact rfl) | (apply OQ.assign; exact rfl) | (apply OQ.addN; exact rfl; exact rfl; exact (by (try simp only []); omega))) rfl ?_ | refine JC.region ?_ | refine JC.skip ?_ | refine JC.exit ?_ | refine JL.nil ?_ | refine JE.next ?_ | refine JE.then_exit ?_ | refine JE.blk_hit ?_))
          exact JE.again (i := BS.mk i d false o n b cap) (BS.mk (i + 1) (d + 1) false o n b cap) ⟨by dsimp only; omega, by have := of_decide_eq_false h9; dsimp only; omega, hon, by dsimp only; omega, ha⟩ (by dsimp only; omega) (by repeat (first | exact SubE.nil | refine SubE.cons _ _ _ rfl ?_)) (Less.refl _)
        · rw [if_pos (by have := of_decide_eq_true h9; omega)] at ha
          rw [ha]
          (repeat (first | refine JL.q (by first | (apply OQ.gtrB (b := 9); exact rfl; exact rfl; exact h9) | (apply OQ.move; exact rfl) | (apply OQ.assign; exact rfl) | (apply OQ.addN; exact rfl; exact rfl; exact (by (try simp only []); omega))) rfl ?_ | refine JC.seq ?_ | refine JC.region ?_ | refine JL.nil ?_ | refine JE.next ?_))
          refine JC.cond rfl (fun _ => ?_) (fun h => by cases h)
          (repeat (first | refine JL.q (by (apply OQ.assign; exact rfl)) rfl ?_ | refine JC.seq ?_ | refine JC.region ?_ | refine JL.nil ?_ | refine JE.next ?_))
          refine JC.ret ?_
          (repeat (first | refine JE.then_ret ?_ | refine JE.blk_ret ?_))
          refine JE.ret2 rfl (RV.tmp rfl) (RV.tmp rfl) ?_
          exact fun w' hw => ⟨rfl, hw.chg⟩
      case false =>
        cases h41 : decide ((c.toNat : Int) = 41)
        case true =>
          obtain rfl : c = 41 := is_of 41 h41
          rw [bare_41] at ha
          (repeat (first | refine JL.q (by first | (apply OQ.eqB (b := 40); exact rfl; exact rfl; exact h40) | (apply OQ.move; exact rfl)) rfl ?_ | refine JC.seq ?_ | refine JC.region ?_ | refine JC.skip ?_ | refine JL.nil ?_ | refine JE.next ?_))
          refine JC.cond rfl (fun h => by cases h) (fun _ => ?_)
          (repeat (first | refine JL.q (by first | (apply OQ.eqB (b := 41); exact rfl; exact rfl; exact h41) | (apply OQ.move; exact rfl)) rfl ?_ | refine JC.seq ?_ | refine JC.region ?_ | refine JC.skip ?_ | refine JL.nil ?_ | refine JE.next ?_))
          refine JC.cond rfl (fun _ => ?_) (fun h => by cases h)
          by_cases hd0 : d = 0
          · rw [if_pos hd0] at ha
            rw [ha]
            subst hd0
            (repeat (first | refine JL.q (by first | (apply OQ.subI (b := 1); exact rfl; exact rfl; exact (by omega); exact (by omega)) | (apply OQ.lssB (b := 0) (c := true); exact rfl; exact rfl; exact rfl) | (apply OQ.move; exact rfl) | (apply OQ.assign; exact rfl)) rfl ?_ | refine JC.seq ?_ | refine JC.region ?_ | refine JL.nil ?_ | refine JE.next ?_))
            refine JC.cond rfl (fun _ => ?_) (fun h => by cases h)
            (repeat (first | refine JL.q (by (apply OQ.assign; exact rfl)) rfl ?_ | refine JC.seq ?_ | refine JC.region ?_ | refine JL.nil ?_ | refine JE.next ?_))
            refine JC.ret ?_
            (repeat (first | refine JE.then_ret ?_ | refine JE.blk_ret ?_))
            refine JE.ret2 rfl (RV.tmp rfl) (RV.tmp rfl) ?_
            exact fun w' hw => ⟨rfl, hw.chg⟩
          · rw [if_neg hd0] at ha
            have hneg : decide (((d - 1 : Nat) : Int) < 0) = false := decide_eq_false (by omega)
            cases h1 : decide (((d - 1 : Nat) : Int) = 0)
            · rw [if_neg (by have := of_decide_eq_false h1; omega)] at ha
              (repeat (first | refine JL.q (by first | (apply OQ.lssB (b := 0); exact rfl; exact rfl; exact hneg) | (apply OQ.move; exact rfl) | (apply OQ.assign; exact rfl) | (apply OQ.subN; exact rfl; exact rfl; exact (by (try simp only []); omega); exact (by (try simp only []); omega))) rfl ?_ | refine JC.seq ?_ | refine JC.region ?_ | refine JL.nil ?_ | refine JE.next ?_))
              refine JC.cond rfl (fun h => by cases h) (fun _ => ?_)
              (repeat (first | refine JL.q (by first | (apply OQ.eqB (b := 0); exact rfl; exact rfl; exact h1) | (apply OQ.move; exact rfl)) rfl ?_ | refine JC.seq ?_ | refine JC.region ?_ | refine JC.skip ?_ | refine JL.nil ?_ | refine JE.next ?_))
              refine JC.cond rfl (fun h => by cases h) (fun _ => ?_)
              (repeat (first | refine JL.q (by first | (apply OQ.move; exact rfl) | (apply OQ.assign; exact rfl) | (apply OQ.addN; exact rfl; exact rfl; exact (by (try simp only []); omega))) rfl ?_ | refine JC.region ?_ | refine JC.skip ?_ | refine JC.exit ?_ | refine JL.nil ?_ | refine JE.next ?_ | refine JE.then_exit ?_ | refine JE.blk_hit ?_))
              exact JE.again (i := BS.mk i d false o n b cap) (BS.mk (i + 1) (d - 1) false o n b cap) ⟨by dsimp only; omega, by dsimp only; omega, hon, by dsimp only; omega, ha⟩ (by dsimp only; omega) (by repeat (first | exact SubE.nil | refine SubE.cons _ _ _ rfl ?_)) (Less.refl _)
            · rw [if_pos (by have := of_decide_eq_true h1; omega)] at ha
              (repeat (first | refine JL.q (by first | (apply OQ.lssB (b := 0); exact rfl; exact rfl; exact hneg) | (apply OQ.move; exact rfl) | (apply OQ.assign; exact rfl) | (apply OQ.subN; exact rfl; exact rfl; exact (by (try simp only []); omega); exact (by (try simp only []); omega))) rfl ?_ | refine JC.seq ?_ | refine JC.region ?_ | refine JL.nil ?_ | refine JE.next ?_))
              refine JC.cond rfl (fun h => by cases h) (fun _ => ?_)
              (repeat (first | refine JL.q (by first | (apply OQ.eqB (b := 0); exact rfl; exact rfl; exact h1) | (apply OQ.move; exact rfl)) rfl ?_ | refine JC.seq ?_ | refine JC.region ?_ | refine JC.skip ?_ | refine JL.nil ?_ | refine JE.next ?_))
              refine JC.cond rfl (fun _ => ?_) (fun h => by cases h)
              (repeat (first | refine JL.q (by (apply OQ.move; exact rfl)) rfl ?_ | refine JC.region ?_))
              refine JL.push1 (xs := o.map U8) (fun b' cap' => [⟨b', Sl.Own 5 1 (n + 1) cap' (o.map U8 ++ [U8 32]), true⟩]) Tryz.underlying22 u8e rfl rfl rfl rfl (fun _ => rfl) (by intro _ _; repeat (first | exact Repl.here | apply Repl.there)) (by omega) (by omega) rfl rfl fun bl b1 cap1 => ?_
              (repeat (first | refine JL.q (by first | (apply OQ.move; exact rfl) | (apply OQ.assign; exact rfl) | (apply OQ.addN; exact rfl; exact rfl; exact (by (try simp only []); omega))) rfl ?_ | refine JC.region ?_ | refine JC.exit ?_ | refine JL.nil ?_ | refine JE.next ?_ | refine JE.then_exit ?_ | refine JE.blk_hit ?_))
              exact JE.again (i := BS.mk i d false o n b cap) (BS.mk (i + 1) (d - 1) false (o ++ [32]) (n + 1) b1 cap1) ⟨by dsimp only; omega, by dsimp only; omega, by simp [hon], by dsimp only; omega, ha⟩ (by dsimp only; omega) (by repeat (first | exact SubE.nil | refine SubE.cons _ _ _ rfl ?_)) (.keep _ _ _ _ _ _ (fun o h => by dsimp only; simp only [List.map_append]; exact h) (.nil _))
        case false =>
          (repeat (first | refine JL.q (by first | (apply OQ.eqB (b := 40); exact rfl; exact rfl; exact h40) | (apply OQ.move; exact rfl)) rfl ?_ | refine JC.seq ?_ | refine JC.region ?_ | refine JC.skip ?_ | refine JL.nil ?_ | refine JE.next ?_))
          refine JC.cond rfl (fun h => by cases h) (fun _ => ?_)
          (repeat (first | refine JL.q (by first | (apply OQ.eqB (b := 41); exact rfl; exact rfl; exact h41) | (apply OQ.move; exact rfl)) rfl ?_ | refine JC.seq ?_ | refine JC.region ?_ | refine JC.skip ?_ | refine JL.nil ?_ | refine JE.next ?_))
          refine JC.cond rfl (fun h => by cases h) (fun _ => ?_)
          cases hd0 : decide ((d : Int) = 0)
          · have hd1 : ¬ d = 0 := by have := of_decide_eq_false hd0; omega
            rw [bare_s (by rcases hns with h | h; exact absurd h hd1; exact h) (not_of 40 h40) (not_of 41 h41) hd1] at ha
            (repeat (first | refine JL.q (by first | (apply OQ.eqB (b := 0); exact rfl; exact rfl; exact hd0) | (apply OQ.move; exact rfl)) rfl ?_ | refine JC.seq ?_ | refine JC.region ?_ | refine JC.skip ?_ | refine JL.nil ?_ | refine JE.next ?_))
            refine JC.cond rfl (fun h => by cases h) (fun _ => ?_)
            (repeat (first | refine JL.q (by first | (apply OQ.move; exact rfl) | (apply OQ.assign; exact rfl) | (apply OQ.addN; exact rfl; exact rfl; exact (by (try simp only []); omega))) rfl ?_ | refine JC.region ?_ | refine JC.skip ?_ | refine JL.nil ?_ | refine JE.next ?_ | refine JE.blk_normal ?_))
            exact JE.again (i := BS.mk i d false o n b cap) (BS.mk (i + 1) d false o n b cap) ⟨by dsimp only; omega, hd, hon, by dsimp only; omega, ha⟩ (by dsimp only; omega) (by repeat (first | exact SubE.nil | refine SubE.cons _ _ _ rfl ?_)) (Less.refl _)
          · obtain rfl : d = 0 := by have := of_decide_eq_true hd0; omega
            rw [bare_0 (not_of 40 h40) (not_of 41 h41), eqc] at ha
            (repeat (first | refine JL.q (by first | (apply OQ.eqB (b := 0); exact rfl; exact rfl; exact hd0) | (apply OQ.move; exact rfl)) rfl ?_ | refine JC.seq ?_ | refine JC.region ?_ | refine JC.skip ?_ | refine JL.nil ?_ | refine JE.next ?_))
            refine JC.cond rfl (fun _ => ?_) (fun h => by cases h)
            (repeat (first | refine JL.q (by (apply OQ.move; exact rfl)) rfl ?_ | refine JC.seq ?_ | refine JC.region ?_))
            refine JL.push1 (xs := o.map U8) (fun b' cap' => [⟨b', Sl.Own 5 1 (n + 1) cap' (o.map U8 ++ [U8 c]), true⟩]) Tryz.underlying22 u8e rfl rfl rfl rfl (fun _ => rfl) (by intro _ _; repeat (first | exact Repl.here | apply Repl.there)) (by omega) (by omega) rfl rfl fun bl b1 cap1 => ?_
            cases h34 : decide ((c.toNat : Int) = 34)
            all_goals (
              (repeat (first | refine JL.q (by first | (apply OQ.eqB (b := 34); exact rfl; exact rfl; exact h34) | (apply OQ.move; exact rfl) | (apply OQ.assign; exact rfl) | (apply OQ.addN; exact rfl; exact rfl; exact (by (try simp only []); omega))) rfl ?_ | refine JC.region ?_ | refine JL.nil ?_ | refine JE.next ?_ | refine JE.blk_normal ?_))
              rw [show decide ((c.toNat : Int) = ((34 : Fld.By).toNat : Int)) = _ from h34] at ha
              refine JE.again (i := BS.mk i 0 false o n b cap) (BS.mk (i + 1) 0 _ (o ++ [c]) (n + 1) b1 cap1) ⟨by dsimp only; omega, hd, by simp [hon], by dsimp only; omega, ha⟩ (by dsimp only; omega) (by repeat (first | exact SubE.nil | refine SubE.cons _ _ _ rfl ?_)) (.keep _ _ _ _ _ _ (fun o h => by dsimp only; simp only [List.map_append]; exact h) (.nil _))))
  · have hi' : ¬ i < s.length := of_decide_eq_false h
    clear h hi
    rw [List.drop_of_length_le (by omega), bare_end] at ha
    cases h0 : decide ((0 : Int) < (d : Int)) <;> cases hq : q
    all_goals subst hq
    all_goals (rw [h0] at ha)
    all_goals (repeat (first | refine JL.q (by first | (apply OQ.gtrB (b := 0); exact rfl; exact rfl; exact h0) | (apply OQ.pick_t; exact rfl; exact rfl) | (apply OQ.pick_f; exact rfl; exact rfl) | (apply OQ.move; exact rfl)) rfl ?_ | refine JC.seq ?_ | refine JC.region ?_ | refine JC.exit ?_ | refine JL.nil ?_ | refine JE.next ?_ | refine JE.then_exit ?_ | refine JE.blk_hit ?_ | refine JL.gon rfl rfl ?_ | refine JL.gskip rfl rfl rfl rfl ?_))
    all_goals refine JC.cond rfl (fun h => ?_) (fun h => ?_)
    all_goals first | (exfalso; revert h; decide) | skip
    all_goals clear h
    all_goals first
      | (have e : bareB s = ([], 3) := ha
         rw [e]
         (repeat (first | refine JL.q (by (apply OQ.assign; exact rfl)) rfl ?_ | refine JC.seq ?_ | refine JC.region ?_ | refine JL.nil ?_ | refine JE.next ?_))
         refine JC.ret ?_
         (repeat (refine JE.then_ret ?_))
         refine JE.ret2 rfl (RV.tmp rfl) (RV.tmp rfl) ?_
         exact fun w' hw => ⟨rfl, hw.chg⟩)
      | (have e : bareB s = (o, 0) := ha
         rw [e]
         subst hon
         (repeat (first | refine JL.q (by first | (apply OQ.b2s (s := ⟨some ⟨b, 0, none⟩, cap, o⟩); exact Tryz.underlying22; exact Tryz.underlying5; exact Tryz.underlying9; exact rfl; exact (fun w' hw' => ownb_ok hw' .here)) | (apply OQ.move; exact rfl) | (apply OQ.assign; exact rfl)) rfl ?_ | refine JC.seq ?_ | refine JC.region ?_ | refine JC.skip ?_ | refine JL.nil ?_ | refine JE.next ?_))
         refine JC.ret ?_
         (skip)
         refine JE.ret2 rfl (RV.tmp rfl) (RV.tmp rfl) ?_
         exact fun w' hw => ⟨rfl, hw.chg⟩)
end Go.Proofs.YtdabhneehconeaaGreatDoor

/-
  Of no statement by itself: what the reference's Address (layer 10) gives.
  Conditions: each theorem's own.
-/
namespace Go.Proofs.YtdabhneehconeaaGreatDoor
set_option maxRecDepth 10000
open Sl Fld Tok
theorem tw_all {p : Fld.By → Bool} : ∀ {a b : List Fld.By}, a.all p = true → (∀ c ∈ b.head?, p c = false) → (a ++ b).takeWhile p = a
  | [], [], _, _ => rfl
  | [], c :: b, _, h => by
    rw [List.nil_append, List.takeWhile_cons, if_neg (by rw [h c rfl]; decide)]
  | c :: a, b, h, k => by
    rw [List.all_cons, Bool.and_eq_true] at h
    rw [List.cons_append, List.takeWhile_cons, if_pos h.1, tw_all h.2 k]
theorem ang_is {t : List Fld.By} {n : Nat} (hn : n + 1 < t.length) (h : t.getD n 0 = 60) (hj : ∀ j : Nat, n < j → j < t.length → ¬ t.getD j 0 = 60) : ang t.dropLast = (t.take (t.length - 1)).drop (n + 1) := by
  rw [List.dropLast_eq_take]
  have hv : (t.take (t.length - 1)) = (t.take n) ++ 60 :: (t.take (t.length - 1)).drop (n + 1) := by
    conv => lhs; rw [← List.take_append_drop n (t.take (t.length - 1))]
    rw [List.take_take, Nat.min_eq_left (by omega)]
    congr 1
    rw [List.drop_eq_getElem_cons (by rw [List.length_take]; omega), List.getElem_take]
    congr 1
    rw [← h, List.getD_eq_getElem?_getD, List.getElem?_eq_getElem (by omega)]; rfl
  unfold ang
  conv => lhs; rw [hv]
  rw [List.reverse_append, List.reverse_cons, List.append_assoc, tw_all (b := [60] ++ _), List.reverse_reverse]
  · rw [List.all_reverse, List.all_eq_true]
    intro x hx
    obtain ⟨k, hk, rfl⟩ := List.mem_iff_getElem.1 hx
    rw [List.length_drop, List.length_take] at hk
    have := hj (n + 1 + k) (by omega) (by omega)
    rw [List.getD_eq_getElem?_getD, List.getElem?_eq_getElem (by omega)] at this
    rw [List.getElem_drop, List.getElem_take]
    simpa using this
  · intro c hc
    simp at hc
    subst hc
    rfl
set_option maxHeartbeats 32000000 in
theorem raddr_any (s : List Fld.By) (w : World) (hl : s.length < 1000000) : Calls Tryz.prog 34 [Z s].toArray w fun e w' => e = .returned (.tuple #[Z (addrB s).1, N (addrB s).2]) ∧ Ext w w' := by
  refine enter (n := 92) Tryz.func34 rfl rfl rfl (Holds.start w []) ?_
  have cB := fun w' => rbare_any s w' hl
  have hbl := bareB_len s
  unfold addrB
  generalize (bareB s).1 = x at cB hbl ⊢
  generalize (bareB s).2 = k at cB ⊢
  cases hk : decide ((k : Int) = 0)
  · rw [if_neg (by have := of_decide_eq_false hk; omega)]
    repeat (first | refine JL.q (by first | (apply OQ.callx (vs := [Z s]); exact goes_rbare; exact rfl; exact (fun w' _ => cB w')) | (apply OQ.extract; exact rfl; exact rfl) | (apply OQ.neB (b := 0); exact rfl; exact rfl; exact hk) | (apply OQ.move; exact rfl) | (apply OQ.assign; exact rfl)) rfl ?_ | refine JC.seq ?_ | refine JC.region ?_ | refine JL.nil ?_ | refine JE.next ?_)
    refine JC.cond rfl (fun _ => ?_) (fun h => by cases h)
    repeat (first | refine JL.q (by first | (apply OQ.move; exact rfl) | (apply OQ.assign; exact rfl)) rfl ?_ | refine JC.seq ?_ | refine JC.region ?_ | refine JL.nil ?_ | refine JE.next ?_)
    refine JC.ret ?_
    repeat (refine JE.then_ret ?_)
    refine JE.ret2 rfl (RV.tmp rfl) (RV.tmp rfl) ?_
    exact fun w' hw => ⟨rfl, hw.chg⟩
  rw [if_pos (by have := of_decide_eq_true hk; omega)]
  have cT := fun w' => rtrim_any x w' (by omega)
  have htl := trim_short x
  generalize trim x = t at cT htl ⊢
  have hidx : 0 < t.length → ∀ {n : Nat} {E : Env} {C : World → Prop} {dst : Option Tmp} {ty : TypeId} {pos : String} {aft : Array Edge} {g : Option (Nat × Bool)} {x y : Operand}, ev E x = some (Z t) → ev E y = some (N (t.length - 1)) → OQ Tryz.prog n E C ⟨dst, .index 9 x y, ty, pos, aft, g⟩ (U8 (t.getD (t.length - 1) 0)) := fun hp => idxAt10 (s := t) (i := t.length - 1) (by omega)
  have hT : addrT t = if 0 < t.length ∧ t.getD (t.length - 1) 0 = 62 then (if 60 ∈ t then addrS (trim (ang t.dropLast)) else ([], 3)) else addrS t := rfl
  generalize hc : t.getD (t.length - 1) 0 = c at hidx hT
  cases h0 : decide ((0 : Int) < (t.length : Int)) <;> cases h62 : decide ((c.toNat : Int) = 62)
  all_goals (try have hp : 0 < t.length := by (have := of_decide_eq_true h0; omega))
  all_goals (try have hidx := fun {n : Nat} {E : Env} {C : World → Prop} {dst : Option Tmp} {ty : TypeId} {pos : String} {aft : Array Edge} {g : Option (Nat × Bool)} {x y : Operand} => hidx hp (n := n) (E := E) (C := C) (dst := dst) (ty := ty) (pos := pos) (aft := aft) (g := g) (x := x) (y := y))
  all_goals (repeat (first | refine JL.q (by first | (apply OQ.callx (vs := [Z s]); exact goes_rbare; exact rfl; exact (fun w' _ => cB w')) | (apply OQ.extract; exact rfl; exact rfl) | (apply OQ.neB (b := 0); exact rfl; exact rfl; exact hk) | (apply OQ.move; exact rfl) | (apply OQ.assign; exact rfl)) rfl ?_ | refine JC.seq ?_ | refine JC.region ?_ | refine JL.nil ?_ | refine JE.next ?_))
  all_goals refine JC.cond rfl (fun h => by cases h) (fun _ => ?_)
  all_goals (repeat (first | refine JL.q (by first | (apply OQ.callx (vs := [Z x]); exact goes_rtrim; exact rfl; exact (fun w' _ => cT w')) | (apply OQ.lenS; exact Tryz.underlying9; exact rfl) | (apply OQ.gtrB (b := 0); exact rfl; exact rfl; exact h0) | (apply hidx; exact rfl; exact rfl) | (apply OQ.eqB (b := 62); exact rfl; exact rfl; exact h62) | (apply OQ.pick_t; exact rfl; exact rfl) | (apply OQ.pick_f; exact rfl; exact rfl) | (apply OQ.move; exact rfl) | (apply OQ.assign; exact rfl) | (apply OQ.subN; exact rfl; exact rfl; exact (by (try simp only []); omega); exact (by (try simp only []); omega))) rfl ?_ | refine JC.seq ?_ | refine JC.region ?_ | refine JC.skip ?_ | refine JL.nil ?_ | refine JE.next ?_ | refine JL.gon rfl rfl ?_ | refine JL.gskip rfl rfl rfl rfl ?_))
  all_goals (
    refine JC.join (ι := {u : List Fld.By // addrT t = addrS u ∧ u.length ≤ t.length}) (fun u => [(0, Z u.1)]) (fun _ => []) (fun _ => True) ?_ ?_
    · refine JC.cond rfl (fun h => ?_) (fun h => ?_)
      all_goals first | (exfalso; revert h; decide) | skip
      all_goals clear h
      all_goals first
        | (have hno : ¬ (0 < t.length ∧ c = 62) := by
             first
               | exact fun k => (by have := of_decide_eq_false h0; omega)
               | exact fun k => not_of 62 h62 k.2
           rw [if_neg hno] at hT
           (repeat (refine JC.skip ?_))
           exact JE.mid ⟨t, hT, Nat.le_refl _⟩ trivial (by repeat (first | exact SubE.nil | refine SubE.cons _ _ _ rfl ?_)) (Less.refl _))
        | (rw [if_pos ⟨hp, is_of 62 h62⟩] at hT
           (repeat (first | refine JL.q (by first | (apply OQ.lenS; exact Tryz.underlying9; exact rfl) | (apply OQ.move; exact rfl) | (apply OQ.assign; exact rfl) | (apply OQ.subN; exact rfl; exact rfl; exact (by (try simp only []); omega); exact (by (try simp only []); omega))) rfl ?_ | refine JC.seq ?_ | refine JC.region ?_ | refine JC.block ?_ | refine JL.nil ?_ | refine JE.next ?_))
           refine JC.loop (fun a : Int => [(0, Z t), (5, I a)]) (fun _ => []) (fun a => (a + 1).toNat) (fun a => -1 ≤ a ∧ a < (t.length : Int) ∧ ∀ j : Nat, a < (j : Int) → j < t.length → ¬ t.getD j 0 = 60) ((t.length - 1 : Nat) : Int) ⟨by omega, by omega, fun j h1 h2 => by omega⟩ (by repeat (first | exact SubE.nil | refine SubE.cons _ _ _ rfl ?_)) (Less.refl _) ?_
           rintro a ⟨ha1, ha2, hj⟩
           cases g0 : decide ((0 : Int) ≤ a)
           · obtain rfl : a = -1 := by have := of_decide_eq_false g0; omega
             have hm : ¬ 60 ∈ t := fun hm => by
               obtain ⟨j, h1, h2⟩ := List.mem_iff_getElem.1 hm
               refine hj j (by omega) h1 ?_
               rw [List.getD_eq_getElem?_getD, List.getElem?_eq_getElem h1, h2]; rfl
             rw [if_neg hm] at hT
             rw [hT]
             (repeat (first | refine JL.q (by first | (apply OQ.geqB (b := 0); exact rfl; exact rfl; exact g0) | (apply OQ.pick_f; exact rfl; exact rfl) | (apply OQ.move; exact rfl)) rfl ?_ | refine JC.seq ?_ | refine JC.region ?_ | refine JL.nil ?_ | refine JE.next ?_ | refine JL.gskip rfl rfl rfl rfl ?_))
             refine JC.cond rfl (fun h => by cases h) (fun _ => ?_)
             (repeat (first | refine JL.q (by first | (apply OQ.lssB (b := 0) (c := true); exact rfl; exact rfl; exact rfl) | (apply OQ.move; exact rfl)) rfl ?_ | refine JC.seq ?_ | refine JC.region ?_ | refine JC.exit ?_ | refine JL.nil ?_ | refine JE.next ?_ | refine JE.then_exit ?_ | refine JE.blk_hit ?_))
             refine JC.cond rfl (fun _ => ?_) (fun h => by cases h)
             (repeat (first | refine JL.q (by (apply OQ.assign; exact rfl)) rfl ?_ | refine JC.seq ?_ | refine JC.region ?_ | refine JL.nil ?_ | refine JE.next ?_))
             refine JC.ret ?_
             (repeat (refine JE.then_ret ?_))
             refine JE.ret2 rfl (RV.tmp rfl) (RV.tmp rfl) ?_
             exact fun w' hw => ⟨rfl, hw.chg⟩
           · obtain ⟨n, rfl⟩ := Int.eq_ofNat_of_zero_le (of_decide_eq_true g0)
             have hn : n < t.length := by omega
             have hidxn := fun {n : Nat} {E : Env} {C : World → Prop} {dst : Option Tmp} {ty : TypeId} {pos : String} {aft : Array Edge} {g : Option (Nat × Bool)} {x y : Operand} => idxAt10 hn (n := n) (E := E) (C := C) (dst := dst) (ty := ty) (pos := pos) (aft := aft) (g := g) (x := x) (y := y)
             generalize hcn : t.getD n 0 = e at hidxn
             cases g60 : decide ((e.toNat : Int) = 60)
             · (repeat (first | refine JL.q (by first | (apply OQ.geqB (b := 0); exact rfl; exact rfl; exact g0) | (apply hidxn; exact rfl; exact rfl) | (apply OQ.neB (b := 60); exact rfl; exact rfl; exact g60) | (apply OQ.pick_t; exact rfl; exact rfl) | (apply OQ.move; exact rfl)) rfl ?_ | refine JC.seq ?_ | refine JC.region ?_ | refine JL.nil ?_ | refine JE.next ?_ | refine JL.gon rfl rfl ?_))
               refine JC.cond rfl (fun _ => ?_) (fun h => by cases h)
               (repeat (first | refine JL.q (by first | (apply OQ.subI (b := 1); exact rfl; exact rfl; exact (by omega); exact (by omega)) | (apply OQ.move; exact rfl) | (apply OQ.assign; exact rfl)) rfl ?_ | refine JC.region ?_ | refine JC.block ?_ | refine JC.skip ?_ | refine JL.nil ?_ | refine JE.next ?_ | refine JE.blk_normal ?_))
               refine JE.again (i := (n : Int)) ((n : Int) - 1) ⟨by omega, by omega, fun j h1 h2 => ?_⟩ (by omega) (by repeat (first | exact SubE.nil | refine SubE.cons _ _ _ rfl ?_)) (Less.refl _)
               by_cases hjn : j = n
               · subst hjn
                 rw [hcn]
                 exact not_of 60 g60
               · exact hj j (by omega) h2
             · have he : e = 60 := is_of 60 g60
               have hn1 : n + 1 < t.length := by
                 by_cases hh : n = t.length - 1
                 · subst hh
                   rw [hcn, he] at hc
                   rw [← hc] at h62
                   exact absurd h62 (by decide)
                 · omega
               have hm : 60 ∈ t := by
                 rw [List.getD_eq_getElem?_getD, List.getElem?_eq_getElem hn] at hcn
                 exact List.mem_iff_getElem.2 ⟨n, hn, by rw [← he, ← hcn]; rfl⟩
               rw [if_pos hm, ang_is hn1 (hcn.trans he) (fun j h1 h2 => hj j (by omega) h2)] at hT
               have cT2 := fun w' => rtrim_any ((t.take (t.length - 1)).drop (n + 1)) w' (by rw [List.length_drop, List.length_take]; omega)
               have hul := trim_short ((t.take (t.length - 1)).drop (n + 1))
               rw [List.length_drop, List.length_take] at hul
               have hneg : decide ((n : Int) < 0) = false := decide_eq_false (by omega)
               (repeat (first | refine JL.q (by first | (apply OQ.geqB (b := 0); exact rfl; exact rfl; exact g0) | (apply hidxn; exact rfl; exact rfl) | (apply OQ.neB (b := 60); exact rfl; exact rfl; exact g60) | (apply OQ.pick_t; exact rfl; exact rfl) | (apply OQ.move; exact rfl)) rfl ?_ | refine JC.seq ?_ | refine JC.region ?_ | refine JL.nil ?_ | refine JE.next ?_ | refine JL.gon rfl rfl ?_))
               refine JC.cond rfl (fun h => by cases h) (fun _ => ?_)
               (repeat (first | refine JL.q (by first | (apply OQ.lssB (b := 0); exact rfl; exact rfl; exact hneg) | (apply OQ.move; exact rfl)) rfl ?_ | refine JC.seq ?_ | refine JC.region ?_ | refine JC.exit ?_ | refine JL.nil ?_ | refine JE.next ?_ | refine JE.then_exit ?_ | refine JE.blk_hit ?_))
               refine JC.cond rfl (fun h => by cases h) (fun _ => ?_)
               (repeat (first | refine JL.q (by first | (apply OQ.lenS; exact Tryz.underlying9; exact rfl) | (apply OQ.subS (i := n + 1) (j := t.length - 1); exact Tryz.underlying9; exact rfl; exact rfl; exact rfl; exact (by omega); exact (by omega)) | (apply OQ.callx (vs := [Z ((t.take (t.length - 1)).drop (n + 1))]); exact goes_rtrim; exact rfl; exact (fun w' _ => cT2 w')) | (apply OQ.move; exact rfl) | (apply OQ.assign; exact rfl) | (apply OQ.addN; exact rfl; exact rfl; exact (by (try simp only []); omega)) | (apply OQ.subN; exact rfl; exact rfl; exact (by (try simp only []); omega); exact (by (try simp only []); omega))) rfl ?_ | refine JC.region ?_ | refine JC.skip ?_ | refine JL.nil ?_ | refine JE.next ?_))
               exact JE.mid ⟨_, hT, by omega⟩ trivial (by repeat (first | exact SubE.nil | refine SubE.cons _ _ _ rfl ?_)) (Less.refl _))
    · rintro ⟨u, hu, hul⟩ _
      dsimp only
      rw [hu]
      have hul2 : u.length < 1000000 := by omega
      clear hT hu hul
      (repeat (first | refine JL.q (by (apply OQ.assign; exact rfl)) rfl ?_ | refine JC.seq ?_ | refine JC.region ?_ | refine JC.block ?_ | refine JL.nil ?_ | refine JE.next ?_))
      refine JC.joinB (ι := Unit) (fun _ => [(0, Z u), (6, N (fst 64 u))]) (fun _ => []) (fun _ => True) ?_ ?_
      · refine JC.loop (fun i : Nat => [(0, Z u), (6, N i)]) (fun _ => []) (fun i => u.length - i) (fun i => i ≤ u.length ∧ (u.take i).all (fun d => !(d == 64)) = true) 0 ⟨Nat.zero_le _, rfl⟩ (by repeat (first | exact SubE.nil | refine SubE.cons _ _ _ rfl ?_)) (Less.refl _) ?_
        rintro i ⟨hi, ha⟩
        cases g0 : decide ((i : Int) < (u.length : Int))
        · obtain rfl : i = u.length := by have := of_decide_eq_false g0; omega
          rw [List.take_length] at ha
          rw [fst_end 64 u ha]
          (repeat (first | refine JL.q (by first | (apply OQ.lenS; exact Tryz.underlying9; exact rfl) | (apply OQ.lssB; exact rfl; exact rfl; exact g0) | (apply OQ.pick_f; exact rfl; exact rfl) | (apply OQ.move; exact rfl)) rfl ?_ | refine JC.seq ?_ | refine JC.region ?_ | refine JL.nil ?_ | refine JE.next ?_ | refine JL.gskip rfl rfl rfl rfl ?_))
          refine JC.cond rfl (fun h => by cases h) (fun h => ?_)
          (repeat (first | refine JC.exit ?_ | refine JE.then_exit ?_ | refine JE.blk_hit ?_))
          exact JE.mid () trivial (by repeat (first | exact SubE.nil | refine SubE.cons _ _ _ rfl ?_)) (Less.refl _)
        · have hi' : i < u.length := by have := of_decide_eq_true g0; omega
          have hf := fst_is 64 u hi' ha
          have hx := all_take (fun d => !(d == (64 : Fld.By))) u 0 hi'
          rw [ha, Bool.true_and] at hx
          have hidx := fun {n : Nat} {E : Env} {C : World → Prop} {dst : Option Tmp} {ty : TypeId} {pos : String} {aft : Array Edge} {g : Option (Nat × Bool)} {x y : Operand} => idxAt10 hi' (n := n) (E := E) (C := C) (dst := dst) (ty := ty) (pos := pos) (aft := aft) (g := g) (x := x) (y := y)
          generalize u.getD i 0 = c at hidx hf hx
          rw [eqc] at hf
          rw [eqc] at hx
          cases h1 : decide ((c.toNat : Int) = 64)
          · (repeat (first | refine JL.q (by first | (apply OQ.lenS; exact Tryz.underlying9; exact rfl) | (apply OQ.lssB; exact rfl; exact rfl; exact g0) | (apply hidx; exact rfl; exact rfl) | (apply OQ.neB (b := 64); exact rfl; exact rfl; exact h1) | (apply OQ.pick_t; exact rfl; exact rfl) | (apply OQ.move; exact rfl)) rfl ?_ | refine JC.seq ?_ | refine JC.region ?_ | refine JL.nil ?_ | refine JE.next ?_ | refine JL.gon rfl rfl ?_))
            refine JC.cond rfl (fun h => ?_) (fun h => by cases h)
            (repeat (first | refine JL.q (by first | (apply OQ.move; exact rfl) | (apply OQ.assign; exact rfl) | (apply OQ.addN; exact rfl; exact rfl; exact (by (try simp only []); omega))) rfl ?_ | refine JC.region ?_ | refine JC.block ?_ | refine JC.skip ?_ | refine JL.nil ?_ | refine JE.next ?_ | refine JE.blk_normal ?_))
            exact JE.again (i := i) (i + 1) ⟨hi', by rw [hx]; exact congrArg not h1⟩ (by omega) (by repeat (first | exact SubE.nil | refine SubE.cons _ _ _ rfl ?_)) (Less.refl _)
          · rw [hf h1]
            (repeat (first | refine JL.q (by first | (apply OQ.lenS; exact Tryz.underlying9; exact rfl) | (apply OQ.lssB; exact rfl; exact rfl; exact g0) | (apply hidx; exact rfl; exact rfl) | (apply OQ.neB (b := 64); exact rfl; exact rfl; exact h1) | (apply OQ.pick_t; exact rfl; exact rfl) | (apply OQ.move; exact rfl)) rfl ?_ | refine JC.seq ?_ | refine JC.region ?_ | refine JL.nil ?_ | refine JE.next ?_ | refine JL.gon rfl rfl ?_))
            refine JC.cond rfl (fun h => by cases h) (fun h => ?_)
            (repeat (first | refine JC.exit ?_ | refine JE.then_exit ?_ | refine JE.blk_hit ?_))
            exact JE.mid () trivial (by repeat (first | exact SubE.nil | refine SubE.cons _ _ _ rfl ?_)) (Less.refl _)
      rintro ⟨⟩ _
      have hle := fst_le 64 u
      have hS : addrS u = if fst 64 u = u.length ∨ dotB (u.take (fst 64 u)) = false ∨ dotB (u.drop (fst 64 u + 1)) = false then ([], 3) else (u.take (fst 64 u + 1) ++ (u.drop (fst 64 u + 1)).map small, 0) := rfl
      generalize fst 64 u = j at hle hS ⊢
      have c1 := fun w' => rdotted_any (u.take j) w' (by rw [List.length_take]; omega)
      have c2 := fun w' => rdotted_any (u.drop (j + 1)) w' (by rw [List.length_drop]; omega)
      have c3 := fun w' => rlower_any (u.drop (j + 1)) w' (by rw [List.length_drop]; omega)
      have l3 : (u.take (j + 1)).length + ((u.drop (j + 1)).map small).length < 9223372036854775808 := by rw [List.length_take, List.length_map, List.length_drop]; omega
      cases g0 : decide ((j : Int) = (u.length : Int))
      · have hk : j < u.length := by have := of_decide_eq_false g0; omega
        cases g1 : dotB (u.take j) <;> cases g2 : dotB (u.drop (j + 1))
        all_goals (
          (repeat (first | refine JL.q (by first | (apply OQ.lenS; exact Tryz.underlying9; exact rfl) | (apply OQ.eqB; exact rfl; exact rfl; exact g0) | (apply OQ.subS_hi; exact Tryz.underlying9; exact rfl; exact rfl; exact hle) | (apply OQ.subS_lo (i := j + 1); exact Tryz.underlying9; exact rfl; exact rfl; exact hk) | (apply OQ.callb (vs := [Z (u.take j)]); exact goes_rdotted; exact rfl; exact c1; exact g1) | (apply OQ.callb (vs := [Z (u.drop (j + 1))]); exact goes_rdotted; exact rfl; exact c2; exact g2) | (apply OQ.not; exact rfl) | (apply OQ.pick_t; exact rfl; exact rfl) | (apply OQ.pick_f; exact rfl; exact rfl) | (apply OQ.move; exact rfl) | (apply OQ.addN; exact rfl; exact rfl; exact (by (try simp only []); omega))) rfl ?_ | refine JC.seq ?_ | refine JC.region ?_ | refine JL.nil ?_ | refine JE.next ?_ | refine JL.gon rfl rfl ?_ | refine JL.gskip rfl rfl rfl rfl ?_))
          refine JC.cond rfl (fun h => ?_) (fun h => ?_)
          all_goals first | (exfalso; revert h; decide) | skip
          all_goals clear h
          all_goals first
            | (have e : addrS u = ([], 3) := by
                 rw [hS, if_pos]
                 first
                   | exact Or.inr (Or.inl g1)
                   | exact Or.inr (Or.inr g2)
               rw [e]
               (repeat (first | refine JL.q (by (apply OQ.assign; exact rfl)) rfl ?_ | refine JC.seq ?_ | refine JC.region ?_ | refine JL.nil ?_ | refine JE.next ?_))
               refine JC.ret ?_
               (repeat (refine JE.then_ret ?_))
               refine JE.ret2 rfl (RV.tmp rfl) (RV.tmp rfl) ?_
               exact fun w' hw => ⟨rfl, hw.chg⟩)
            | (have e : addrS u = (u.take (j + 1) ++ (u.drop (j + 1)).map small, 0) := by
                 rw [hS, if_neg]
                 rintro (h | h | h)
                 · omega
                 · rw [g1] at h; cases h
                 · rw [g2] at h; cases h
               rw [e]
               (repeat (first | refine JC.seq ?_ | refine JC.skip ?_ | refine JE.next ?_))
               refine JC.quiet mixT (by kernel_rfl) ?_
               (repeat (first | refine JQ.q (by first | (apply OQ.subS_hi (j := j + 1); exact Tryz.underlying9; exact rfl; exact rfl; exact hk) | (apply OQ.subS_lo (i := j + 1); exact Tryz.underlying9; exact rfl; exact rfl; exact hk) | (apply OQ.callx (vs := [Z (u.drop (j + 1))]); exact goes_rlower; exact rfl; exact (fun w' _ => c3 w')) | (apply OQ.addS; exact rfl; exact rfl; exact l3) | (apply OQ.move; exact rfl) | (apply OQ.assign; exact rfl) | (apply OQ.addN; exact rfl; exact rfl; exact (by (try simp only []); omega))) rfl ?_ | refine JQ.nil ?_ | refine JE.next ?_))
               refine JC.ret ?_
               (skip)
               refine JE.ret2 rfl (RV.tmp rfl) (RV.tmp rfl) ?_
               exact fun w' hw => ⟨rfl, hw.chg⟩))
      · rw [if_pos (Or.inl (by have := of_decide_eq_true g0; omega))] at hS
        rw [hS]
        (repeat (first | refine JL.q (by first | (apply OQ.lenS; exact Tryz.underlying9; exact rfl) | (apply OQ.eqB; exact rfl; exact rfl; exact g0) | (apply OQ.pick_t; exact rfl; exact rfl) | (apply OQ.move; exact rfl)) rfl ?_ | refine JC.seq ?_ | refine JC.region ?_ | refine JL.nil ?_ | refine JE.next ?_ | refine JL.gskip rfl rfl rfl rfl ?_))
        refine JC.cond rfl (fun _ => ?_) (fun h => by cases h)
        (repeat (first | refine JL.q (by (apply OQ.assign; exact rfl)) rfl ?_ | refine JC.seq ?_ | refine JC.region ?_ | refine JL.nil ?_ | refine JE.next ?_))
        refine JC.ret ?_
        (repeat (refine JE.then_ret ?_))
        refine JE.ret2 rfl (RV.tmp rfl) (RV.tmp rfl) ?_
        exact fun w' hw => ⟨rfl, hw.chg⟩)
end Go.Proofs.YtdabhneehconeaaGreatDoor

/-
  Of no statement by itself: slices of strings as answers; what the reference's Ids (layer 10) gives.
  Conditions: each theorem's own.
-/
namespace Go.Proofs.YtdabhneehconeaaGreatDoor
set_option maxRecDepth 10000
open Sl Fld Tok
structure IS where
  i : Nat
  q : Bool
  o : List (List Fld.By)
  m : Nat
  b5 : Nat
  c5 : Nat
  x : List Fld.By
  n : Nat
  b6 : Nat
  c6 : Nat
end Go.Proofs.YtdabhneehconeaaGreatDoor

/-
  Of no statement by itself: pairs built of two strings; what the reference's part (layer 10) gives.
  Conditions: each theorem's own.
-/
namespace Go.Proofs.YtdabhneehconeaaGreatDoor
set_option maxRecDepth 10000
open Sl Fld Tok
theorem parA : aggT Tryz.prog 63 = true := by kernel_rfl
theorem parS : szT Tryz.prog 63 = some 2 := by kernel_rfl
theorem parZ : zc Tryz.prog 63 = some [Z [], Z []] := by kernel_rfl
section
variable {n : Nat} {E : Env} {C : World → Prop} {dst : Option Tmp} {ty : TypeId} {pos : String} {aft : Array Edge} {g : Option (Nat × Bool)} {x y : Operand}
end
structure US where
  i : Nat
  o : List Fld.By
  n : Nat
  b : Nat
  cap : Nat
end Go.Proofs.YtdabhneehconeaaGreatDoor

/-
  Of no statement by itself: what the reference's SameParams and Right (layer 10) give.
  Conditions: each theorem's own.
-/
namespace Go.Proofs.YtdabhneehconeaaGreatDoor
set_option maxRecDepth 10000
open Sl Fld Tok
end Go.Proofs.YtdabhneehconeaaGreatDoor

/-
  Of no statement by itself: what the reference's Same gives.
  Conditions: each theorem's own.
-/
namespace Go.Proofs.YtdabhneehconeaaGreatDoor
set_option maxRecDepth 10000
open Sl

section
variable {P : Program} {n : Nat} {E : Env} {C : World → Prop} {dst : Option Tmp} {t t' ty : TypeId} {pos : String} {aft : Array Edge} {g : Option (Nat × Bool)} {x y : Operand}
end
set_option maxHeartbeats 8000000 in
theorem same_any (a b : Sl8) (w : World) (ha : a.ok w) (hb : b.ok w) (hal : a.l.length < 4611686018427387904) : Calls Tryz.prog 11 [a.v, b.v].toArray w fun e w' => e = .returned (.bool (decide (a.l = b.l))) ∧ Ext w w' := by
  refine enter (n := 26) Tryz.func11 rfl rfl rfl (Holds.start w []) ?_
  repeat (first | refine JL.q (by first | (apply OQ.move; exact rfl) | (apply OQ.assign; exact rfl) | (apply OQ.len; exact rfl; exact rfl) | (apply OQ.neN; exact rfl; exact rfl)) rfl ?_ | refine JC.seq ?_ | refine JC.region ?_ | refine JL.nil ?_ | refine JE.next ?_)
  refine JC.cond rfl (fun h => ?_) (fun h => ?_)
  · have h : ¬ a.l.length = b.l.length := by simpa using h
    repeat (first | refine JL.q (by (apply OQ.assign; exact rfl)) rfl ?_ | refine JC.seq ?_ | refine JC.region ?_ | refine JL.nil ?_ | refine JE.next ?_)
    refine JC.ret ?_
    repeat (refine JE.then_ret ?_)
    refine JE.ret1 rfl (RV.tmp rfl) fun w' hw => ⟨?_, hw.chg⟩
    rw [decide_eq_false (fun e => h (by rw [e]))]
  · have h : a.l.length = b.l.length := by simpa using h
    repeat (first | refine JL.q (by (apply OQ.assign; exact rfl)) rfl ?_ | refine JC.seq ?_ | refine JC.region ?_ | refine JC.block ?_ | refine JC.skip ?_ | refine JL.nil ?_ | refine JE.next ?_)
    refine JC.loop (fun i : Nat => [(0, a.v), (1, b.v), (5, N i)]) (fun _ => []) (fun i => a.l.length - i) (fun i => i ≤ a.l.length ∧ a.l.take i = b.l.take i) 0 ⟨by omega, by simp⟩ (by repeat (first | exact SubE.nil | refine SubE.cons _ _ _ rfl ?_)) (Less.refl _) ?_
    rintro i ⟨hi, hI⟩
    repeat (first | refine JL.q (by first | (apply OQ.move; exact rfl) | (apply OQ.len; exact rfl; exact rfl) | (apply OQ.lssN; exact rfl; exact rfl)) rfl ?_ | refine JC.seq ?_ | refine JC.region ?_ | refine JL.nil ?_ | refine JE.next ?_)
    refine JC.cond rfl (fun h2 => ?_) (fun h2 => ?_)
    · have hi' : i < a.l.length := of_decide_eq_true h2
      clear h2
      obtain ⟨ba, ja, hae, hca⟩ := ha.reads.at (by simp; omega)
      obtain ⟨bb, jb, hbe, hcb⟩ := hb.reads.at (by simp; omega)
      have hca := hca i _ (map_at U8 0 hi')
      have hcb := hcb i _ (map_at U8 0 (show i < b.l.length by omega))
      have hav : a.v = .slice (some ⟨ba, ja, none⟩) a.l.length a.cap := by rw [← hae]; rfl
      have hbv : b.v = .slice (some ⟨bb, jb, none⟩) b.l.length b.cap := by rw [← hbe]; rfl
      rw [hav, hbv]
      repeat (first | refine JC.seq ?_ | refine JC.block ?_ | refine JC.skip ?_ | refine JE.next ?_)
      refine JC.quiet mixT (by kernel_rfl) ?_
      repeat (first | refine JQ.q (by first | (apply OQ.idxS1; exact Tryz.underlying22; exact u8s; exact rfl; exact rfl; exact hi') | (apply OQ.idxS1; exact Tryz.underlying22; exact u8s; exact rfl; exact rfl; exact (show i < b.l.length by omega)) | (apply OQ.load_old; exact u8c; exact rfl; exact (block_lt_of_cell hca); exact (by simp); exact hca) | (apply OQ.load_old; exact u8c; exact rfl; exact (block_lt_of_cell hcb); exact (by simp); exact hcb) | (apply OQ.ne8; exact rfl; exact rfl) | (apply OQ.move; exact rfl)) rfl ?_ | refine JQ.nil ?_ | refine JE.next ?_)
      refine JC.cond rfl (fun h3 => ?_) (fun h3 => ?_)
      · have h3 : ¬ a.l.getD i 0 = b.l.getD i 0 := by simpa using h3
        repeat (first | refine JL.q (by (apply OQ.assign; exact rfl)) rfl ?_ | refine JC.seq ?_ | refine JC.region ?_ | refine JL.nil ?_ | refine JE.next ?_)
        refine JC.ret ?_
        repeat (first | refine JE.then_ret ?_ | refine JE.blk_ret ?_)
        refine JE.ret1 rfl (RV.tmp rfl) fun w' hw => ⟨?_, hw.chg⟩
        rw [decide_eq_false (fun e => h3 (by rw [e]))]
      · have h3 : a.l.getD i 0 = b.l.getD i 0 := by simpa using h3
        rw [← hav, ← hbv]
        repeat (first | refine JL.q (by first | (apply OQ.move; exact rfl) | (apply OQ.assign; exact rfl) | (apply OQ.addN; exact rfl; exact rfl; exact (by (try simp only []); omega))) rfl ?_ | refine JC.region ?_ | refine JC.skip ?_ | refine JL.nil ?_ | refine JE.next ?_ | refine JE.blk_normal ?_)
        refine JE.again (i := i) (i + 1) ⟨by omega, ?_⟩ (by omega) (by repeat (first | exact SubE.nil | refine SubE.cons _ _ _ rfl ?_)) (Less.refl _)
        have e1 : a.l[i]'hi' = b.l[i]'(by omega) := by
          simpa [List.getD, hi', show i < b.l.length by omega] using h3
        rw [List.take_succ_eq_append_getElem hi', List.take_succ_eq_append_getElem (show i < b.l.length by omega), hI, e1]
    · have hi' : ¬ i < a.l.length := of_decide_eq_false h2
      obtain rfl : i = a.l.length := by omega
      rw [List.take_length, h, List.take_length] at hI
      repeat (first | refine JL.q (by (apply OQ.assign; exact rfl)) rfl ?_ | refine JC.seq ?_ | refine JC.region ?_ | refine JC.exit ?_ | refine JL.nil ?_ | refine JE.next ?_ | refine JE.then_exit ?_ | refine JE.blk_hit ?_)
      refine JC.ret ?_
      skip
      refine JE.ret1 rfl (RV.tmp rfl) fun w' hw => ⟨?_, hw.chg⟩
      rw [decide_eq_true hI]

end Go.Proofs.YtdabhneehconeaaGreatDoor

/-
  Of no statement by itself: parts in memory, in one another; what the reference's Same (layer 12) gives of two that are one.
  Conditions: each theorem's own.
-/
namespace Go.Proofs.YtdabhneehconeaaGreatDoor
set_option maxRecDepth 10000
open Sl Fld Mim
theorem prC : scal Tryz.prog 56 = true := by kernel_rfl
theorem ptA : aggT Tryz.prog 59 = true := by kernel_rfl
theorem ptS : szT Tryz.prog 59 = some 5 := by kernel_rfl
/-- a part's cells in a world, d parts deep at most -/
def IsPart : Nat → World → Part → List Value → Prop
  | 0, _, _, _ => False
  | d + 1, w, p, cs => ∃ (ps : Sl2) (body : Sl8) (ad : Option Addr) (cap : Nat) (subs : List (List Value)),
      cs = [Z p.kind, ps.v, .int .i64 p.code, body.v, .slice ad p.parts.length cap] ∧ (ps.ok w ∧ ps.l = p.ps) ∧ (body.ok w ∧ body.l = p.body) ∧
      p.parts.length ≤ cap ∧ Reads w ad subs.flatten ∧ subs.length = p.parts.length ∧ ∀ i, i < subs.length → IsPart d w (p.parts.getD i default) (subs.getD i [])
theorem IsPart.len : ∀ {d : Nat} {w : World} {p : Part} {cs : List Value}, IsPart d w p cs → cs.length = 5
  | _ + 1, _, _, _, ⟨_, _, _, _, _, h, _⟩ => by rw [h]; rfl
theorem IsPart.ext : ∀ {d : Nat} {w w' : World} {p : Part} {cs : List Value}, IsPart d w p cs → Ext w w' → IsPart d w' p cs
  | d + 1, w, w', p, cs, ⟨ps, body, ad, cap, subs, h1, h2, h3, h4, h5, h6, h7⟩, hx =>
    ⟨ps, body, ad, cap, subs, h1, ⟨h2.1.ext hx, h2.2⟩, ⟨h3.1.holds (⟨hx, by simp, by simp⟩ : Holds w [] [] w') rfl, h3.2⟩, h4, (⟨hx, by simp, by simp⟩ : Holds w [] [] w').reads h5 (fun _ a _ => by simp), h6, fun i hi => (h7 i hi).ext hx⟩
theorem IsPart.up : ∀ {d : Nat} {w : World} {p : Part} {cs : List Value}, IsPart d w p cs → IsPart (d + 1) w p cs
  | d + 1, w, p, cs, ⟨ps, body, ad, cap, subs, h1, h2, h3, h4, h5, h6, h7⟩ => ⟨ps, body, ad, cap, subs, h1, h2, h3, h4, h5, h6, fun i hi => (h7 i hi).up⟩
theorem IsPart.mono {d k : Nat} (hk : d ≤ k) {w : World} {p : Part} {cs : List Value} (h : IsPart d w p cs) : IsPart k w p cs := by
  induction k with
  | zero => obtain rfl : d = 0 := by omega
            exact h
  | succ k ih =>
    by_cases e : d = k + 1
    · subst e; exact h
    · exact (ih (by omega)).up
theorem flat5 : ∀ (subs : List (List Value)) {i k : Nat}, (∀ x ∈ subs, x.length = 5) → i < subs.length → k < 5 → subs.flatten[i * 5 + k]? = (subs.getD i [])[k]?
  | [], i, k, _, h, _ => by simp at h
  | x :: subs, 0, k, hl, _, hk => by
    rw [List.flatten_cons, Nat.zero_mul, Nat.zero_add, List.getElem?_append_left (by rw [hl x (by simp)]; exact hk)]
    rfl
  | x :: subs, i + 1, k, hl, h, hk => by
    have hx := hl x (by simp)
    rw [List.flatten_cons, List.getElem?_append_right (by rw [hx]; omega), hx, show (i + 1) * 5 + k - 5 = i * 5 + k by omega, flat5 subs (fun y hy => hl y (by simp [hy])) (by simpa using h) hk]
    rfl
/-- where a part's part stands -/
theorem sub_at {d : Nat} {w : World} {subs : List (List Value)} {parts : List Part} {ad : Option Addr} (hr : Reads w ad subs.flatten) (h : ∀ i, i < subs.length → IsPart d w (parts.getD i default) (subs.getD i [])) {i : Nat} (hi : i < subs.length) :
    ∃ b j, ad = some ⟨b, j, none⟩ ∧ b < w.heap.size ∧ (∀ k u, (subs.getD i [])[k]? = some u → w.cell? ⟨b, j + i * 5 + k, none⟩ = some u) := by
  have hl : ∀ x ∈ subs, x.length = 5 := fun x hx => by
    obtain ⟨k, hk, rfl⟩ := List.getElem_of_mem hx
    have := (h k hk).len
    rwa [List.getD_eq_getElem?_getD, List.getElem?_eq_getElem hk] at this
  have h5 := (h i hi).len
  obtain ⟨b, j, e, c⟩ := hr (i * 5 + 0) _ (by rw [flat5 subs hl hi (by decide)]; exact List.getElem?_eq_getElem (show 0 < (subs.getD i []).length by omega))
  refine ⟨b, j, e, block_lt_of_cell c, fun k u hu => ?_⟩
  have hk : k < 5 := by have := (List.getElem?_eq_some_iff.1 hu).1; omega
  obtain ⟨b', j', e', c'⟩ := hr (i * 5 + k) u (by rw [flat5 subs hl hi hk]; exact hu)
  rw [e] at e'
  cases e'
  rw [Nat.add_assoc]
  exact c'
theorem getD_mem {α : Type} [Inhabited α] {l : List α} {i : Nat} (h : i < l.length) : l.getD i default ∈ l := by
  rw [List.getD_eq_getElem?_getD, List.getElem?_eq_getElem h]; exact List.getElem_mem h
end Go.Proofs.YtdabhneehconeaaGreatDoor

/-
  Of no statement by itself: what the reference's Name, Signs, Value, blank, small and Same (layer 9) give.
  Conditions: each theorem's own.
-/
namespace Go.Proofs.YtdabhneehconeaaGreatDoor
set_option maxRecDepth 10000
open Sl Fld
theorem idxAt {s : List Fld.By} {i : Nat} (h : i < s.length) {n : Nat} {E : Env} {C : World → Prop} {dst : Option Tmp} {ty : TypeId} {pos : String} {aft : Array Edge} {g : Option (Nat × Bool)} {x y : Operand} (hx : ev E x = some (Z s)) (hy : ev E y = some (N i)) : OQ Tryz.prog n E C ⟨dst, .index 9 x y, ty, pos, aft, g⟩ (U8 (s.getD i 0)) := OQ.idxZ Tryz.underlying9 hx hy h
theorem map_take_eq (a b : List Fld.By) {i : Nat} (ha : i < a.length) (hb : i < b.length) (h : (a.take i).map small = (b.take i).map small) (k : small (a.getD i 0) = small (b.getD i 0)) : (a.take (i + 1)).map small = (b.take (i + 1)).map small := by
  rw [take_succ_getD a ha, take_succ_getD b hb, List.map_append, List.map_append, h, List.map_singleton, List.map_singleton, k]
theorem map_at_ne (a b : List Fld.By) {i : Nat} (ha : i < a.length) (hb : i < b.length) (k : ¬ small (a.getD i 0) = small (b.getD i 0)) : sameB a b = false := by
  refine decide_eq_false fun h => k ?_
  have := congrArg (fun l => l[i]?) h
  simp only [List.getElem?_map, List.getElem?_eq_getElem ha, List.getElem?_eq_getElem hb, Option.map_some, Option.some.injEq] at this
  rw [List.getD_eq_getElem?_getD, List.getD_eq_getElem?_getD, List.getElem?_eq_getElem ha, List.getElem?_eq_getElem hb]
  exact this
end Go.Proofs.YtdabhneehconeaaGreatDoor

/-
  Of no statement by itself: what the landed field's Name, Value, Same, small, only, blank and piece give.
  Conditions: each theorem's own.
-/
namespace Go.Proofs.YtdabhneehconeaaGreatDoor
set_option maxRecDepth 10000
open Sl Fld
theorem goes_fonly : Goes Tryz.prog 156 := ⟨_, Tryz.func156, rfl, by kernel_rfl⟩
theorem goes_fsmall : Goes Tryz.prog 237 := ⟨_, Tryz.func237, rfl, by kernel_rfl⟩
theorem goes_fpiece : Goes Tryz.prog 110 := ⟨_, Tryz.func110, rfl, by kernel_rfl⟩
theorem OQ.sub8 {P : Program} {n : Nat} {E : Env} {C : World → Prop} {dst : Option Tmp} {t t' ty : TypeId} {pos : String} {aft : Array Edge} {g : Option (Nat × Bool)} {x y : Operand} {a b : BitVec 8} (hx : ev E x = some (U8 a)) (hy : ev E y = some (U8 b)) (h : b.toNat ≤ a.toNat) : OQ P n E C ⟨dst, .binOp .sub t x y t', ty, pos, aft, g⟩ (U8 (a - b)) :=
  OQ.bin hx hy rfl fun _ => okInt (k := .u8) (show IntKind.u8.wrap ((a.toNat : Int) - b.toNat) = ((a - b).toNat : Int) by
    rw [BitVec.toNat_sub_of_le (by simpa [BitVec.le_def] using h), ← Int.ofNat_sub h, wrap8, Nat.mod_eq_of_lt (by have := a.isLt; omega)])
set_option maxHeartbeats 4000000 in
theorem only_any (s : List Bt) (fv : Value) (p : Bt → Bool) (w : World) (hF : Fun8 Tryz.prog w fv p) (hl : s.length < 9223372036854775808) : Calls Tryz.prog 156 [Z s, fv].toArray w fun e w' => e = .returned (.bool (s.all p)) ∧ Ext w w' := by
  refine enter (n := 18) Tryz.func156 rfl rfl rfl (Holds.start w []) ?_
  repeat (first | refine JL.q (by first | (apply OQ.lenS; exact Tryz.underlying9; exact rfl) | (apply OQ.move; exact rfl) | (apply OQ.assign; exact rfl)) rfl ?_ | refine JC.seq ?_ | refine JC.region ?_ | refine JC.block ?_ | refine JL.nil ?_ | refine JE.next ?_)
  refine JC.loop (fun i : Nat => [(0, Z s), (1, fv), (7, N s.length), (8, N i)]) (fun _ => []) (fun i => s.length - i) (fun i => i ≤ s.length ∧ (s.take i).all p = true) 0 ⟨Nat.zero_le _, rfl⟩ (by repeat (first | exact SubE.nil | refine SubE.cons _ _ _ rfl ?_)) (Less.refl _) ?_
  rintro i ⟨hi, ha⟩
  repeat (first | refine JL.q (by (apply OQ.lssN; exact rfl; exact rfl)) rfl ?_ | refine JC.seq ?_ | refine JC.region ?_ | refine JL.nil ?_ | refine JE.next ?_)
  refine JC.cond rfl (fun h => ?_) (fun h => ?_)
  · have hi' : i < s.length := of_decide_eq_true h
    clear h hi
    have hx := all_take p s 0 hi'
    have hbad := all_bad p s 0 hi'
    rw [ha, Bool.true_and] at hx
    have i0 := fun {n : Nat} {E : Env} {C : World → Prop} {dst : Option Tmp} {ty : TypeId} {pos : String} {aft : Array Edge} {g : Option (Nat × Bool)} {x y : Operand} => idxAt hi' (n := n) (E := E) (C := C) (dst := dst) (ty := ty) (pos := pos) (aft := aft) (g := g) (x := x) (y := y)
    generalize s.getD i 0 = c at hx hbad i0
    cases h1 : p c
    · rw [hbad h1]
      repeat (first | refine JL.q (by first | (apply i0; exact rfl; exact rfl) | (apply OQ.callF; exact hF; exact rfl; exact rfl; exact h1) | (apply OQ.not; exact rfl) | (apply OQ.move; exact rfl) | (apply OQ.assign; exact rfl)) rfl ?_ | refine JC.seq ?_ | refine JC.region ?_ | refine JC.block ?_ | refine JC.skip ?_ | refine JL.nil ?_ | refine JE.next ?_)
      refine JC.cond rfl (fun _ => ?_) (fun h => by cases h)
      repeat (first | refine JL.q (by (apply OQ.assign; exact rfl)) rfl ?_ | refine JC.seq ?_ | refine JC.region ?_ | refine JL.nil ?_ | refine JE.next ?_)
      refine JC.ret ?_
      repeat (first | refine JE.then_ret ?_ | refine JE.blk_ret ?_)
      exact JE.ret1 rfl (RV.tmp rfl) fun w' hw => ⟨rfl, hw.chg⟩
    · repeat (first | refine JL.q (by first | (apply i0; exact rfl; exact rfl) | (apply OQ.callF; exact hF; exact rfl; exact rfl; exact h1) | (apply OQ.not; exact rfl) | (apply OQ.move; exact rfl) | (apply OQ.assign; exact rfl)) rfl ?_ | refine JC.seq ?_ | refine JC.region ?_ | refine JC.block ?_ | refine JC.skip ?_ | refine JL.nil ?_ | refine JE.next ?_)
      refine JC.cond rfl (fun h => by cases h) (fun _ => ?_)
      repeat (first | refine JL.q (by first | (apply OQ.move; exact rfl) | (apply OQ.addN; exact rfl; exact rfl; exact (by (try simp only []); omega))) rfl ?_ | refine JC.region ?_ | refine JC.skip ?_ | refine JL.nil ?_ | refine JE.next ?_ | refine JE.blk_normal ?_)
      exact JE.again (i := i) (i + 1) ⟨hi', by rw [hx, h1]⟩ (by omega) (by repeat (first | exact SubE.nil | refine SubE.cons _ _ _ rfl ?_)) (Less.refl _)
  · have hi' : ¬ i < s.length := of_decide_eq_false h
    obtain rfl : i = s.length := by omega
    clear h hi hi'
    rw [List.take_length] at ha
    rw [ha]
    repeat (first | refine JL.q (by (apply OQ.assign; exact rfl)) rfl ?_ | refine JC.seq ?_ | refine JC.region ?_ | refine JC.exit ?_ | refine JL.nil ?_ | refine JE.next ?_ | refine JE.then_exit ?_ | refine JE.blk_hit ?_)
    refine JC.ret ?_
    exact JE.ret1 rfl (RV.tmp rfl) fun w' hw => ⟨rfl, hw.chg⟩
/-! ### names -/
theorem nokA_is : ∀ c : Fld.By, nok c = ((decide ((33 : Int) ≤ (c.toNat : Int)) && decide ((c.toNat : Int) ≤ 126)) && !decide (c = 58)) := by
  have h : ∀ c : Fin 256, nok (BitVec.ofNat 8 c.val) = ((decide ((33 : Int) ≤ ((BitVec.ofNat 8 c.val).toNat : Int)) && decide (((BitVec.ofNat 8 c.val).toNat : Int) ≤ 126)) && !decide (BitVec.ofNat 8 c.val = 58)) := by decide +kernel
  intro c
  simpa using h ⟨c.toNat, c.isLt⟩
set_option maxHeartbeats 4000000 in
theorem name1_any (c : Bt) (w : World) : Calls Tryz.prog 157 [U8 c].toArray w fun e w' => e = .returned (.bool (nok c)) ∧ Ext w w' := by
  refine enter (n := 14) Tryz.func157 rfl rfl rfl (Holds.start w []) ?_
  rw [nokA_is]
  cases h1 : decide ((33 : Int) ≤ (c.toNat : Int)) <;> cases h2 : decide ((c.toNat : Int) ≤ 126) <;> cases h3 : decide (c = 58)
  all_goals (repeat (first | refine JL.q (by first | (apply OQ.geqB (b := 33); exact rfl; exact rfl; exact h1) | (apply OQ.leqB (b := 126); exact rfl; exact rfl; exact h2) | (apply OQ.idxZ (l := [58]) (i := 0); exact Tryz.underlying9; exact rfl; exact rfl; exact (by decide)) | (apply OQ.ne8B (b := 58); exact rfl; exact rfl; exact h3) | (apply OQ.pick_t; exact rfl; exact rfl) | (apply OQ.pick_f; exact rfl; exact rfl) | (apply OQ.move; exact rfl) | (apply OQ.assign; exact rfl)) rfl ?_ | refine JC.seq ?_ | refine JC.region ?_ | refine JL.nil ?_ | refine JE.next ?_ | refine JL.gon rfl rfl ?_ | refine JL.gskip rfl rfl rfl rfl ?_))
  all_goals exact JC.ret (JE.ret1 rfl (RV.tmp rfl) fun w' hw => ⟨rfl, hw.chg⟩)
theorem fun_name1 (w : World) : Fun8 Tryz.prog w (.func (.func 157) #[] #[]) nok :=
  ⟨_, [], rfl, ⟨_, Tryz.func157, rfl, by kernel_rfl⟩, fun c w' _ => name1_any c w'⟩
set_option maxHeartbeats 4000000 in
theorem fname_any (s : List Bt) (w : World) (hl : s.length < 9223372036854775808) : Calls Tryz.prog 108 [Z s].toArray w fun e w' => e = .returned (.bool (nameB s)) ∧ Ext w w' := by
  refine enter (n := 14) Tryz.func108 rfl rfl rfl (Holds.start w []) ?_
  have hv : nameB s = ((!decide (s = []) && decide ((s.length : Int) ≤ 64)) && s.all nok) := by
    unfold nameB
    have e1 : decide (1 ≤ s.length) = !decide (s = []) := by
      cases s <;> simp
    have e2 : decide (s.length ≤ 64) = decide ((s.length : Int) ≤ 64) := decide_eq_decide.2 (by omega)
    rw [e1, e2]
    cases s.all nok <;> cases decide (s = []) <;> cases decide ((s.length : Int) ≤ 64) <;> rfl
  rw [hv]
  have cO := fun w' => only_any s (.func (.func 157) #[] #[]) nok w' (fun_name1 w') hl
  cases h1 : decide (s = []) <;> cases h2 : decide ((s.length : Int) ≤ 64) <;> cases h3 : s.all nok
  all_goals (repeat (first | refine JL.q (by first | (apply OQ.neSB (r := []); exact rfl; exact rfl; exact h1) | (apply OQ.lenS; exact Tryz.underlying9; exact rfl) | (apply OQ.leqB (b := 64); exact rfl; exact rfl; exact h2) | (apply OQ.callb (vs := [Z s, .func (.func 157) #[] #[]]); exact goes_fonly; exact rfl; exact cO; exact h3) | (apply OQ.pick_t; exact rfl; exact rfl) | (apply OQ.pick_f; exact rfl; exact rfl) | (apply OQ.move; exact rfl) | (apply OQ.assign; exact rfl)) rfl ?_ | refine JC.seq ?_ | refine JC.region ?_ | refine JL.nil ?_ | refine JE.next ?_ | refine JL.gon rfl rfl ?_ | refine JL.gskip rfl rfl rfl rfl ?_))
  all_goals exact JC.ret (JE.ret1 rfl (RV.tmp rfl) fun w' hw => ⟨rfl, hw.chg⟩)
/-! ### values -/
theorem sokA_is : ∀ c : Fld.By, sok c = ((decide ((32 : Int) ≤ (c.toNat : Int)) && decide ((c.toNat : Int) ≤ 126)) || decide (c = 9)) := by
  have h : ∀ c : Fin 256, sok (BitVec.ofNat 8 c.val) = ((decide ((32 : Int) ≤ ((BitVec.ofNat 8 c.val).toNat : Int)) && decide (((BitVec.ofNat 8 c.val).toNat : Int) ≤ 126)) || decide (BitVec.ofNat 8 c.val = 9)) := by decide +kernel
  intro c
  simpa using h ⟨c.toNat, c.isLt⟩
theorem OQ.eq8B {P : Program} {n : Nat} {E : Env} {C : World → Prop} {dst : Option Tmp} {t t' ty : TypeId} {pos : String} {aft : Array Edge} {g : Option (Nat × Bool)} {x y : Operand} {a b : BitVec 8} {c : Bool} (hx : ev E x = some (U8 a)) (hy : ev E y = some (U8 b)) (h : decide (a = b) = c) : OQ P n E C ⟨dst, .binOp .eql t x y t', ty, pos, aft, g⟩ (.bool c) := h ▸ OQ.eq8 hx hy
set_option maxHeartbeats 4000000 in
theorem value1_any (c : Bt) (w : World) : Calls Tryz.prog 158 [U8 c].toArray w fun e w' => e = .returned (.bool (sok c)) ∧ Ext w w' := by
  refine enter (n := 13) Tryz.func158 rfl rfl rfl (Holds.start w []) ?_
  rw [sokA_is]
  cases h1 : decide ((32 : Int) ≤ (c.toNat : Int)) <;> cases h2 : decide ((c.toNat : Int) ≤ 126) <;> cases h3 : decide (c = 9)
  all_goals (repeat (first | refine JL.q (by first | (apply OQ.geqB (b := 32); exact rfl; exact rfl; exact h1) | (apply OQ.leqB (b := 126); exact rfl; exact rfl; exact h2) | (apply OQ.eq8B (b := 9); exact rfl; exact rfl; exact h3) | (apply OQ.pick_t; exact rfl; exact rfl) | (apply OQ.pick_f; exact rfl; exact rfl) | (apply OQ.move; exact rfl) | (apply OQ.assign; exact rfl)) rfl ?_ | refine JC.seq ?_ | refine JC.region ?_ | refine JL.nil ?_ | refine JE.next ?_ | refine JL.gon rfl rfl ?_ | refine JL.gskip rfl rfl rfl rfl ?_))
  all_goals exact JC.ret (JE.ret1 rfl (RV.tmp rfl) fun w' hw => ⟨rfl, hw.chg⟩)
theorem fun_value1 (w : World) : Fun8 Tryz.prog w (.func (.func 158) #[] #[]) sok :=
  ⟨_, [], rfl, ⟨_, Tryz.func158, rfl, by kernel_rfl⟩, fun c w' _ => value1_any c w'⟩
set_option maxHeartbeats 4000000 in
theorem fvalue_any (s : List Bt) (w : World) : Calls Tryz.prog 109 [Z s].toArray w fun e w' => e = .returned (.bool (valB s)) ∧ Ext w w' := by
  refine enter (n := 16) Tryz.func109 rfl rfl rfl (Holds.start w []) ?_
  have hv : valB s = ((decide ((s.length : Int) ≤ 8192) && decide (s = trim s)) && s.all sok) := by
    rw [valB_is, Bool.and_assoc]
    congr 1
    exact decide_eq_decide.2 (by omega)
  rw [hv]
  cases h1 : decide ((s.length : Int) ≤ 8192)
  · cases h3 : s.all sok
    all_goals (repeat (first | refine JL.q (by first | (apply OQ.lenS; exact Tryz.underlying9; exact rfl) | (apply OQ.leqB (b := 8192); exact rfl; exact rfl; exact h1) | (apply OQ.pick_f; exact rfl; exact rfl) | (apply OQ.move; exact rfl) | (apply OQ.assign; exact rfl)) rfl ?_ | refine JC.seq ?_ | refine JC.region ?_ | refine JL.nil ?_ | refine JE.next ?_ | refine JL.gskip rfl rfl rfl rfl ?_))
    all_goals exact JC.ret (JE.ret1 rfl (RV.tmp rfl) fun w' hw => ⟨rfl, hw.chg⟩)
  · have hl : s.length < 9223372036854775808 := by have := of_decide_eq_true h1; omega
    have cO := fun w' => only_any s (.func (.func 158) #[] #[]) sok w' (fun_value1 w') hl
    have cT := fun w' => trimw_any s w' hl
    cases h2 : decide (s = trim s) <;> cases h3 : s.all sok
    all_goals (repeat (first | refine JL.q (by first | (apply OQ.lenS; exact Tryz.underlying9; exact rfl) | (apply OQ.leqB (b := 8192); exact rfl; exact rfl; exact h1) | (apply OQ.callx (vs := [Z s, Z [32, 9]]); exact goes_trimw; exact rfl; exact (fun w' _ => cT w')) | (apply OQ.eqSB; exact rfl; exact rfl; exact h2) | (apply OQ.callb (vs := [Z s, .func (.func 158) #[] #[]]); exact goes_fonly; exact rfl; exact cO; exact h3) | (apply OQ.pick_t; exact rfl; exact rfl) | (apply OQ.pick_f; exact rfl; exact rfl) | (apply OQ.move; exact rfl) | (apply OQ.assign; exact rfl)) rfl ?_ | refine JC.seq ?_ | refine JC.region ?_ | refine JL.nil ?_ | refine JE.next ?_ | refine JL.gon rfl rfl ?_ | refine JL.gskip rfl rfl rfl rfl ?_))
    all_goals exact JC.ret (JE.ret1 rfl (RV.tmp rfl) fun w' hw => ⟨rfl, hw.chg⟩)
/-! ### two names -/
theorem smallA_is : ∀ c : Fld.By, 65 ≤ c.toNat → c.toNat ≤ 90 → c - 65 + 97 = small c := by
  have h : ∀ c : Fin 256, 65 ≤ (BitVec.ofNat 8 c.val).toNat → (BitVec.ofNat 8 c.val).toNat ≤ 90 → BitVec.ofNat 8 c.val - 65 + 97 = small (BitVec.ofNat 8 c.val) := by decide +kernel
  intro c
  simpa using h ⟨c.toNat, c.isLt⟩
set_option maxHeartbeats 4000000 in
theorem fsmall_any (c : Bt) (w : World) : Calls Tryz.prog 237 [U8 c].toArray w fun e w' => e = .returned (U8 (small c)) ∧ Ext w w' := by
  refine enter (n := 13) Tryz.func237 rfl rfl rfl (Holds.start w []) ?_
  by_cases hb : 65 ≤ c.toNat ∧ c.toNat ≤ 90
  · have h1 : decide ((65 : Int) ≤ (c.toNat : Int)) = true := decide_eq_true (by omega)
    have h2 : decide ((c.toNat : Int) ≤ 90) = true := decide_eq_true (by omega)
    repeat (first | refine JL.q (by first | (apply OQ.geqB (b := 65); exact rfl; exact rfl; exact h1) | (apply OQ.leqB (b := 90); exact rfl; exact rfl; exact h2) | (apply OQ.pick_t; exact rfl; exact rfl) | (apply OQ.move; exact rfl) | (apply OQ.assign; exact rfl)) rfl ?_ | refine JC.seq ?_ | refine JC.region ?_ | refine JL.nil ?_ | refine JE.next ?_ | refine JL.gon rfl rfl ?_)
    refine JC.cond rfl (fun _ => ?_) (fun h => by cases h)
    repeat (first | refine JL.q (by first | (apply OQ.sub8 (b := 65); exact rfl; exact rfl; exact hb.1) | (apply OQ.add8 (b := 97); exact rfl; exact rfl) | (apply OQ.move; exact rfl) | (apply OQ.assign; exact rfl)) rfl ?_ | refine JC.seq ?_ | refine JC.region ?_ | refine JL.nil ?_ | refine JE.next ?_)
    refine JC.ret ?_
    repeat (refine JE.then_ret ?_)
    exact JE.ret1 rfl (RV.tmp rfl) fun w' hw => ⟨by rw [smallA_is c hb.1 hb.2], hw.chg⟩
  · have hs : small c = c := if_neg hb
    rw [hs]
    cases h1 : decide ((65 : Int) ≤ (c.toNat : Int)) <;> cases h2 : decide ((c.toNat : Int) ≤ 90)
    all_goals try (exfalso; have := of_decide_eq_true h1; have := of_decide_eq_true h2; omega)
    all_goals (repeat (first | refine JL.q (by first | (apply OQ.geqB (b := 65); exact rfl; exact rfl; exact h1) | (apply OQ.leqB (b := 90); exact rfl; exact rfl; exact h2) | (apply OQ.pick_t; exact rfl; exact rfl) | (apply OQ.pick_f; exact rfl; exact rfl) | (apply OQ.move; exact rfl) | (apply OQ.assign; exact rfl)) rfl ?_ | refine JC.seq ?_ | refine JC.region ?_ | refine JL.nil ?_ | refine JE.next ?_ | refine JL.gon rfl rfl ?_ | refine JL.gskip rfl rfl rfl rfl ?_))
    all_goals refine JC.cond rfl (fun h => by cases h) (fun _ => ?_)
    all_goals (repeat (first | refine JL.q (by first | (apply OQ.move; exact rfl) | (apply OQ.assign; exact rfl)) rfl ?_ | refine JC.seq ?_ | refine JC.region ?_ | refine JC.skip ?_ | refine JL.nil ?_ | refine JE.next ?_))
    all_goals exact JC.ret (JE.ret1 rfl (RV.tmp rfl) fun w' hw => ⟨rfl, hw.chg⟩)
set_option maxHeartbeats 8000000 in
theorem fsame_any (a b : List Fld.By) (w : World) (hl : a.length < 9223372036854775808) : Calls Tryz.prog 199 [Z a, Z b].toArray w fun e w' => e = .returned (.bool (sameB a b)) ∧ Ext w w' := by
  refine enter (n := 26) Tryz.func199 rfl rfl rfl (Holds.start w []) ?_
  cases h0 : decide ((a.length : Int) = (b.length : Int))
  · have hne : sameB a b = false := decide_eq_false fun h => by
      have := congrArg List.length h
      simp only [List.length_map] at this
      exact of_decide_eq_false h0 (by omega)
    rw [hne]
    repeat (first | refine JL.q (by first | (apply OQ.lenS; exact Tryz.underlying9; exact rfl) | (apply OQ.neB; exact rfl; exact rfl; exact h0) | (apply OQ.move; exact rfl) | (apply OQ.assign; exact rfl)) rfl ?_ | refine JC.seq ?_ | refine JC.region ?_ | refine JL.nil ?_ | refine JE.next ?_)
    refine JC.cond rfl (fun _ => ?_) (fun h => by cases h)
    repeat (first | refine JL.q (by (apply OQ.assign; exact rfl)) rfl ?_ | refine JC.seq ?_ | refine JC.region ?_ | refine JL.nil ?_ | refine JE.next ?_)
    refine JC.ret ?_
    repeat (refine JE.then_ret ?_)
    exact JE.ret1 rfl (RV.tmp rfl) fun w' hw => ⟨rfl, hw.chg⟩
  · have hab : a.length = b.length := by have := of_decide_eq_true h0; omega
    repeat (first | refine JL.q (by first | (apply OQ.lenS; exact Tryz.underlying9; exact rfl) | (apply OQ.neB; exact rfl; exact rfl; exact h0) | (apply OQ.move; exact rfl) | (apply OQ.assign; exact rfl)) rfl ?_ | refine JC.seq ?_ | refine JC.region ?_ | refine JL.nil ?_ | refine JE.next ?_)
    refine JC.cond rfl (fun h => by cases h) (fun _ => ?_)
    repeat (first | refine JL.q (by first | (apply OQ.lenS; exact Tryz.underlying9; exact rfl) | (apply OQ.move; exact rfl)) rfl ?_ | refine JC.seq ?_ | refine JC.region ?_ | refine JC.block ?_ | refine JC.skip ?_ | refine JL.nil ?_ | refine JE.next ?_)
    refine JC.loop (fun i : Nat => [(0, Z a), (1, Z b), (12, N a.length), (13, N i)]) (fun _ => []) (fun i => a.length - i) (fun i => i ≤ a.length ∧ (a.take i).map small = (b.take i).map small) 0 ⟨Nat.zero_le _, rfl⟩ (by repeat (first | exact SubE.nil | refine SubE.cons _ _ _ rfl ?_)) (Less.refl _) ?_
    rintro i ⟨hi, ha⟩
    repeat (first | refine JL.q (by (apply OQ.lssN; exact rfl; exact rfl)) rfl ?_ | refine JC.seq ?_ | refine JC.region ?_ | refine JL.nil ?_ | refine JE.next ?_)
    refine JC.cond rfl (fun h => ?_) (fun h => ?_)
    · have hi' : i < a.length := of_decide_eq_true h
      have hi2 : i < b.length := by omega
      clear h hi
      have hx := map_take_eq a b hi' hi2 ha
      have hbad := map_at_ne a b hi' hi2
      have i0 := fun {n : Nat} {E : Env} {C : World → Prop} {dst : Option Tmp} {ty : TypeId} {pos : String} {aft : Array Edge} {g : Option (Nat × Bool)} {x y : Operand} => idxAt hi' (n := n) (E := E) (C := C) (dst := dst) (ty := ty) (pos := pos) (aft := aft) (g := g) (x := x) (y := y)
      have i1 := fun {n : Nat} {E : Env} {C : World → Prop} {dst : Option Tmp} {ty : TypeId} {pos : String} {aft : Array Edge} {g : Option (Nat × Bool)} {x y : Operand} => idxAt hi2 (n := n) (E := E) (C := C) (dst := dst) (ty := ty) (pos := pos) (aft := aft) (g := g) (x := x) (y := y)
      generalize a.getD i 0 = c at hx hbad i0
      generalize b.getD i 0 = d at hx hbad i1
      cases h1 : decide (small c = small d)
      · rw [hbad (of_decide_eq_false h1)]
        repeat (first | refine JL.q (by first | (apply OQ.move; exact rfl) | (apply OQ.assign; exact rfl)) rfl ?_ | refine JC.seq ?_ | refine JC.region ?_ | refine JC.block ?_ | refine JC.skip ?_ | refine JL.nil ?_ | refine JE.next ?_)
        refine JC.quiet mixT (by kernel_rfl) ?_
        repeat (first | refine JQ.q (by first | (apply i0; exact rfl; exact rfl) | (apply i1; exact rfl; exact rfl) | (apply OQ.callx (vs := [U8 c]); exact goes_fsmall; exact rfl; exact (fun w' _ => fsmall_any c w')) | (apply OQ.callx (vs := [U8 d]); exact goes_fsmall; exact rfl; exact (fun w' _ => fsmall_any d w')) | (apply OQ.ne8B; exact rfl; exact rfl; exact h1) | (apply OQ.move; exact rfl)) rfl ?_ | refine JQ.nil ?_ | refine JE.next ?_)
        refine JC.cond rfl (fun _ => ?_) (fun h => by cases h)
        repeat (first | refine JL.q (by (apply OQ.assign; exact rfl)) rfl ?_ | refine JC.seq ?_ | refine JC.region ?_ | refine JL.nil ?_ | refine JE.next ?_)
        refine JC.ret ?_
        repeat (first | refine JE.then_ret ?_ | refine JE.blk_ret ?_)
        exact JE.ret1 rfl (RV.tmp rfl) fun w' hw => ⟨rfl, hw.chg⟩
      · repeat (first | refine JL.q (by first | (apply OQ.move; exact rfl) | (apply OQ.assign; exact rfl)) rfl ?_ | refine JC.seq ?_ | refine JC.region ?_ | refine JC.block ?_ | refine JC.skip ?_ | refine JL.nil ?_ | refine JE.next ?_)
        refine JC.quiet mixT (by kernel_rfl) ?_
        repeat (first | refine JQ.q (by first | (apply i0; exact rfl; exact rfl) | (apply i1; exact rfl; exact rfl) | (apply OQ.callx (vs := [U8 c]); exact goes_fsmall; exact rfl; exact (fun w' _ => fsmall_any c w')) | (apply OQ.callx (vs := [U8 d]); exact goes_fsmall; exact rfl; exact (fun w' _ => fsmall_any d w')) | (apply OQ.ne8B; exact rfl; exact rfl; exact h1) | (apply OQ.move; exact rfl)) rfl ?_ | refine JQ.nil ?_ | refine JE.next ?_)
        refine JC.cond rfl (fun h => by cases h) (fun _ => ?_)
        repeat (first | refine JL.q (by first | (apply OQ.move; exact rfl) | (apply OQ.addN; exact rfl; exact rfl; exact (by (try simp only []); omega))) rfl ?_ | refine JC.region ?_ | refine JC.skip ?_ | refine JL.nil ?_ | refine JE.next ?_ | refine JE.blk_normal ?_)
        exact JE.again (i := i) (i + 1) ⟨hi', hx (of_decide_eq_true h1)⟩ (by omega) (by repeat (first | exact SubE.nil | refine SubE.cons _ _ _ rfl ?_)) (Less.refl _)
    · have hi' : ¬ i < a.length := of_decide_eq_false h
      obtain rfl : i = a.length := by omega
      clear h hi hi'
      rw [List.take_length, List.take_of_length_le (by omega)] at ha
      rw [show sameB a b = true from decide_eq_true ha]
      repeat (first | refine JL.q (by (apply OQ.assign; exact rfl)) rfl ?_ | refine JC.seq ?_ | refine JC.region ?_ | refine JC.exit ?_ | refine JL.nil ?_ | refine JE.next ?_ | refine JE.then_exit ?_ | refine JE.blk_hit ?_)
      refine JC.ret ?_
      exact JE.ret1 rfl (RV.tmp rfl) fun w' hw => ⟨rfl, hw.chg⟩
/-! ### blanks and pieces -/
theorem ixB_up {s : List Fld.By} (h : fb s < s.length) : ixB s = (fb s : Nat) := if_pos h
theorem ixB_no {s : List Fld.By} (h : ¬ fb s < s.length) : ixB s = -1 := if_neg h
set_option maxHeartbeats 4000000 in
theorem fpiece_any (s : List Bt) (w : World) (hl : s.length < 4294967281) (hs : ∀ c ∈ s, c.toNat < 128) : Calls Tryz.prog 110 [Z s].toArray w fun e w' => e = .returned (N (pieceB s)) ∧ Ext w w' := by
  refine enter (n := 20) Tryz.func110 rfl rfl rfl (Holds.start w []) ?_
  have hll := trimL_len s
  have cT := fun w' => triml_any s w'
  have cI := fun w' => ixany_any (trimL s) w' (by omega) (fun c hc => hs c ((List.dropWhile_sublist _).subset hc))
  by_cases h : fb (trimL s) < (trimL s).length
  · rw [ixB_up h] at cI
    have hp : pieceB s = s.length - (trimL s).length + fb (trimL s) := rfl
    have hfl : fb (trimL s) ≤ (trimL s).length := by omega
    rw [hp]
    generalize fb (trimL s) = k at cI hfl ⊢
    generalize trimL s = t at cT cI hll hfl ⊢
    repeat (first | refine JL.q (by first | (apply OQ.callx (vs := [Z s, Z [32, 9]]); exact goes_triml; exact rfl; exact (fun w' _ => cT w')) | (apply OQ.callx (vs := [Z t, Z [32, 9]]); exact goes_ixany; exact rfl; exact (fun w' _ => cI w')) | (apply OQ.geqN; exact rfl; exact rfl) | (apply OQ.move; exact rfl) | (apply OQ.assign; exact rfl)) rfl ?_ | refine JC.seq ?_ | refine JC.region ?_ | refine JL.nil ?_ | refine JE.next ?_)
    refine JC.cond_true rfl (decide_eq_true (Nat.zero_le _)) ?_
    repeat (first | refine JL.q (by first | (apply OQ.lenS; exact Tryz.underlying9; exact rfl) | (apply OQ.move; exact rfl) | (apply OQ.assign; exact rfl) | (apply OQ.addN; exact rfl; exact rfl; exact (by (try simp only []); omega)) | (apply OQ.subN; exact rfl; exact rfl; exact (by (try simp only []); omega); exact (by (try simp only []); omega))) rfl ?_ | refine JC.seq ?_ | refine JC.region ?_ | refine JL.nil ?_ | refine JE.next ?_)
    refine JC.ret ?_
    repeat (refine JE.then_ret ?_)
    exact JE.ret1 rfl (RV.tmp rfl) fun w' hw => ⟨rfl, hw.chg⟩
  · rw [ixB_no h] at cI
    have hp : pieceB s = s.length := by
      have := fb_le (trimL s)
      unfold pieceB
      omega
    rw [hp]
    generalize trimL s = t at cT cI ⊢
    repeat (first | refine JL.q (by first | (apply OQ.callx (vs := [Z s, Z [32, 9]]); exact goes_triml; exact rfl; exact (fun w' _ => cT w')) | (apply OQ.callx (vs := [Z t, Z [32, 9]]); exact goes_ixany; exact rfl; exact (fun w' _ => cI w')) | (apply OQ.geqB (a := -1) (b := 0); exact rfl; exact rfl; exact rfl) | (apply OQ.move; exact rfl) | (apply OQ.assign; exact rfl)) rfl ?_ | refine JC.seq ?_ | refine JC.region ?_ | refine JL.nil ?_ | refine JE.next ?_)
    refine JC.cond rfl (fun h => by cases h) (fun _ => ?_)
    repeat (first | refine JL.q (by first | (apply OQ.lenS; exact Tryz.underlying9; exact rfl) | (apply OQ.move; exact rfl) | (apply OQ.assign; exact rfl)) rfl ?_ | refine JC.seq ?_ | refine JC.region ?_ | refine JC.skip ?_ | refine JL.nil ?_ | refine JE.next ?_)
    refine JC.ret ?_
    exact JE.ret1 rfl (RV.tmp rfl) fun w' hw => ⟨rfl, hw.chg⟩
end Go.Proofs.YtdabhneehconeaaGreatDoor

/-
  Of no statement by itself: what the reference's Right and SameFields (layer 9) give.
  Conditions: each theorem's own.
-/
namespace Go.Proofs.YtdabhneehconeaaGreatDoor
set_option maxRecDepth 10000
open Sl Fld
theorem fieldA : aggT Tryz.prog 65 = true := by kernel_rfl
theorem fieldS : szT Tryz.prog 65 = some 2 := by kernel_rfl
end Go.Proofs.YtdabhneehconeaaGreatDoor

/-
  Of no statement by itself: append onto a slice of bytes that a conversion of a string has made (its block bears a mark behind its cells); over X's partial knowledge, for any program P.
  Conditions: each rule's own hypotheses.
-/
namespace Go.Proofs.YtdabhneehconeaaGreatDoor
namespace Sl
/-- a slice's own cells, first in their block, none of which is frozen -/
def OwnF (e : TypeId) (n cap : Nat) (xs : List Value) : Obj → Prop := fun o => ∃ (sp : List Value) (fr : Nat × Nat), o = .cells (xs ++ sp).toArray e fr ∧ (cap ≤ fr.1 ∨ fr.2 = 0) ∧ (xs ++ sp).length = cap ∧ xs.length = n ∧ n ≤ cap
theorem OwnF.cells {e : TypeId} {n cap : Nat} {xs : List Value} : ∀ o, OwnF e n cap xs o → hasCells o 0 xs := by
  rintro o ⟨sp, fr, rfl, _⟩
  exact ⟨_, _, _, rfl, fun i hi => by simp [List.getElem?_append_left hi]⟩
theorem ownF_ents {e : TypeId} {b n cap : Nat} {Y : List Bt} (hn : Y.length = n) : Less (Sl8.ents ⟨some ⟨b, 0, none⟩, cap, Y⟩) [⟨b, OwnF e n cap (Y.map U8), true⟩] :=
  .keep _ _ _ _ _ _ (fun o h => ⟨OwnF.cells o h, by obtain ⟨_, _, _, _, _, _, h4⟩ := h; rw [hn]; exact h4, rfl⟩) (.nil _)
theorem ownF_ok {w0 w : World} {S : List Nat} {M : List Ent} {b k cap : Nat} {e : TypeId} {l : List Bt} {wr : Bool} (hw : Holds w0 S M w) (hM : Has M b (OwnF e k cap (l.map U8)) wr) : Sl8.ok w ⟨some ⟨b, 0, none⟩, cap, l⟩ := by
  obtain ⟨o, ho, hA⟩ := hw.get hM
  have hh := OwnF.cells _ hA
  obtain ⟨sp, fr, rfl, _, h2, h3, h4⟩ := hA
  simp only [List.length_map] at h3
  exact ⟨by show l.length ≤ cap; omega, Reads.block ho hh⟩
section
variable {P : Program} {t tx e : TypeId}
theorem store_runF {w : World} {b j : Nat} {v : Value} {c : Array Value} {e : TypeId} {fr : Nat × Nat} (hv : v.oneCell' = true) (ho : w.heap[b]? = some (.cells c e fr)) (hf : c.size ≤ fr.1 ∨ fr.2 = 0) (hj : j < c.size) :
    (Go.store ⟨b, j, none⟩ v).run P w = .ok () (w.setCell ⟨b, j, none⟩ v) := by
  have hc : w.cell? ⟨b, j, none⟩ = some c[j] := by simp [World.cell?, ho, hj]
  have hf : w.frozen? ⟨b, j, none⟩ = false := by
    obtain ⟨lo, hi⟩ := fr
    simp only [World.frozen?, ho, Bool.and_eq_false_iff, decide_eq_false_iff_not]
    simp only at hf
    omega
  cases v <;> simp_all [Go.store, Sem.run, Value.oneCell']
theorem storeCells_runF {b j : Nat} {e : TypeId} {fr : Nat × Nat} : ∀ (vs : List Value) (i : Nat) (w : World) (c : List Value), (∀ v ∈ vs, v.oneCell' = true) → w.heap[b]? = some (.cells c.toArray e fr) → c.length ≤ fr.1 ∨ fr.2 = 0 → j + i + vs.length ≤ c.length →
    ∃ w', (storeCells ⟨b, j, none⟩ vs i).run P w = .ok () w' ∧ w'.heap[b]? = some (.cells (c.take (j + i) ++ vs ++ c.drop (j + i + vs.length)).toArray e fr) ∧ w'.heap.size = w.heap.size ∧
      (∀ k, k ≠ b → w'.heap[k]? = w.heap[k]?) ∧ w'.os = w.os ∧ w'.tape = w.tape ∧ w'.output = w.output
  | [], i, w, c, _, ho, _, _ => ⟨w, rfl, by simpa using ho, rfl, fun _ _ => rfl, rfl, rfl, rfl⟩
  | v :: vs, i, w, c, h1, ho, hf, hl => by
    simp only [List.length_cons] at hl
    obtain ⟨w', r1, r2, r3, r4, r5, r6, r7⟩ := storeCells_runF (j := j) (e := e) (fr := fr) vs (i + 1) (w.setCell ⟨b, j + i, none⟩ v) (c.set (j + i) v) (fun u hu => h1 u (by simp [hu])) (by
      rw [setCell_heap ho]; simp) (by simpa using hf) (by simp; omega)
    refine ⟨w', ?_, ?_, r3.trans setCell_size, fun k hk => (r4 k hk).trans (setCell_other hk), r5, r6, r7⟩
    · simp only [storeCells, Sem.run_bind, add_off]
      rw [store_runF (h1 v (by simp)) ho (by simpa using hf) (by simp; omega)]
      exact r1
    · rw [r2]
      congr 3
      rw [List.take_set, List.drop_set, if_pos (by omega)]
      rw [show j + (i + 1) = j + i + 1 by omega, List.take_add_one]
      simp only [List.getElem?_eq_getElem (show j + i < c.length by omega), Option.toList_some, List.length_cons]
      rw [List.set_append_right _ _ (by rw [List.length_take]; omega)]
      simp [List.length_take, Nat.min_eq_left (show j + i ≤ c.length by omega), Nat.add_assoc, Nat.add_comm, Nat.add_left_comm]
theorem append_roomF {w : World} {ty : TypeId} {i : TypeInfo} (ht : P.underlying t = some (.slice e)) (hi : P.info? e = some i) (hs1 : i.size = 1) {b k cap m : Nat} {x : Value} {news cur : List Value} {fr : Nat × Nat} (hs : Src P 1 tx x m news w)
    (hg : w.heap[b]? = some (.cells cur.toArray e fr)) (hf : cur.length ≤ fr.1 ∨ fr.2 = 0) (hroom : k + m ≤ cap) (hfit : k + news.length ≤ cur.length) :
    ∃ w', (Builtin.append_ #[t, tx] ty #[.slice (some ⟨b, 0, none⟩) k cap, x]).run P w = .ok (.slice (some ⟨b, 0, none⟩) (k + m) cap) w' ∧ w'.heap[b]? = some (.cells (cur.take k ++ news ++ cur.drop (k + news.length)).toArray e fr) ∧ w'.heap.size = w.heap.size ∧
      (∀ q, q ≠ b → w'.heap[q]? = w.heap[q]?) ∧ w'.os = w.os ∧ w'.tape = w.tape ∧ w'.output = w.output := by
  obtain ⟨w', r1, r2, r3, r4, r5, r6, r7⟩ := storeCells_runF (P := P) (b := b) (j := k) (e := e) (fr := fr) news 0 w cur hs.one hg hf (by omega)
  simp only [Nat.add_zero] at r2
  refine ⟨w', ?_, r2, r3, r4, r5, r6, r7⟩
  have hc := hs.cells
  rcases hs.kind with ⟨e', hk⟩ | hk <;> simp [Builtin.append_, run_underlying ht, run_underlying hk, sizeOf, typeInfo, hi, hs1, hs.len, hroom, hc, add_off, r1]
variable {n : Nat} {w0 : World} {S : List Nat} {ops : Array Oper} {Q : Exit → Act → World → Prop} {l : List Oper} {E : Env} {M : List Ent} {d b : Nat} {ty : TypeId} {pos : String} {aft : Array Edge} {x y : Operand}
theorem JL.appendX {k cap m : Nat} {v : Value} {xs news : List Value} (M' : Nat → Nat → List Ent) (hu : P.underlying t = some (.slice e)) (hi : EI P e (.int .u8 0) 1 1) (hx : ev E x = some (.slice (some ⟨b, 0, none⟩) k cap)) (hy : ev E y = some v)
    (hs : ∀ w, Holds w0 S M w → Src P 1 tx v m news w) (hup : ∀ b' cap', Repl M b (OwnF e k cap xs) b' (OwnF e (k + m) cap' (xs ++ news)) (M' b' cap'))
    (hsm : (k + m) ≤ 140737488355328) (hd : Nat.blt d n = true)
    (kk : ∀ b' cap', JL P n w0 S ops Q l ((d, .slice (some ⟨b', 0, none⟩) (k + m) cap') :: E) (M' b' cap')) : JL P n w0 S ops Q (⟨some d, .call ⟨.builtin .append, #[x, y], #[t, tx]⟩, ty, pos, aft, none⟩ :: l) E M :=
  ⟨fun a w ha hw => wpList_plain rfl fun K hK => by
    obtain ⟨i, hi1, hi2, hi3, hi4⟩ := hi.get
    obtain ⟨o, ho, sp, fr, rfl, hfr, hc1, hc2, hc3⟩ := hw.get (hup 0 0).has
    have hsrc := hs w hw
    have hnl : news.length = m := by have := hsrc.newsLen; omega
    unfold Oper.wp
    simp only [execOp, resolve, invoke, builtin, Sem.run_bind, Sem.run_pure, Result.andThen_ok, List.map_toArray, List.map_cons, List.map_nil, ha.eval hx, ha.eval hy]
    by_cases hroom : k + m ≤ cap
    · obtain ⟨w', r1, r2, r3, r4, r5, r6, r7⟩ := append_roomF (ty := ty) hu hi1 hi3 hsrc ho (by rw [hc1]; exact hfr) hroom (by rw [hc1, hnl]; exact hroom)
      rw [r1]
      refine hK _ _ ((kk b cap).go _ _ (ha.put d _ hd) (hw.write (hup b cap).upd (o' := .cells ((xs ++ sp).take k ++ news ++ (xs ++ sp).drop (k + news.length)).toArray e fr) ?_ r2 r3 r4 r5 r6 r7))
      subst hc2
      rw [List.take_left]
      refine ⟨(xs ++ sp).drop (xs.length + news.length), fr, rfl, hfr, ?_, by rw [List.length_append, hnl], hroom⟩
      simp only [List.length_append, List.length_drop] at hc1 ⊢
      omega
    · have hold : ∀ u v, xs[u]? = some v → w.cell? ((⟨b, 0, none⟩ : Addr).add u) = some v := fun u v hv => by
        rw [add_off]
        have hu' : u < xs.length := (List.getElem?_eq_some_iff.1 hv).1
        exact cell_of ho (by simpa [cellAt, List.getElem?_append_left hu'] using hv)
      have hfit := growslice_fits (need := k + m) (old := cap) (bytes := 1) (by omega) (by omega)
      have hfo := run_firstCells_some (P := P) w.drew i.size k ⟨b, 0, none⟩ k cap xs (by rw [hc2, hi3, Nat.mul_one]) (by simpa using hold)
      rw [run_append_grow_src w t tx ty e i (.int .u8 0) hu hi1 hi2 (some ⟨b, 0, none⟩) k cap xs hfo v m news (by rw [hi3]; exact hsrc) (by omega) (by omega) (by rw [hi4]; exact hfit)]
      have hge := grownCap_ge w (k + m) cap e
      generalize grownCap w (k + m) cap e = nc at hge
      refine hK _ _ ((kk w.heap.size nc).go _ _ (ha.put d _ hd) (hw.renew (.cells ((xs ++ news).toArray ++ Builtin.zeroCells (Value.int .u8 0).cells (nc - (k + m))) e) (hup _ _) ?_ rfl rfl rfl rfl))
      have h8 : (Builtin.zeroCells (Value.int .u8 0).cells (nc - (k + m))).size = (nc - (k + m)) := by
        rw [show (Value.int .u8 0).cells = #[Value.int .u8 0] from rfl]; simp [Builtin.zeroCells]
      refine ⟨(Builtin.zeroCells (Value.int .u8 0).cells (nc - (k + m))).toList, (0, 0), by simp, .inr rfl, ?_, by rw [List.length_append, hc2, hnl], hge⟩
      simp only [List.length_append, Array.length_toList, h8, hc2, hnl]
      omega⟩
theorem src_reads {w : World} {ad : Option Addr} {m sc : Nat} {cs : List Value} (hu : P.underlying tx = some (.slice e)) (hl : cs.length = m) (hr : Reads w ad cs) (h1 : ∀ v ∈ cs, v.oneCell' = true) : Src P 1 tx (.slice ad m sc) m cs w := by
  by_cases h0 : m = 0
  · subst h0
    obtain rfl : cs = [] := List.eq_nil_of_length_eq_zero hl
    cases ad with
    | none => exact Src.ofNil w hu sc
    | some a => exact Src.ofSlice w hu a 0 sc [] rfl (fun j u h => by simp at h) (fun u h => by cases h)
  · obtain ⟨b2, j2, rfl, hcell⟩ := hr.at (by omega)
    exact Src.ofSlice w hu ⟨b2, j2, none⟩ m sc cs (by omega) (fun u v hv => by rw [add_off]; exact hcell u v hv) h1
theorem src_str {w : World} {r : List Bt} (hk : P.underlying tx = some .string) : Src P 1 tx (Z r) r.length (r.map U8) w := by
  have := Src.ofString (P := P) w hk (strB r)
  rw [byteCells_strB, strB_size] at this
  exact this
/-- x = append(x, v) -/
theorem JL.pushF {t ty ty' : TypeId} {v : Value} {k cap d1 d2 : Nat} {pos pos' : String} {aft aft' : Array Edge} {xs : List Value} {x y : Operand}
    (M' : Nat → Nat → List Ent) (hu : P.underlying t = some (.slice e)) (hi : EI P e (.int .u8 0) 1 1) (hx : ev E x = some v) (hv : v.cells = #[v]) (h1 : v.oneCell' = true)
    (ha : ∀ bl, ev ((d1, .slice (some ⟨bl, 0, none⟩) 1 1) :: E) y = some (.slice (some ⟨b, 0, none⟩) k cap)) (hup : ∀ b' cap', Repl M b (OwnF e k cap xs) b' (OwnF e (k + 1) cap' (xs ++ [v])) (M' b' cap'))
    (hsm : k + 1 ≤ 140737488355328) (hd1 : Nat.blt d1 n = true) (hd2 : Nat.blt d2 n = true)
    (kk : ∀ bl b' cap', JL P n w0 S ops Q l ((d2, .slice (some ⟨b', 0, none⟩) (k + 1) cap') :: (d1, .slice (some ⟨bl, 0, none⟩) 1 1) :: E) (M' b' cap')) :
    JL P n w0 S ops Q (⟨some d1, .buildSlice t 1 #[(0, x)], ty, pos, aft, none⟩ :: ⟨some d2, .call ⟨.builtin .append, #[y, .tmp d1], #[t, t]⟩, ty', pos', aft', none⟩ :: l) E M := by
  refine JL.lit1 hu hi rfl hx hv hd1 fun bl _ => ?_
  refine JL.appendX (news := [v]) (m := 1) (v := .slice (some ⟨bl, 0, none⟩) 1 1) (fun b' cap' => ⟨bl, Row e [v], true⟩ :: M' b' cap') hu hi (ha bl) (by simp [ev, lk]) (fun w hw => src_reads hu rfl ?_ (by simpa using h1)) (fun b' cap' => .there (hup b' cap')) hsm hd2 fun b' cap' => ?_
  · obtain ⟨o, ho, hA⟩ := hw.get (b := bl) (A := Row e [v]) (wr := true) .here
    exact Reads.block ho (Row.all _ hA)
  · exact ⟨fun a w ha hw => (kk bl b' cap').go a w ha (hw.weak (.drop _ _ _ (Less.refl _)))⟩
/-- []byte(s), onto which may be appended -/
theorem JL.s2o {t' : TypeId} {r : List Bt} {u : TypeDesc} (hs : P.underlying t = some u) (hsu : u = .string) (hu : P.underlying t' = some (.slice e)) (he : P.underlying e = some (.int .u8)) (hx : ev E x = some (Z r)) (hd : Nat.blt d n = true)
    (k : ∀ b cap, w0.heap.size ≤ b → JL P n w0 S ops Q l ((d, .slice (some ⟨b, 0, none⟩) r.length cap) :: E) (⟨b, OwnF e r.length cap (r.map U8), true⟩ :: M)) : JL P n w0 S ops Q (⟨some d, .convert t t' x, ty, pos, aft, none⟩ :: l) E M :=
  ⟨fun a w ha hw => wpList_plain rfl fun K hK => by
    subst hsu
    have hrun := Lib.run_convert_string_bytes (P := P) w t t' e (strB r) hs hu he
    have hheap : (Lib.bytesWorld w e (strB r)).heap = w.heap.push (.cells (Lib.bytesCells w e (strB r)) e ((Lib.bytesCells w e (strB r)).size, (Lib.bytesCells w e (strB r)).size + 1)) := by
      apply Array.ext_getElem?
      intro i
      rw [Array.getElem?_push]
      by_cases h : i = w.heap.size
      · rw [if_pos h, h, Lib.bytesWorld_at_new]
      · rw [if_neg h]
        by_cases h2 : i < w.heap.size
        · rw [Lib.bytesWorld_at_old _ _ _ _ h2]
        · rw [Array.getElem?_eq_none (by rw [Lib.bytesWorld_size]; omega), Array.getElem?_eq_none (by omega)]
    have hge := grownCap_ge w (strB r).size 0 e
    rw [strB_size] at hge hrun
    have hA : OwnF e r.length (grownCap w r.length 0 e) (r.map U8) (.cells (Lib.bytesCells w e (strB r)) e ((Lib.bytesCells w e (strB r)).size, (Lib.bytesCells w e (strB r)).size + 1)) := by
      have hb : ((strB r).data.toList.map fun b => Value.int .u8 b.toNat) = r.map U8 := by
        have := byteCells_strB r
        exact this
      have hc : Lib.bytesCells w e (strB r) = (r.map U8 ++ List.replicate (grownCap w r.length 0 e - r.length) (Value.int .u8 0)).toArray := by
        have hsz := strB_size r
        rw [← hb]
        apply Array.ext'
        simp [Lib.bytesCells, hsz]
      have hl : (Lib.bytesCells w e (strB r)).size = grownCap w r.length 0 e := by rw [hc]; simp; omega
      refine ⟨List.replicate (grownCap w r.length 0 e - r.length) (Value.int .u8 0), _, by rw [← hc], .inl (by show _ ≤ (Lib.bytesCells w e (strB r)).size; omega), ?_, by simp, hge⟩
      simp; omega
    unfold Oper.wp
    simp only [execOp, ha.eval hx, Sem.run_bind, hrun, Result.andThen_ok]
    exact hK _ _ ((k w.heap.size _ hw.chg.size).go _ _ (ha.put d _ hd) (hw.push _ hA hheap rfl rfl rfl))⟩
end
end Sl
end Go.Proofs.YtdabhneehconeaaGreatDoor

/-
  Of no statement by itself: what the reference's Fold (layer 9) gives.
  Conditions: each theorem's own.
-/
namespace Go.Proofs.YtdabhneehconeaaGreatDoor
set_option maxRecDepth 10000
open Sl Fld
theorem st_len (n v : List Fld.By) : ∀ i, (st n v i).1.length ≤ n.length + 2 + 3 * i ∧ (st n v i).2 ≤ n.length + 2 + i
  | 0 => by simp [st]
  | i + 1 => by
    obtain ⟨h1, h2⟩ := st_len n v i
    unfold st
    split
    · simp only [List.length_append, List.length_cons, List.length_nil]; omega
    · simp only [List.length_append, List.length_cons, List.length_nil]; omega
end Go.Proofs.YtdabhneehconeaaGreatDoor

/-
  Of no statement by itself: what a field as lines is, with its number (field's Fold); which functions go.
  Conditions: none.
-/
namespace Go.Proofs.YtdabhneehconeaaGreatDoor
set_option maxRecDepth 10000
open Sl Fld
def goodF (n v : List Bt) : Bool := nameB n && valB v
def foldR (n v : List Bt) : List Bt := if goodF n v then foldB n v else []
def codeF (n v : List Bt) : Nat := if goodF n v then 0 else 3
theorem goes_fname : Goes Tryz.prog 108 := ⟨_, Tryz.func108, rfl, by kernel_rfl⟩
theorem goes_fvalue : Goes Tryz.prog 109 := ⟨_, Tryz.func109, rfl, by kernel_rfl⟩
theorem goes_fsame : Goes Tryz.prog 199 := ⟨_, Tryz.func199, rfl, by kernel_rfl⟩
theorem goes_ffold : Goes Tryz.prog 61 := ⟨_, Tryz.func61, rfl, by kernel_rfl⟩
theorem nameB_len {n : List Fld.By} (h : nameB n = true) : n.length ≤ 64 := (name_parts h).2.2
theorem foldB_len (n v : List Fld.By) : (foldB n v).length ≤ n.length + 4 + 3 * v.length := by
  have := (st_len n v v.length).1
  rw [foldB, List.length_append]
  simp only [List.length_cons, List.length_nil]
  omega
theorem valB_len {v : List Fld.By} (h : valB v = true) : v.length ≤ 8192 := (valB_parts h).2.1
end Go.Proofs.YtdabhneehconeaaGreatDoor

/-
  Of no statement by itself: what the landed mime's encodingOf, nameOf, hasParts and boundaryOf give, where the encodings' table lies in its variable.
  Conditions: each theorem's own.
-/
namespace Go.Proofs.YtdabhneehconeaaGreatDoor
set_option maxRecDepth 10000
open Sl Fld Mim
/-- the encodings' names, and their codes, as the table has them -/
def encN : List (List Bt) := [b8, b64, qpN, b7, bin, []]
def encC : List Int := [0, 1, 2, 0, 0, 0]
def encT : List Value := [Z b8, .int .i64 0, Z b64, .int .i64 1, Z qpN, .int .i64 2, Z b7, .int .i64 0, Z bin, .int .i64 0, Z [], .int .i64 0]
/-- the variable mime.encodings holds the table -/
def EncOk (w : World) : Prop := ∃ e fr, w.heap[1]? = some (.cells encT.toArray e fr)
theorem EncOk.lt {w : World} (h : EncOk w) : 1 < w.heap.size := by
  obtain ⟨e, fr, h⟩ := h
  exact (Array.getElem?_eq_some_iff.1 h).1
theorem EncOk.ext {w w' : World} (h : EncOk w) (hx : Ext w w') : EncOk w' := by
  have hl := h.lt
  obtain ⟨e, fr, h⟩ := h
  exact ⟨e, fr, (hx.block _ hl (by simp)).trans h⟩
theorem EncOk.holds {w0 w : World} {M : List Ent} (h : EncOk w0) (hw : Holds w0 [] M w) : EncOk w := h.ext hw.chg
theorem EncOk.cell {w : World} (h : EncOk w) : ∀ i u, encT[i]? = some u → w.cell? ⟨1, 0 + i, none⟩ = some u := fun i u hu => by
  obtain ⟨e, fr, h⟩ := h
  exact cell_of h (by show (encT.toArray)[0 + i]? = some u; rw [Nat.zero_add]; simpa using hu)
theorem goes_nameof : Goes Tryz.prog 86 := ⟨_, Tryz.func86, rfl, by kernel_rfl⟩
theorem goes_hasp : Goes Tryz.prog 84 := ⟨_, Tryz.func84, rfl, by kernel_rfl⟩
theorem goes_bof : Goes Tryz.prog 103 := ⟨_, Tryz.func103, rfl, by kernel_rfl⟩
theorem tbA : aggT Tryz.prog 164 = true := by kernel_rfl
theorem tbS : szT Tryz.prog 164 = some 12 := by kernel_rfl
theorem tbU : Tryz.prog.underlying 164 = some (.array 6 163) := by kernel_rfl
theorem roA : aggT Tryz.prog 163 = true := by kernel_rfl
theorem roS : szT Tryz.prog 163 = some 2 := by kernel_rfl
theorem roZ : zc Tryz.prog 163 = some [Z [], .int .i64 0] := by kernel_rfl
theorem paA : aggT Tryz.prog 63 = true := by kernel_rfl
theorem paS : szT Tryz.prog 63 = some 2 := by kernel_rfl
theorem paZ : zc Tryz.prog 63 = some [Z [], Z []] := by kernel_rfl
section
variable {n : Nat} {E : Env} {C : World → Prop} {dst : Option Tmp} {ty : TypeId} {pos : String} {aft : Array Edge} {g : Option (Nat × Bool)} {x : Operand} {b : Nat}
theorem ro_fld0 (hx : ev E x = some (.pointer (some ⟨b, 0, none⟩))) : OQ Tryz.prog n E C ⟨dst, .fieldAddr 163 x 0, ty, pos, aft, g⟩ (.pointer (some ⟨b, 0, none⟩)) := OQ.fldx (o := 0) Tryz.underlying163 rfl rfl (by decide) hx rfl
theorem ro_fld1 (hx : ev E x = some (.pointer (some ⟨b, 0, none⟩))) : OQ Tryz.prog n E C ⟨dst, .fieldAddr 163 x 1, ty, pos, aft, g⟩ (.pointer (some ⟨b, 1, none⟩)) := OQ.fldx (o := 1) Tryz.underlying163 rfl rfl (by decide) hx rfl
end
theorem inCE : scal Tryz.prog 3 = true := by kernel_rfl
theorem OQ.indexG {P : Program} {n : Nat} {E : Env} {C : World → Prop} {dst : Option Tmp} {t ty e : TypeId} {pos : String} {aft : Array Edge} {g : Option (Nat × Bool)} {x y : Operand} {len i sz : Nat} {cs ds : List Value} (hu : P.underlying t = some (.array len e)) (hz : szT P e = some sz) (ha : aggT P e = true) (hx : ev E x = some (.agg cs.toArray)) (hy : ev E y = some (N i)) (hi : i < len) (hv : (cs.drop (i * sz)).take sz = ds) :
    OQ P n E C ⟨dst, .index t x y, ty, pos, aft, g⟩ (.agg ds.toArray) :=
  OQ.run fun a hk w _ => by
    have h1 := hk.eval hx
    have h2 := hk.eval hy
    have h3 : (underlying t).run P w = .ok (.array len e) w := run_underlying hu w
    simp [execOp, h1, h2, Instr.index, asIntOf, Sem.run_bind, h3, hi, sizeOf_run hz, part, isAgg_agg ha, hv]
theorem enc_row {i : Nat} (h : i < 6) : (encT.drop (i * 2)).take 2 = [Z (encN.getD i []), .int .i64 (encC.getD i 0)] := by
  have : i = 0 ∨ i = 1 ∨ i = 2 ∨ i = 3 ∨ i = 4 ∨ i = 5 := by omega
  rcases this with rfl | rfl | rfl | rfl | rfl | rfl <;> rfl
theorem enc_len (i : Nat) : (encN.getD i []).length < 9223372036854775808 := by
  by_cases h : i < 6
  · have : i = 0 ∨ i = 1 ∨ i = 2 ∨ i = 3 ∨ i = 4 ∨ i = 5 := by omega
    rcases this with rfl | rfl | rfl | rfl | rfl | rfl <;> decide
  · rw [List.getD_eq_getElem?_getD, List.getElem?_eq_none (by show 6 ≤ i; omega)]
    decide
theorem enc_hit {i : Nat} (h : i < 6) {c : List Fld.By} (hs : sameB (encN.getD i []) c = true) : codB (c.map small) = some (encC.getD i 0) := by
  have hs := of_decide_eq_true hs
  rw [← hs]
  have : i = 0 ∨ i = 1 ∨ i = 2 ∨ i = 3 ∨ i = 4 ∨ i = 5 := by omega
  rcases this with rfl | rfl | rfl | rfl | rfl | rfl <;> decide
theorem enc_miss {c : List Fld.By} (h : ∀ j, j < 6 → sameB (encN.getD j []) c = false) : codB (c.map small) = none := by
  have k := fun j hj => of_decide_eq_false (h j hj)
  have h0 : ¬ b8 = c.map small := k 0 (by decide)
  have h1 : ¬ b64 = c.map small := k 1 (by decide)
  have h2 : ¬ qpN = c.map small := k 2 (by decide)
  have h3 : ¬ b7 = c.map small := k 3 (by decide)
  have h4 : ¬ bin = c.map small := k 4 (by decide)
  have h5 : ¬ [] = c.map small := k 5 (by decide)
  unfold codB
  rw [if_neg (fun e => h1 e.symm), if_neg (fun e => h2 e.symm), if_neg]
  rintro (e | e | e | e)
  · exact h5 e.symm
  · exact h3 e.symm
  · exact h0 e.symm
  · exact h4 e.symm
set_option maxHeartbeats 16000000 in
theorem encof_any (c : List Bt) (w : World) (hE : EncOk w) : Calls Tryz.prog 154 [Z c].toArray w fun e w' => e = .returned (.tuple #[.int .i64 ((codB (c.map small)).getD 0), .bool (codB (c.map small)).isSome]) ∧ Ext w w' := by
  refine enter (n := 17) Tryz.func154 rfl rfl rfl (Holds.start w []) ?_
  repeat (first | refine JL.q (by first | (apply OQ.load_agg_old (cs := encT); exact tbA; exact rfl; exact tbS; exact hE.lt; exact (by simp); exact hE.cell) | (apply OQ.move; exact rfl) | (apply OQ.assign; exact rfl)) rfl ?_ | refine JC.seq ?_ | refine JC.region ?_ | refine JC.block ?_ | refine JL.nil ?_ | refine JE.next ?_)
  refine JC.loop (fun i : Nat => [(0, Z c), (6, .agg encT.toArray), (7, N i)]) (fun _ => []) (fun i => 6 - i) (fun i => i ≤ 6 ∧ ∀ j, j < i → sameB (encN.getD j []) c = false) 0 ⟨by decide, fun j hj => by omega⟩ (by repeat (first | exact SubE.nil | refine SubE.cons _ _ _ rfl ?_)) (Less.refl _) ?_
  rintro i ⟨hi, hno⟩
  repeat (first | refine JL.q (by (apply OQ.lssN; exact rfl; exact rfl)) rfl ?_ | refine JC.seq ?_ | refine JC.region ?_ | refine JL.nil ?_ | refine JE.next ?_)
  refine JC.cond rfl (fun h => ?_) (fun h => ?_)
  · have hi' : i < 6 := of_decide_eq_true h
    clear h hi
    repeat (first | refine JL.q (by (apply OQ.indexG (cs := encT); exact tbU; exact roS; exact roA; exact rfl; exact rfl; exact hi'; exact (enc_row hi'))) rfl ?_ | refine JC.seq ?_ | refine JC.region ?_ | refine JC.block ?_ | refine JC.skip ?_ | refine JE.next ?_)
    refine JL.alloc roZ rfl fun b5 _ => ?_
    refine JL.store_all (cs := [Z (encN.getD i []), .int .i64 (encC.getD i 0)]) roS rfl rfl rfl rfl .here rfl ?_
    have cs := fun w' => fsame_any (encN.getD i []) c w' (enc_len i)
    cases hb : sameB (encN.getD i []) c
    · rw [hb] at cs
      repeat (first | refine JL.q (by first | (apply ro_fld0; exact rfl) | (apply OQ.load; exact strC; exact rfl; exact .here; exact (Row.cell (v := Z (encN.getD i [])) rfl)) | (apply OQ.callx (vs := [Z (encN.getD i []), Z c]); exact goes_fsame; exact rfl; exact (fun w' _ => cs w')) | (apply OQ.move; exact rfl)) rfl ?_ | refine JC.seq ?_ | refine JC.region ?_ | refine JL.nil ?_ | refine JE.next ?_)
      refine JC.cond rfl (fun h => by cases h) (fun _ => ?_)
      repeat (first | refine JL.q (by first | (apply OQ.move; exact rfl) | (apply OQ.addN; exact rfl; exact rfl; exact (by (try simp only []); omega))) rfl ?_ | refine JC.region ?_ | refine JC.skip ?_ | refine JL.nil ?_ | refine JE.next ?_ | refine JE.blk_normal ?_)
      refine JE.again (i := i) (i + 1) ⟨hi', fun j hj => ?_⟩ (by omega) (by repeat (first | exact SubE.nil | refine SubE.cons _ _ _ rfl ?_)) (.nil _)
      by_cases e : j = i
      · subst e; exact hb
      · exact hno j (by omega)
    · rw [hb] at cs
      rw [enc_hit hi' hb]
      repeat (first | refine JL.q (by first | (apply ro_fld0; exact rfl) | (apply OQ.load; exact strC; exact rfl; exact .here; exact (Row.cell (v := Z (encN.getD i [])) rfl)) | (apply OQ.callx (vs := [Z (encN.getD i []), Z c]); exact goes_fsame; exact rfl; exact (fun w' _ => cs w')) | (apply OQ.move; exact rfl)) rfl ?_ | refine JC.seq ?_ | refine JC.region ?_ | refine JL.nil ?_ | refine JE.next ?_)
      refine JC.cond rfl (fun _ => ?_) (fun h => by cases h)
      repeat (first | refine JL.q (by first | (apply ro_fld1; exact rfl) | (apply OQ.load; exact inCE; exact rfl; exact .here; exact (Row.cell (v := .int .i64 (encC.getD i 0)) rfl)) | (apply OQ.assign; exact rfl)) rfl ?_ | refine JC.seq ?_ | refine JC.region ?_ | refine JL.nil ?_ | refine JE.next ?_)
      refine JC.ret ?_
      repeat (first | refine JE.then_ret ?_ | refine JE.blk_ret ?_)
      exact JE.ret2 rfl (RV.tmp rfl) (RV.tmp rfl) fun w' hw => ⟨rfl, hw.chg⟩
  · have hi' : ¬ i < 6 := of_decide_eq_false h
    obtain rfl : i = 6 := by omega
    rw [enc_miss hno]
    repeat (first | refine JL.q (by (apply OQ.assign; exact rfl)) rfl ?_ | refine JC.seq ?_ | refine JC.region ?_ | refine JC.exit ?_ | refine JL.nil ?_ | refine JE.next ?_ | refine JE.then_exit ?_ | refine JE.blk_hit ?_)
    exact JC.ret (JE.ret2 rfl (RV.tmp rfl) (RV.tmp rfl) fun w' hw => ⟨rfl, hw.chg⟩)
/-- a code's name -/
def namB (c : Int) : Option (List Bt) := if c = 0 then some b8 else if c = 1 then some b64 else if c = 2 then some qpN else none
theorem nam_hit {i : Nat} (h : i < 6) {c : Int} (hc : encC.getD i 0 = c) (hno : ∀ j, j < i → ¬ encC.getD j 0 = c) : namB c = some (encN.getD i []) := by
  subst hc
  have : i = 0 ∨ i = 1 ∨ i = 2 ∨ i = 3 ∨ i = 4 ∨ i = 5 := by omega
  rcases this with rfl | rfl | rfl | rfl | rfl | rfl
  · rfl
  · rfl
  · rfl
  · exact absurd rfl (hno 0 (by decide))
  · exact absurd rfl (hno 0 (by decide))
  · exact absurd rfl (hno 0 (by decide))
theorem nam_miss {c : Int} (hno : ∀ j, j < 6 → ¬ encC.getD j 0 = c) : namB c = none := by
  have h0 : ¬ (0 : Int) = c := hno 0 (by decide)
  have h1 : ¬ (1 : Int) = c := hno 1 (by decide)
  have h2 : ¬ (2 : Int) = c := hno 2 (by decide)
  unfold namB
  rw [if_neg (fun e => h0 e.symm), if_neg (fun e => h1 e.symm), if_neg (fun e => h2 e.symm)]
set_option maxHeartbeats 16000000 in
theorem nameof_any (c : Int) (w : World) (hE : EncOk w) : Calls Tryz.prog 86 [.int .i64 c].toArray w fun e w' => e = .returned (.tuple #[Z ((namB c).getD []), .bool (namB c).isSome]) ∧ Ext w w' := by
  refine enter (n := 17) Tryz.func86 rfl rfl rfl (Holds.start w []) ?_
  repeat (first | refine JL.q (by first | (apply OQ.load_agg_old (cs := encT); exact tbA; exact rfl; exact tbS; exact hE.lt; exact (by simp); exact hE.cell) | (apply OQ.move; exact rfl) | (apply OQ.assign; exact rfl)) rfl ?_ | refine JC.seq ?_ | refine JC.region ?_ | refine JC.block ?_ | refine JL.nil ?_ | refine JE.next ?_)
  refine JC.loop (fun i : Nat => [(0, .int .i64 c), (6, .agg encT.toArray), (7, N i)]) (fun _ => []) (fun i => 6 - i) (fun i => i ≤ 6 ∧ ∀ j, j < i → ¬ encC.getD j 0 = c) 0 ⟨by decide, fun j hj => by omega⟩ (by repeat (first | exact SubE.nil | refine SubE.cons _ _ _ rfl ?_)) (Less.refl _) ?_
  rintro i ⟨hi, hno⟩
  repeat (first | refine JL.q (by (apply OQ.lssN; exact rfl; exact rfl)) rfl ?_ | refine JC.seq ?_ | refine JC.region ?_ | refine JL.nil ?_ | refine JE.next ?_)
  refine JC.cond rfl (fun h => ?_) (fun h => ?_)
  · have hi' : i < 6 := of_decide_eq_true h
    clear h hi
    repeat (first | refine JL.q (by (apply OQ.indexG (cs := encT); exact tbU; exact roS; exact roA; exact rfl; exact rfl; exact hi'; exact (enc_row hi'))) rfl ?_ | refine JC.seq ?_ | refine JC.region ?_ | refine JC.block ?_ | refine JC.skip ?_ | refine JE.next ?_)
    refine JL.alloc roZ rfl fun b5 _ => ?_
    refine JL.store_all (cs := [Z (encN.getD i []), .int .i64 (encC.getD i 0)]) roS rfl rfl rfl rfl .here rfl ?_
    cases hb : decide (encC.getD i 0 = c)
    · repeat (first | refine JL.q (by first | (apply ro_fld1; exact rfl) | (apply OQ.load; exact inCE; exact rfl; exact .here; exact (Row.cell (v := .int .i64 (encC.getD i 0)) rfl)) | (apply OQ.eqB (a := encC.getD i 0) (b := c); exact rfl; exact rfl; exact hb) | (apply OQ.move; exact rfl)) rfl ?_ | refine JC.seq ?_ | refine JC.region ?_ | refine JL.nil ?_ | refine JE.next ?_)
      refine JC.cond rfl (fun h => by cases h) (fun _ => ?_)
      repeat (first | refine JL.q (by first | (apply OQ.move; exact rfl) | (apply OQ.addN; exact rfl; exact rfl; exact (by (try simp only []); omega))) rfl ?_ | refine JC.region ?_ | refine JC.skip ?_ | refine JL.nil ?_ | refine JE.next ?_ | refine JE.blk_normal ?_)
      refine JE.again (i := i) (i + 1) ⟨hi', fun j hj => ?_⟩ (by omega) (by repeat (first | exact SubE.nil | refine SubE.cons _ _ _ rfl ?_)) (.nil _)
      by_cases e : j = i
      · subst e; exact of_decide_eq_false hb
      · exact hno j (by omega)
    · rw [nam_hit hi' (of_decide_eq_true hb) hno]
      repeat (first | refine JL.q (by first | (apply ro_fld1; exact rfl) | (apply OQ.load; exact inCE; exact rfl; exact .here; exact (Row.cell (v := .int .i64 (encC.getD i 0)) rfl)) | (apply OQ.eqB (a := encC.getD i 0) (b := c); exact rfl; exact rfl; exact hb) | (apply OQ.move; exact rfl)) rfl ?_ | refine JC.seq ?_ | refine JC.region ?_ | refine JL.nil ?_ | refine JE.next ?_)
      refine JC.cond rfl (fun _ => ?_) (fun h => by cases h)
      repeat (first | refine JL.q (by first | (apply ro_fld0; exact rfl) | (apply OQ.load; exact strC; exact rfl; exact .here; exact (Row.cell (v := Z (encN.getD i [])) rfl)) | (apply OQ.assign; exact rfl)) rfl ?_ | refine JC.seq ?_ | refine JC.region ?_ | refine JL.nil ?_ | refine JE.next ?_)
      refine JC.ret ?_
      repeat (first | refine JE.then_ret ?_ | refine JE.blk_ret ?_)
      exact JE.ret2 rfl (RV.tmp rfl) (RV.tmp rfl) fun w' hw => ⟨rfl, hw.chg⟩
  · have hi' : ¬ i < 6 := of_decide_eq_false h
    obtain rfl : i = 6 := by omega
    rw [nam_miss hno]
    repeat (first | refine JL.q (by (apply OQ.assign; exact rfl)) rfl ?_ | refine JC.seq ?_ | refine JC.region ?_ | refine JC.exit ?_ | refine JL.nil ?_ | refine JE.next ?_ | refine JE.then_exit ?_ | refine JE.blk_hit ?_)
    exact JC.ret (JE.ret2 rfl (RV.tmp rfl) (RV.tmp rfl) fun w' hw => ⟨rfl, hw.chg⟩)
theorem hasp_any (k : List Bt) (v1 v2 v3 v4 : Value) (h1 : v1.cells = #[v1]) (w : World) : Calls Tryz.prog 84 [.agg #[Z k, v1, v2, v3, v4]].toArray w fun e w' => e = .returned (.bool (multiB k)) ∧ Ext w w' := by
  refine enter (n := 6) Tryz.func84 rfl rfl rfl (Holds.start w []) ?_
  refine JC.seq (JC.region (JL.box (r := [Z k, v1, v2, v3, v4]) rfl rfl rfl fun b _ => ?_))
  have hq := fun w' => shpx_any k multiN w'
  have e10 : decide (k.take multiN.length = multiN) = multiB k := rfl
  rw [e10] at hq
  repeat (first | refine JL.q (by first | (apply OQ.load; exact strC; exact rfl; exact .here; exact (Row.cell (v := Z k) rfl)) | (apply OQ.callx (vs := [Z k, Z multiN]); exact goes_shpx; exact rfl; exact (fun w' _ => hq w')) | (apply OQ.assign; exact rfl) | (apply OQ.fld; exact rfl; exact rfl; exact rfl; exact (by decide); exact rfl)) rfl ?_ | refine JC.seq ?_ | refine JC.region ?_ | refine JL.nil ?_ | refine JE.next ?_)
  exact JC.ret (JE.ret1 rfl (RV.tmp rfl) fun w' hw => ⟨rfl, hw.chg⟩)
theorem par_step {l : List PrB} {i : Nat} (hi : i < l.length) (hno : ∀ j, j < i → ¬ (l.getD j ([], [])).1 = bdN) (h : (l.getD i ([], [])).1 = bdN) : parB l bdN = (l.getD i ([], [])).2 := by
  induction l generalizing i with
  | nil => simp at hi
  | cons p l ih =>
    cases i with
    | zero =>
      unfold parB
      rw [List.find?_cons_of_pos (by simpa using h)]
      rfl
    | succ i =>
      have h0 : ¬ p.1 = bdN := hno 0 (by omega)
      have := ih (i := i) (by simpa using hi) (fun j hj => by simpa using hno (j + 1) (by omega)) (by simpa using h)
      unfold parB at this ⊢
      rw [List.find?_cons_of_neg (by simpa using h0), this]
      simp
theorem par_none {l : List PrB} (hno : ∀ j, j < l.length → ¬ (l.getD j ([], [])).1 = bdN) : parB l bdN = [] := by
  have : l.find? (fun p => decide (p.1 = bdN)) = none := by
    rw [List.find?_eq_none]
    intro p hp
    obtain ⟨j, hj, rfl⟩ := List.getElem_of_mem hp
    have := hno j hj
    rw [List.getD_eq_getElem?_getD, List.getElem?_eq_getElem hj] at this
    simpa using this
  unfold parB
  rw [this]
  rfl
set_option maxHeartbeats 16000000 in
theorem bof_any (k : List Bt) (ps : Sl2) (v2 v3 v4 : Value) (w : World) (hp : ps.ok w) (hl : ps.l.length < 9223372036854775807) : Calls Tryz.prog 103 [.agg #[Z k, ps.v, v2, v3, v4]].toArray w fun e w' => e = .returned (Z (parB ps.l bdN)) ∧ Ext w w' := by
  refine enter (n := 18) Tryz.func103 rfl rfl rfl (Holds.start w []) ?_
  refine JC.seq (JC.region (JL.box (r := [Z k, ps.v, v2, v3, v4]) rfl rfl rfl fun b _ => ?_))
  repeat (first | refine JL.q (by first | (apply OQ.load; exact prC; exact rfl; exact .here; exact (Row.cell (v := ps.v) rfl)) | (apply OQ.len; exact Tryz.underlying56; exact rfl) | (apply OQ.move; exact rfl) | (apply OQ.assign; exact rfl) | (apply OQ.fld; exact rfl; exact rfl; exact rfl; exact (by decide); exact rfl)) rfl ?_ | refine JC.seq ?_ | refine JC.region ?_ | refine JC.block ?_ | refine JL.nil ?_ | refine JE.next ?_)
  refine JC.loop (fun i : Nat => [(6, ps.v), (7, N ps.l.length), (8, N i)]) (fun _ => []) (fun i => ps.l.length - i) (fun i => i ≤ ps.l.length ∧ ∀ j, j < i → ¬ (ps.l.getD j ([], [])).1 = bdN) 0 ⟨Nat.zero_le _, fun j hj => by omega⟩ (by repeat (first | exact SubE.nil | refine SubE.cons _ _ _ rfl ?_)) (.nil _) ?_
  rintro i ⟨hi, hno⟩
  repeat (first | refine JL.q (by (apply OQ.lssN; exact rfl; exact rfl)) rfl ?_ | refine JC.seq ?_ | refine JC.region ?_ | refine JL.nil ?_ | refine JE.next ?_)
  refine JC.cond rfl (fun h => ?_) (fun h => ?_)
  · have hi' : i < ps.l.length := of_decide_eq_true h
    clear h hi
    obtain ⟨ba, ja, eA, la, ca1, ca2⟩ := hp.at hi'
    have vA : ps.v = .slice (some ⟨ba, ja, none⟩) ps.l.length ps.cap := by rw [← eA]; rfl
    have hstep := fun h => par_step hi' hno h
    have hnext : ¬ (ps.l.getD i ([], [])).1 = bdN → ∀ j, j < i + 1 → ¬ (ps.l.getD j ([], [])).1 = bdN := fun h j hj => by
      by_cases e : j = i
      · subst e; exact h
      · exact hno j (by omega)
    generalize ps.l.getD i ([], []) = pr at ca1 ca2 hstep hnext
    have hcs : ∀ k' u, ([Z pr.1, Z pr.2] : List Value)[k']? = some u → w.cell? ⟨ba, ja + i * 2 + k', none⟩ = some u := fun k' u hu => by
      match k', hu with
      | 0, hu => cases hu; exact ca1
      | 1, hu => cases hu; exact ca2
      | k' + 2, hu => simp at hu
    rw [vA]
    repeat (first | refine JL.q (by first | (apply OQ.idxS; exact Tryz.underlying56; exact paS; exact rfl; exact rfl; exact hi') | (apply OQ.load_agg_old (cs := [Z pr.1, Z pr.2]); exact paA; exact rfl; exact paS; exact la; exact (by simp); exact hcs)) rfl ?_ | refine JC.seq ?_ | refine JC.region ?_ | refine JC.block ?_ | refine JC.skip ?_ | refine JE.next ?_)
    refine JL.alloc paZ rfl fun b4 _ => ?_
    refine JL.store_all (cs := [Z pr.1, Z pr.2]) paS rfl rfl rfl rfl .here rfl ?_
    cases hb : decide (pr.1 = bdN)
    · repeat (first | refine JL.q (by first | (apply OQ.load; exact strC; exact rfl; exact .here; exact (Row.cell (v := Z pr.1) rfl)) | (apply OQ.eqSB (l := pr.1) (r := bdN); exact rfl; exact rfl; exact hb) | (apply OQ.fld; exact rfl; exact rfl; exact rfl; exact (by decide); exact rfl)) rfl ?_ | refine JC.seq ?_ | refine JC.region ?_ | refine JL.nil ?_ | refine JE.next ?_)
      refine JC.cond rfl (fun h => by cases h) (fun _ => ?_)
      repeat (first | refine JL.q (by first | (apply OQ.move; exact rfl) | (apply OQ.addN; exact rfl; exact rfl; exact (by (try simp only []); omega))) rfl ?_ | refine JC.region ?_ | refine JC.skip ?_ | refine JL.nil ?_ | refine JE.next ?_ | refine JE.blk_normal ?_)
      rw [← vA]
      exact JE.again (i := i) (i + 1) ⟨hi', hnext (of_decide_eq_false hb)⟩ (by omega) (by repeat (first | exact SubE.nil | refine SubE.cons _ _ _ rfl ?_)) (.nil _)
    · rw [hstep (of_decide_eq_true hb)]
      repeat (first | refine JL.q (by first | (apply OQ.load; exact strC; exact rfl; exact .here; exact (Row.cell (v := Z pr.1) rfl)) | (apply OQ.eqSB (l := pr.1) (r := bdN); exact rfl; exact rfl; exact hb) | (apply OQ.fld; exact rfl; exact rfl; exact rfl; exact (by decide); exact rfl)) rfl ?_ | refine JC.seq ?_ | refine JC.region ?_ | refine JL.nil ?_ | refine JE.next ?_)
      refine JC.cond rfl (fun _ => ?_) (fun h => by cases h)
      repeat (first | refine JL.q (by first | (apply OQ.load; exact strC; exact rfl; exact .here; exact (Row.cell (v := Z pr.2) rfl)) | (apply OQ.assign; exact rfl) | (apply OQ.fld; exact rfl; exact rfl; exact rfl; exact (by decide); exact rfl)) rfl ?_ | refine JC.seq ?_ | refine JC.region ?_ | refine JL.nil ?_ | refine JE.next ?_)
      refine JC.ret ?_
      repeat (first | refine JE.then_ret ?_ | refine JE.blk_ret ?_)
      exact JE.ret1 rfl (RV.tmp rfl) fun w' hw => ⟨rfl, hw.chg⟩
  · have hi' : ¬ i < ps.l.length := of_decide_eq_false h
    obtain rfl : i = ps.l.length := by omega
    rw [par_none hno]
    repeat (first | refine JL.q (by (apply OQ.assign; exact rfl)) rfl ?_ | refine JC.seq ?_ | refine JC.region ?_ | refine JC.exit ?_ | refine JL.nil ?_ | refine JE.next ?_ | refine JE.then_exit ?_ | refine JE.blk_hit ?_)
    exact JC.ret (JE.ret1 rfl (RV.tmp rfl) fun w' hw => ⟨rfl, hw.chg⟩)
end Go.Proofs.YtdabhneehconeaaGreatDoor

/-
  Of no statement by itself: envelopes in memory; what despatchlaw13's great gives; what the landed pack's isAddress, mayBeId and findingsOf give.
  Conditions: each theorem's own.
-/
namespace Go.Proofs.YtdabhneehconeaaGreatDoor
set_option maxRecDepth 10000
open Sl Fld Tok Mim Pck
/-- an envelope in memory -/
structure EnS where
  fr : List Bt
  to : List Bt
  id : List Bt
  th : List Bt
  pl : Bool
  bu : Sl8
  ci : Sl8
def EnS.cs (e : EnS) : List Value := [Z e.fr, Z e.to, Z e.id, Z e.th, .bool e.pl, e.bu.v, e.ci.v]
def EnS.en (e : EnS) : Evp := ⟨e.fr, e.to, e.id, e.th, e.pl, e.bu.l, e.ci.l⟩
structure EnS.ok (w : World) (e : EnS) : Prop where
  bu : e.bu.ok w
  ci : e.ci.ok w
theorem EnS.ok.holds {w0 w : World} {M : List Ent} {e : EnS} (h : e.ok w0) (hw : Holds w0 [] M w) : e.ok w := ⟨h.bu.holds hw rfl, h.ci.holds hw rfl⟩
structure EnS.low (e : EnS) : Prop where
  fr : e.fr.length ≤ 300
  to : e.to.length ≤ 300
  id : e.id.length ≤ 300
  th : e.th.length ≤ 300
  ci : e.ci.l.length ≤ 3000
  bu : e.bu.l.length ≤ 4000
theorem enA : aggT Tryz.prog 24 = true := by kernel_rfl
theorem enZ : szT Tryz.prog 24 = some 7 := by kernel_rfl
theorem en0 : zc Tryz.prog 24 = some [Z [], Z [], Z [], Z [], .bool false, nilS.v, nilS.v] := by kernel_rfl
theorem boCp : scal Tryz.prog 4 = true := by kernel_rfl
theorem bsCP : scal Tryz.prog 22 = true := by kernel_rfl
theorem goes_great13 : Goes Tryz.prog 7 := ⟨_, Tryz.func7, rfl, by kernel_rfl⟩
def greatE (e : EnS) : Bool := decide (300 < e.fr.length) || (decide (300 < e.to.length) || (decide (300 < e.id.length) || (decide (300 < e.th.length) || (decide (3000 < e.ci.l.length) || decide (4000 < e.bu.l.length)))))
theorem greatE_no {e : EnS} (h : greatE e = false) : e.low := by
  simp only [greatE, Bool.or_eq_false_iff, decide_eq_false_iff_not] at h
  exact ⟨by omega, by omega, by omega, by omega, by omega, by omega⟩
set_option maxHeartbeats 8000000 in
theorem great13_any (e : EnS) (w : World) : Calls Tryz.prog 7 [.agg e.cs.toArray].toArray w fun x w' => x = .returned (.bool (greatE e)) ∧ Ext w w' := by
  refine enter (n := 37) Tryz.func7 rfl rfl rfl (Holds.start w []) ?_
  refine JC.seq (JC.region (JL.box (r := e.cs) rfl rfl rfl fun b1 _ => ?_))
  unfold greatE
  have i0 : decide ((300 : Int) < (e.fr.length : Int)) = decide (300 < e.fr.length) := by simp only [Int.ofNat_lt, show (300 : Int) = ((300 : Nat) : Int) from rfl]
  have i1 : decide ((300 : Int) < (e.to.length : Int)) = decide (300 < e.to.length) := by simp only [Int.ofNat_lt, show (300 : Int) = ((300 : Nat) : Int) from rfl]
  have i2 : decide ((300 : Int) < (e.id.length : Int)) = decide (300 < e.id.length) := by simp only [Int.ofNat_lt, show (300 : Int) = ((300 : Nat) : Int) from rfl]
  have i3 : decide ((300 : Int) < (e.th.length : Int)) = decide (300 < e.th.length) := by simp only [Int.ofNat_lt, show (300 : Int) = ((300 : Nat) : Int) from rfl]
  have i4 : decide ((3000 : Int) < (e.ci.l.length : Int)) = decide (3000 < e.ci.l.length) := by simp only [Int.ofNat_lt, show (3000 : Int) = ((3000 : Nat) : Int) from rfl]
  have i5 : decide ((4000 : Int) < (e.bu.l.length : Int)) = decide (4000 < e.bu.l.length) := by simp only [Int.ofNat_lt, show (4000 : Int) = ((4000 : Nat) : Int) from rfl]
  rw [← i0, ← i1, ← i2, ← i3, ← i4, ← i5]
  clear i0 i1 i2 i3 i4 i5
  cases g0 : decide ((300 : Int) < (e.fr.length : Int))
  cases g1 : decide ((300 : Int) < (e.to.length : Int))
  cases g2 : decide ((300 : Int) < (e.id.length : Int))
  cases g3 : decide ((300 : Int) < (e.th.length : Int))
  cases g4 : decide ((3000 : Int) < (e.ci.l.length : Int))
  cases g5 : decide ((4000 : Int) < (e.bu.l.length : Int))
  all_goals (repeat (first | refine JL.q (by first | (apply OQ.load; exact strC; exact rfl; exact .here; exact (Row.cell (v := Z e.fr) rfl)) | (apply OQ.load; exact strC; exact rfl; exact .here; exact (Row.cell (v := Z e.to) rfl)) | (apply OQ.load; exact strC; exact rfl; exact .here; exact (Row.cell (v := Z e.id) rfl)) | (apply OQ.load; exact strC; exact rfl; exact .here; exact (Row.cell (v := Z e.th) rfl)) | (apply OQ.load; exact bsCP; exact rfl; exact .here; exact (Row.cell (v := e.ci.v) rfl)) | (apply OQ.load; exact bsCP; exact rfl; exact .here; exact (Row.cell (v := e.bu.v) rfl)) | (apply OQ.lenS; exact Tryz.underlying9; exact rfl) | (apply OQ.len; exact Tryz.underlying22; exact rfl) | (apply OQ.gtrB (a := (e.fr.length : Int)) (b := 300); exact rfl; exact rfl; exact g0) | (apply OQ.gtrB (a := (e.to.length : Int)) (b := 300); exact rfl; exact rfl; exact g1) | (apply OQ.gtrB (a := (e.id.length : Int)) (b := 300); exact rfl; exact rfl; exact g2) | (apply OQ.gtrB (a := (e.th.length : Int)) (b := 300); exact rfl; exact rfl; exact g3) | (apply OQ.gtrB (a := (e.ci.l.length : Int)) (b := 3000); exact rfl; exact rfl; exact g4) | (apply OQ.gtrB (a := (e.bu.l.length : Int)) (b := 4000); exact rfl; exact rfl; exact g5) | (apply OQ.pick_t; exact rfl; exact rfl) | (apply OQ.pick_f; exact rfl; exact rfl) | (apply OQ.move; exact rfl) | (apply OQ.assign; exact rfl) | (apply OQ.fld; exact rfl; exact rfl; exact rfl; exact (by decide); exact rfl)) rfl ?_ | refine JC.seq ?_ | refine JC.region ?_ | refine JL.nil ?_ | refine JE.next ?_ | refine JL.gon rfl rfl ?_ | refine JL.gskip rfl rfl rfl rfl ?_))
  all_goals refine JC.ret ?_
  all_goals (skip)
  all_goals exact JE.ret1 rfl (RV.tmp rfl) fun w' hw => ⟨rfl, hw.chg⟩
end Go.Proofs.YtdabhneehconeaaGreatDoor

/-
  Of no statement by itself: what the landed pack's isAddress, mayBeId and findingsOf give; the variable allRight.
  Conditions: each theorem's own.
-/
namespace Go.Proofs.YtdabhneehconeaaGreatDoor
set_option maxRecDepth 10000
open Sl Fld Tok Mim Pck
theorem goes_isad : Goes Tryz.prog 45 := ⟨_, Tryz.func45, rfl, by kernel_rfl⟩
theorem goes_maid : Goes Tryz.prog 46 := ⟨_, Tryz.func46, rfl, by kernel_rfl⟩
theorem goes_maid1 : Goes Tryz.prog 81 := ⟨_, Tryz.func81, rfl, by kernel_rfl⟩
theorem goes_cont8 : Goes Tryz.prog 80 := ⟨_, Tryz.func80, rfl, by kernel_rfl⟩
theorem goes_ixf8 : Goes Tryz.prog 126 := ⟨_, Tryz.func126, rfl, by kernel_rfl⟩
theorem goes_find : Goes Tryz.prog 24 := ⟨_, Tryz.func24, rfl, by kernel_rfl⟩
theorem mixP : Tryz.prog.follows .mixedOrders = true := by kernel_rfl
def nin : List Fld.By := [60, 62, 40, 41, 34, 92]
def badL (c : Fld.By) : Bool := (decide ((c.toNat : Int) < 33) || decide ((126 : Int) < (c.toNat : Int))) || decide ((0 : Int) ≤ ixC c nin)
theorem badL_is (c : Fld.By) : badL c = !idok c := by
  have h : ∀ c : Fin 256, badL (BitVec.ofNat 8 c.val) = !idok (BitVec.ofNat 8 c.val) := by decide +kernel
  simpa using h ⟨c.toNat, c.isLt⟩
set_option maxHeartbeats 8000000 in
theorem maid1_any (c : Bt) (w : World) : Calls Tryz.prog 81 [U8 c].toArray w fun e w' => e = .returned (.bool (badL c)) ∧ Ext w w' := by
  refine enter (n := 14) Tryz.func81 rfl rfl rfl (Holds.start w []) ?_
  have ci := fun w' => idxb_any nin c w'
  unfold badL
  cases h1 : decide ((c.toNat : Int) < 33)
  cases h2 : decide ((126 : Int) < (c.toNat : Int))
  cases h3 : decide ((0 : Int) ≤ ixC c nin)
  all_goals (repeat (first | refine JL.q (by first | (apply OQ.lssB (b := 33); exact rfl; exact rfl; exact h1) | (apply OQ.gtrB (b := 126); exact rfl; exact rfl; exact h2) | (apply OQ.callx (vs := [Z nin, U8 c]); exact goes_idxb; exact rfl; exact (fun w' _ => ci w')) | (apply OQ.geqB (b := 0); exact rfl; exact rfl; exact h3) | (apply OQ.pick_t; exact rfl; exact rfl) | (apply OQ.pick_f; exact rfl; exact rfl) | (apply OQ.move; exact rfl) | (apply OQ.assign; exact rfl)) rfl ?_ | refine JC.seq ?_ | refine JC.region ?_ | refine JL.nil ?_ | refine JE.next ?_ | refine JL.gon rfl rfl ?_ | refine JL.gskip rfl rfl rfl rfl ?_))
  all_goals exact JC.ret (JE.ret1 rfl (RV.tmp rfl) fun w' hw => ⟨rfl, hw.chg⟩)
abbrev maidV : Value := .func (.func 81) #[] ([] : List Value).toArray
theorem fun_maid (w : World) : Fun8 Tryz.prog w maidV badL := ⟨81, [], rfl, goes_maid1, fun c w' _ => maid1_any c w'⟩
/-! ### package slices at bytes -/
def ix8 (p : Fld.By → Bool) (l : List Fld.By) : Int := if (l.takeWhile fun c => !p c).length < l.length then ((l.takeWhile fun c => !p c).length : Int) else -1
theorem tw_cons (p : Fld.By → Bool) (c : Fld.By) (l : List Fld.By) : ((c :: l).takeWhile fun c => !p c) = if p c then [] else c :: (l.takeWhile fun c => !p c) := by
  rw [List.takeWhile_cons]
  cases p c <;> rfl
theorem tw_self (p : Fld.By → Bool) : ∀ {l : List Fld.By}, l.all (fun c => !p c) = true ↔ (l.takeWhile fun c => !p c) = l
  | [] => by simp
  | c :: l => by
    rw [tw_cons, List.all_cons]
    cases p c with
    | true => simp
    | false => simp only [Bool.not_false, Bool.true_and, Bool.false_eq_true, if_false, List.cons.injEq, true_and]; exact tw_self p
theorem ix8_hit (p : Fld.By → Bool) : ∀ (l : List Fld.By) (i : Nat), i < l.length → (l.take i).all (fun c => !p c) = true → p (l.getD i 0) = true → ix8 p l = (i : Int) := by
  have key : ∀ (l : List Fld.By) (i : Nat), i < l.length → (l.take i).all (fun c => !p c) = true → p (l.getD i 0) = true → (l.takeWhile fun c => !p c).length = i := by
    intro l
    induction l with
    | nil => intro i h; simp at h
    | cons c l ih =>
      intro i h h1 h2
      cases i with
      | zero =>
        have : p c = true := h2
        rw [tw_cons, this]
        rfl
      | succ i =>
        rw [List.take_succ_cons, List.all_cons, Bool.and_eq_true] at h1
        rw [tw_cons, show p c = false by simpa using h1.1]
        show ((l.takeWhile fun c => !p c).length + 1) = _
        rw [ih i (by simpa using h) h1.2 h2]
  intro l i h h1 h2
  unfold ix8
  rw [key l i h h1 h2, if_pos h]
theorem ix8_no (p : Fld.By → Bool) {l : List Fld.By} (h : l.all (fun c => !p c) = true) : ix8 p l = -1 := by
  unfold ix8
  rw [if_neg]
  rw [(tw_self p).1 h]
  omega
theorem ix8_all (p : Fld.By → Bool) (l : List Fld.By) : decide ((0 : Int) ≤ ix8 p l) = !(l.all fun c => !p c) := by
  cases h : l.all fun c => !p c with
  | true => rw [ix8_no p h]; rfl
  | false =>
    unfold ix8
    rw [if_pos]
    · exact decide_eq_true (by omega)
    · have hle : (l.takeWhile fun c => !p c).length ≤ l.length := (List.takeWhile_prefix _).length_le
      refine Nat.lt_of_le_of_ne hle fun e => ?_
      have : (l.takeWhile fun c => !p c) = l := (List.takeWhile_prefix _).eq_of_length e
      have h2 : l.all (fun c => !p c) = true := (tw_self p).2 this
      rw [h] at h2
      cases h2
set_option maxHeartbeats 8000000 in
theorem ixf8_any (s : Sl8) (fv : Value) (p : Fld.By → Bool) (w : World) (hs : s.ok w) (hF : Fun8 Tryz.prog w fv p) (hl : s.l.length < 9223372036854775807) :
    Calls Tryz.prog 126 [s.v, fv].toArray w fun e w' => e = .returned (.int .i64 (ix8 p s.l)) ∧ Ext w w' := by
  refine enter (n := 19) Tryz.func126 rfl rfl rfl (Holds.start w []) ?_
  repeat (first | refine JL.q (by first | (apply OQ.len; exact Tryz.underlying22; exact rfl) | (apply OQ.move; exact rfl) | (apply OQ.assign; exact rfl)) rfl ?_ | refine JC.seq ?_ | refine JC.region ?_ | refine JC.block ?_ | refine JL.nil ?_ | refine JE.next ?_)
  refine JC.loop (fun i : Nat => [(0, s.v), (1, fv), (7, N s.l.length), (8, N i)]) (fun _ => []) (fun i => s.l.length - i) (fun i => i ≤ s.l.length ∧ (s.l.take i).all (fun c => !p c) = true) 0 ⟨Nat.zero_le _, rfl⟩ (by repeat (first | exact SubE.nil | refine SubE.cons _ _ _ rfl ?_)) (Less.refl _) ?_
  rintro i ⟨hi, hp⟩
  repeat (first | refine JL.q (by (apply OQ.lssN; exact rfl; exact rfl)) rfl ?_ | refine JC.seq ?_ | refine JC.region ?_ | refine JL.nil ?_ | refine JE.next ?_)
  refine JC.cond rfl (fun h => ?_) (fun h => ?_)
  · have hi' : i < s.l.length := of_decide_eq_true h
    clear h hi
    obtain ⟨ba, ja, hae, hca⟩ := hs.reads.at (by simp; omega)
    have hc := hca i _ (map_at U8 0 hi')
    have vA : s.v = .slice (some ⟨ba, ja, none⟩) s.l.length s.cap := by rw [← hae]; rfl
    have hall := all_take (fun c => !p c) s.l 0 hi'
    have hhit := ix8_hit p s.l i hi' hp
    rw [hp, Bool.true_and] at hall
    generalize s.l.getD i 0 = c at hc hall hhit
    rw [vA]
    cases h1 : p c
    · rw [h1] at hall
      repeat (first | refine JL.q (by first | (apply OQ.idxS1; exact Tryz.underlying22; exact u8s; exact rfl; exact rfl; exact hi') | (apply OQ.load_old; exact u8c; exact rfl; exact (block_lt_of_cell hc); exact (by simp); exact hc) | (apply OQ.callF; exact hF; exact rfl; exact rfl; exact h1) | (apply OQ.move; exact rfl) | (apply OQ.assign; exact rfl)) rfl ?_ | refine JC.seq ?_ | refine JC.region ?_ | refine JC.block ?_ | refine JC.skip ?_ | refine JL.nil ?_ | refine JE.next ?_)
      refine JC.cond rfl (fun h => by cases h) (fun _ => ?_)
      repeat (first | refine JL.q (by first | (apply OQ.move; exact rfl) | (apply OQ.addN; exact rfl; exact rfl; exact (by (try simp only []); omega))) rfl ?_ | refine JC.region ?_ | refine JC.skip ?_ | refine JL.nil ?_ | refine JE.next ?_ | refine JE.blk_normal ?_)
      rw [← vA]
      exact JE.again (i := i) (i + 1) ⟨hi', hall⟩ (by omega) (by repeat (first | exact SubE.nil | refine SubE.cons _ _ _ rfl ?_)) (Less.refl _)
    · rw [hhit h1]
      repeat (first | refine JL.q (by first | (apply OQ.idxS1; exact Tryz.underlying22; exact u8s; exact rfl; exact rfl; exact hi') | (apply OQ.load_old; exact u8c; exact rfl; exact (block_lt_of_cell hc); exact (by simp); exact hc) | (apply OQ.callF; exact hF; exact rfl; exact rfl; exact h1) | (apply OQ.move; exact rfl) | (apply OQ.assign; exact rfl)) rfl ?_ | refine JC.seq ?_ | refine JC.region ?_ | refine JC.block ?_ | refine JC.skip ?_ | refine JL.nil ?_ | refine JE.next ?_)
      refine JC.cond rfl (fun _ => ?_) (fun h => by cases h)
      repeat (first | refine JL.q (by first | (apply OQ.move; exact rfl) | (apply OQ.assign; exact rfl)) rfl ?_ | refine JC.seq ?_ | refine JC.region ?_ | refine JL.nil ?_ | refine JE.next ?_)
      refine JC.ret ?_
      repeat (first | refine JE.then_ret ?_ | refine JE.blk_ret ?_)
      exact JE.ret1 rfl (RV.tmp rfl) fun w' hw => ⟨rfl, hw.chg⟩
  · have hi' : ¬ i < s.l.length := of_decide_eq_false h
    clear h
    rw [List.take_of_length_le (by omega)] at hp
    rw [ix8_no p hp]
    repeat (first | refine JL.q (by (apply OQ.assign; exact rfl)) rfl ?_ | refine JC.seq ?_ | refine JC.region ?_ | refine JC.exit ?_ | refine JL.nil ?_ | refine JE.next ?_ | refine JE.then_exit ?_ | refine JE.blk_hit ?_)
    refine JC.ret ?_
    skip
    exact JE.ret1 rfl (RV.tmp rfl) fun w' hw => ⟨rfl, hw.chg⟩
theorem cont8_any (s : Sl8) (fv : Value) (p : Fld.By → Bool) (w : World) (hs : s.ok w) (hF : Fun8 Tryz.prog w fv p) (hl : s.l.length < 9223372036854775807) :
    Calls Tryz.prog 80 [s.v, fv].toArray w fun e w' => e = .returned (.bool (!(s.l.all fun c => !p c))) ∧ Ext w w' := by
  refine enter (n := 9) Tryz.func80 rfl rfl rfl (Holds.start w []) ?_
  have hi := ix8_all p s.l
  repeat (first | refine JL.q (by first | (apply OQ.callx (vs := [s.v, fv]); exact goes_ixf8; exact rfl; exact (fun w' hw' => ixf8_any s fv p w' (hs.holds hw' rfl) (hF.holds hw') hl)) | (apply OQ.geqB (a := ix8 p s.l) (b := 0); exact rfl; exact rfl; exact hi) | (apply OQ.move; exact rfl) | (apply OQ.assign; exact rfl)) rfl ?_ | refine JC.seq ?_ | refine JC.region ?_ | refine JL.nil ?_ | refine JE.next ?_)
  refine JC.ret ?_
  skip
  exact JE.ret1 rfl (RV.tmp rfl) fun w' hw => ⟨rfl, hw.chg⟩
/-! ### ids and addresses -/
set_option maxHeartbeats 8000000 in
theorem maid_any (s : List Bt) (w : World) : Calls Tryz.prog 46 [Z s].toArray w fun e w' => e = .returned (.bool (idB s)) ∧ Ext w w' := by
  refine enter (n := 14) Tryz.func46 rfl rfl rfl (Holds.start w []) ?_
  cases h1 : decide (s = [])
  cases h2 : decide ((200 : Int) < (s.length : Int))
  rotate_left
  · have hF : idB s = false := by
      unfold idB
      rw [decide_eq_false (p := s.length ≤ 200) (by have := of_decide_eq_true h2; omega), Bool.and_false, Bool.and_false]
    rw [hF]
    repeat (first | refine JL.q (by first | (apply OQ.eqSB (r := []); exact rfl; exact rfl; exact h1) | (apply OQ.lenS; exact Tryz.underlying9; exact rfl) | (apply OQ.gtrB (b := 200); exact rfl; exact rfl; exact h2) | (apply OQ.pick_f; exact rfl; exact rfl) | (apply OQ.move; exact rfl) | (apply OQ.assign; exact rfl)) rfl ?_ | refine JC.seq ?_ | refine JC.region ?_ | refine JL.nil ?_ | refine JE.next ?_ | refine JL.gon rfl rfl ?_)
    refine JC.cond rfl (fun _ => ?_) (fun h => by cases h)
    repeat (first | refine JL.q (by (apply OQ.assign; exact rfl)) rfl ?_ | refine JC.seq ?_ | refine JC.region ?_ | refine JL.nil ?_ | refine JE.next ?_)
    refine JC.ret ?_
    repeat (refine JE.then_ret ?_)
    exact JE.ret1 rfl (RV.tmp rfl) fun w' hw => ⟨rfl, hw.chg⟩
  · have hF : idB s = false := by
      rw [of_decide_eq_true h1]
      rfl
    rw [hF]
    repeat (first | refine JL.q (by first | (apply OQ.eqSB (r := []); exact rfl; exact rfl; exact h1) | (apply OQ.pick_t; exact rfl; exact rfl) | (apply OQ.move; exact rfl) | (apply OQ.assign; exact rfl)) rfl ?_ | refine JC.seq ?_ | refine JC.region ?_ | refine JL.nil ?_ | refine JE.next ?_ | refine JL.gskip rfl rfl rfl rfl ?_)
    refine JC.cond rfl (fun _ => ?_) (fun h => by cases h)
    repeat (first | refine JL.q (by (apply OQ.assign; exact rfl)) rfl ?_ | refine JC.seq ?_ | refine JC.region ?_ | refine JL.nil ?_ | refine JE.next ?_)
    refine JC.ret ?_
    repeat (refine JE.then_ret ?_)
    exact JE.ret1 rfl (RV.tmp rfl) fun w' hw => ⟨rfl, hw.chg⟩
  · have h20 : s.length ≤ 200 := by have := of_decide_eq_false h2; omega
    have hne : s ≠ [] := of_decide_eq_false h1
    have hI : idB s = s.all idok := by
      unfold idB
      rw [decide_eq_true (p := 1 ≤ s.length) (by have := List.length_pos_iff.2 hne; omega), decide_eq_true h20]
      simp
    have hA : (!(!(s.all fun c => !badL c))) = idB s := by
      rw [hI, Bool.not_not]
      congr 1
      funext c
      rw [badL_is, Bool.not_not]
    rw [← hA]
    repeat (first | refine JL.q (by first | (apply OQ.eqSB (r := []); exact rfl; exact rfl; exact h1) | (apply OQ.lenS; exact Tryz.underlying9; exact rfl) | (apply OQ.gtrB (b := 200); exact rfl; exact rfl; exact h2) | (apply OQ.pick_f; exact rfl; exact rfl) | (apply OQ.move; exact rfl) | (apply OQ.assign; exact rfl)) rfl ?_ | refine JC.seq ?_ | refine JC.region ?_ | refine JL.nil ?_ | refine JE.next ?_ | refine JL.gon rfl rfl ?_)
    refine JC.cond rfl (fun h => by cases h) (fun _ => ?_)
    repeat (first | refine JL.q (by (apply OQ.move; exact rfl)) rfl ?_ | refine JC.seq ?_ | refine JC.region ?_ | refine JC.skip ?_ | refine JE.next ?_)
    refine JL.s2b Tryz.underlying9 Tryz.underlying22 Tryz.underlying5 rfl rfl fun b1 cap1 => ?_
    rw [bytesOf_strB]
    repeat (first | refine JL.q (by first | (apply OQ.callx (vs := [Sl8.v ⟨some ⟨b1, 0, none⟩, cap1, s⟩, maidV]); exact goes_cont8; exact rfl; exact (fun w' hw' => cont8_any ⟨some ⟨b1, 0, none⟩, cap1, s⟩ maidV badL w' (Sl8.ents_ok hw' nofun) (fun_maid w') (by show s.length < _; omega))) | (apply OQ.not; exact rfl) | (apply OQ.assign; exact rfl)) rfl ?_ | refine JL.nil ?_ | refine JE.next ?_)
    refine JC.ret ?_
    skip
    exact JE.ret1 rfl (RV.tmp rfl) fun w' hw => ⟨rfl, hw.chg⟩
set_option maxHeartbeats 8000000 in
theorem isad_any (s : List Bt) (w : World) (hl : s.length < 1000000) : Calls Tryz.prog 45 [Z s].toArray w fun e w' => e = .returned (.bool (adB s)) ∧ Ext w w' := by
  refine enter (n := 17) Tryz.func45 rfl rfl rfl (Holds.start w []) ?_
  have ca := fun w' => addrA_any s w' hl
  unfold adB
  generalize (addrB s).1 = a at ca ⊢
  generalize (addrB s).2 = k at ca ⊢
  have ik : decide ((k : Int) = 0) = decide (k = 0) := decide_eq_decide.2 (by omega)
  rw [← ik]
  cases h1 : decide ((k : Int) = 0)
  case true =>
    cases h2 : decide (a = s)
    all_goals (repeat (first | refine JL.q (by first | (apply OQ.callx (vs := [Z s]); exact goes_addrA; exact rfl; exact (fun w' _ => ca w')) | (apply OQ.extract; exact rfl; exact rfl) | (apply OQ.eqB (a := (k : Int)) (b := 0); exact rfl; exact rfl; exact h1) | (apply OQ.eqSB (l := a) (r := s); exact rfl; exact rfl; exact h2) | (apply OQ.pick_t; exact rfl; exact rfl) | (apply OQ.move; exact rfl) | (apply OQ.assign; exact rfl)) rfl ?_ | refine JC.seq ?_ | refine JC.region ?_ | refine JL.nil ?_ | refine JE.next ?_ | refine JL.gon rfl rfl ?_))
    all_goals refine JC.ret ?_
    all_goals (skip)
    all_goals exact JE.ret1 rfl (RV.tmp rfl) fun w' hw => ⟨rfl, hw.chg⟩
  repeat (first | refine JL.q (by first | (apply OQ.callx (vs := [Z s]); exact goes_addrA; exact rfl; exact (fun w' _ => ca w')) | (apply OQ.extract; exact rfl; exact rfl) | (apply OQ.eqB (a := (k : Int)) (b := 0); exact rfl; exact rfl; exact h1) | (apply OQ.pick_f; exact rfl; exact rfl) | (apply OQ.move; exact rfl) | (apply OQ.assign; exact rfl)) rfl ?_ | refine JC.seq ?_ | refine JC.region ?_ | refine JL.nil ?_ | refine JE.next ?_ | refine JL.gskip rfl rfl rfl rfl ?_)
  refine JC.ret ?_
  skip
  exact JE.ret1 rfl (RV.tmp rfl) fun w' hw => ⟨rfl, hw.chg⟩
/-! ### findings -/
def fiV (a b c d f : Bool) : List Value := [.bool a, .bool b, .bool c, .bool d, .bool f]
theorem fiA : aggT Tryz.prog 53 = true := by kernel_rfl
theorem fiS : szT Tryz.prog 53 = some 5 := by kernel_rfl
theorem fiZ : zc Tryz.prog 53 = some (fiV false false false false false) := by kernel_rfl
/-- the variable pack.allRight holds five trues -/
def AllOk (w : World) : Prop := ∃ e fr, w.heap[0]? = some (.cells (fiV true true true true true).toArray e fr)
theorem AllOk.lt {w : World} (h : AllOk w) : 0 < w.heap.size := by
  obtain ⟨e, fr, h⟩ := h
  exact (Array.getElem?_eq_some_iff.1 h).1
theorem AllOk.ext {w w' : World} (h : AllOk w) (hx : Ext w w') : AllOk w' := by
  have hl := h.lt
  obtain ⟨e, fr, h⟩ := h
  exact ⟨e, fr, (hx.block _ hl (by simp)).trans h⟩
theorem AllOk.holds {w0 w : World} {M : List Ent} (h : AllOk w0) (hw : Holds w0 [] M w) : AllOk w := h.ext hw.chg
theorem AllOk.cell {w : World} (h : AllOk w) : ∀ i u, (fiV true true true true true)[i]? = some u → w.cell? ⟨0, 0 + i, none⟩ = some u := fun i u hu => by
  obtain ⟨e, fr, h⟩ := h
  exact cell_of h (by show ((fiV true true true true true).toArray)[0 + i]? = some u; rw [Nat.zero_add]; simpa using hu)
section
variable {n : Nat} {E : Env} {C : World → Prop} {dst : Option Tmp} {ty : TypeId} {pos : String} {aft : Array Edge} {g : Option (Nat × Bool)} {x y : Operand}
theorem OQ.neFi {a b c d f r : Bool} (hx : ev E x = some (.agg (fiV a b c d f).toArray)) (hy : ev E y = some (.agg (fiV true true true true true).toArray)) (h : (a && (b && (c && (d && f)))) = r) : OQ Tryz.prog n E C ⟨dst, .binOp .neq 53 x y 53, ty, pos, aft, g⟩ (.bool (!r)) := by
  refine OQ.neK (la := [.bool a, .bool b, .bool c, .bool d, .bool f]) (lb := [.bool true, .bool true, .bool true, .bool true, .bool true]) (by kernel_rfl) (by kernel_rfl) hx hy (by kernel_rfl) (by kernel_rfl) (by kernel_rfl) (by kernel_rfl) ?_
  subst h
  simp
theorem OQ.buildFi {x1 x2 x3 x4 x5 : Operand} {a b c d f : Bool} (h1 : ev E x1 = some (.bool a)) (h2 : ev E x2 = some (.bool b)) (h3 : ev E x3 = some (.bool c)) (h4 : ev E x4 = some (.bool d)) (h5 : ev E x5 = some (.bool f)) : OQ Tryz.prog n E C ⟨dst, .build 53 #[(0, x1), (1, x2), (2, x3), (3, x4), (4, x5)], ty, pos, aft, g⟩ (.agg (fiV a b c d f).toArray) := by
  refine OQ.run fun k hk w _ => ?_
  have e1 := hk.eval h1
  have e2 := hk.eval h2
  have e3 := hk.eval h3
  have e4 := hk.eval h4
  have e5 := hk.eval h5
  have h3 := run_build (P := Tryz.prog) w 53 #[(0, .bool a), (1, .bool b), (2, .bool c), (3, .bool d), (4, .bool f)] (fiV a b c d f).toArray (by kernel_rfl)
  simp [execOp, e1, e2, e3, e4, e5, Sem.run_bind, h3]
end
set_option maxHeartbeats 8000000 in
theorem find_any (e : EnS) (w : World) (h1 : e.fr.length < 1000000) (h2 : e.to.length < 1000000) : Calls Tryz.prog 24 [.agg e.cs.toArray].toArray w fun x w' => x = .returned (.agg (fiV (adB e.fr) (adB e.to) (idB e.id) (idB e.th) (decide ((e.bu.l.length : Int) ≤ 3000))).toArray) ∧ Ext w w' := by
  refine enter (n := 20) Tryz.func24 rfl rfl rfl (Holds.start w []) ?_
  refine JC.seq (JC.region (JL.box (r := e.cs) rfl rfl rfl fun b1 _ => ?_))
  refine JL.alloc fiZ rfl fun b2 _ => ?_
  repeat (first | refine JC.seq ?_ | refine JL.nil ?_ | refine JE.next ?_)
  refine JC.tail 17 mixP (by kernel_rfl) ?_
  repeat (first | refine JQ.q (by first | (apply OQ.load; exact strC; exact rfl; exact (.there .here); exact (Row.cell (v := Z e.fr) rfl)) | (apply OQ.load; exact strC; exact rfl; exact (.there .here); exact (Row.cell (v := Z e.to) rfl)) | (apply OQ.load; exact strC; exact rfl; exact (.there .here); exact (Row.cell (v := Z e.id) rfl)) | (apply OQ.load; exact strC; exact rfl; exact (.there .here); exact (Row.cell (v := Z e.th) rfl)) | (apply OQ.load; exact bsCP; exact rfl; exact (.there .here); exact (Row.cell (v := e.bu.v) rfl)) | (apply OQ.callx (vs := [Z e.fr]); exact goes_isad; exact rfl; exact (fun w' _ => isad_any e.fr w' h1)) | (apply OQ.callx (vs := [Z e.to]); exact goes_isad; exact rfl; exact (fun w' _ => isad_any e.to w' h2)) | (apply OQ.callx (vs := [Z e.id]); exact goes_maid; exact rfl; exact (fun w' _ => maid_any e.id w')) | (apply OQ.callx (vs := [Z e.th]); exact goes_maid; exact rfl; exact (fun w' _ => maid_any e.th w')) | (apply OQ.len; exact Tryz.underlying22; exact rfl) | (apply OQ.leqB (b := 3000); exact rfl; exact rfl; exact rfl) | (apply OQ.buildFi; exact rfl; exact rfl; exact rfl; exact rfl; exact rfl) | (apply OQ.fld; exact rfl; exact rfl; exact rfl; exact (by decide); exact rfl)) rfl ?_ | refine JQ.nil_tail ?_)
  refine JL.store_all (cs := fiV (adB e.fr) (adB e.to) (idB e.id) (idB e.th) (decide ((e.bu.l.length : Int) ≤ 3000))) fiS rfl rfl rfl rfl .here rfl ?_
  repeat (first | refine JL.nil ?_ | refine JE.next ?_)
  refine JC.ret ?_
  skip
  exact JE.ret1 rfl (RV.cell_agg (cs := fiV (adB e.fr) (adB e.to) (idB e.id) (idB e.th) (decide ((e.bu.l.length : Int) ≤ 3000))) fiA fiS rfl .here rfl Row.all) fun w' hw => ⟨rfl, hw.chg⟩
end Go.Proofs.YtdabhneehconeaaGreatDoor

/-
  Of no statement by itself: what stands between a boundary's lines, line by line from the front: how far one is, and where what is behind the last boundary's line began; pure; no program stands here.
  Conditions: none but each lemma's own.
-/
namespace Go.Proofs.YtdabhneehconeaaGreatDoor
namespace Mim
open Fld
/-- bytes without the line's end that they end with -/
def wendB (r : List By) : List By := if r.getLast? = some 10 then (if r.dropLast.getLast? = some 13 then r.dropLast.dropLast else r.dropLast) else r
/-- how long the first line is, with its end -/
def rawN (d : List By) : Nat := if (d.takeWhile (· != 10)).length < d.length then (d.takeWhile (· != 10)).length + 1 else d.length
theorem rawN_le (d : List By) : rawN d ≤ d.length := by
  unfold rawN
  split <;> omega
theorem last_snoc (x : List By) (c : By) : (x ++ [c]).getLast? = some c := by simp
theorem wend_13 (x : List By) : wendB (x ++ [13, 10]) = x := by
  have e : x ++ [13, 10] = (x ++ [13]) ++ [10] := by simp
  unfold wendB
  rw [e, if_pos (last_snoc _ _), List.dropLast_concat, if_pos (last_snoc _ _), List.dropLast_concat]
theorem wend_10 {x : List By} (h : x.getLast? ≠ some 13) : wendB (x ++ [10]) = x := by
  unfold wendB
  rw [if_pos (last_snoc _ _), List.dropLast_concat, if_neg h]
theorem wend_no {x : List By} (h : x.getLast? ≠ some 10) : wendB x = x := by
  unfold wendB
  rw [if_neg h]
theorem split10 : ∀ d : List By, (∃ p r, d = p ++ 10 :: r ∧ (∀ c ∈ p, c ≠ 10) ∧ d.takeWhile (· != 10) = p) ∨ ((∀ c ∈ d, c ≠ 10) ∧ d.takeWhile (· != 10) = d)
  | [] => .inr ⟨by simp, rfl⟩
  | c :: d => by
    by_cases h : c = 10
    · subst h
      exact .inl ⟨[], d, rfl, by simp, by simp⟩
    · have hb : (c != 10) = true := by simpa using h
      rcases split10 d with ⟨p, r, e, h1, h2⟩ | ⟨h1, h2⟩
      · refine .inl ⟨c :: p, r, by rw [e]; rfl, ?_, ?_⟩
        · intro x hx
          rcases List.mem_cons.1 hx with rfl | hx
          · exact h
          · exact h1 x hx
        · rw [List.takeWhile_cons, if_pos hb, h2]
      · refine .inr ⟨?_, ?_⟩
        · intro x hx
          rcases List.mem_cons.1 hx with rfl | hx
          · exact h
          · exact h1 x hx
        · rw [List.takeWhile_cons, if_pos hb, h2]
theorem linR_pre : ∀ (p r x : List By), (∀ c ∈ p, c ≠ 10) → linR (p ++ r) x = linR r (x ++ p)
  | [], r, x, _ => by simp
  | c :: p, r, x, h => by
    show linR (c :: (p ++ r)) x = _
    rw [linR, if_neg (h c (by simp)), linR_pre p r (x ++ [c]) (fun y hy => h y (by simp [hy]))]
    simp
/-- a first line: its text and its end, told by its bytes -/
theorem lin_step {d : List By} (h : d ≠ []) : ∃ e, linB d = (wendB (d.take (rawN d)), e) :: linB (d.drop (rawN d)) ∧ d.take (rawN d) = wendB (d.take (rawN d)) ++ e ∧ (rawN d < d.length → e = [10] ∧ (wendB (d.take (rawN d))).getLast? ≠ some 13 ∨ e = [13, 10]) ∧ (rawN d < d.length → ∃ p, d.take (rawN d) = p ++ [10] ∧ ∀ c ∈ p, c ≠ 10) := by
  rcases split10 d with ⟨p, r, e, h1, h2⟩ | ⟨h1, h2⟩
  · have hn : rawN d = p.length + 1 := by
      unfold rawN
      rw [h2, if_pos (by rw [e]; simp)]
    have ht : d.take (rawN d) = p ++ [10] := by
      rw [hn, e, show p ++ 10 :: r = (p ++ [10]) ++ r by simp]
      rw [List.take_left' (by simp)]
    have hd : d.drop (rawN d) = r := by
      rw [hn, e, show p ++ 10 :: r = (p ++ [10]) ++ r by simp]
      rw [List.drop_left' (by simp)]
    have hl : linB d = linR (10 :: r) p := by
      unfold linB
      rw [e, linR_pre p (10 :: r) [] h1]
      rfl
    rw [hd, ht, hl, linR, if_pos rfl]
    by_cases h13 : p.getLast? = some 13
    · obtain ⟨q, rfl⟩ : ∃ q, p = q ++ [13] := List.getLast?_eq_some_iff.1 h13
      refine ⟨[13, 10], ?_, ?_, fun _ => .inr rfl, fun _ => ⟨_, rfl, h1⟩⟩
      · rw [if_pos h13, show (q ++ [13]) ++ [10] = q ++ [13, 10] by simp, wend_13, List.dropLast_concat]
        rfl
      · rw [show (q ++ [13]) ++ [10] = q ++ [13, 10] by simp, wend_13]
    · refine ⟨[10], ?_, ?_, fun _ => .inl ⟨rfl, ?_⟩, fun _ => ⟨_, rfl, h1⟩⟩
      · rw [if_neg h13, wend_10 h13]
        rfl
      · rw [wend_10 h13]
      · rw [wend_10 h13]; exact h13
  · have hn : rawN d = d.length := by
      unfold rawN
      rw [h2, if_neg (by omega)]
    have ht : d.take (rawN d) = d := by rw [hn, List.take_length]
    have hd : d.drop (rawN d) = [] := by rw [hn, List.drop_length]
    have hw : wendB d = d := wend_no (fun hh => by
      have hm : (10 : By) ∈ d := List.mem_of_getLast? hh
      exact h1 10 hm rfl)
    refine ⟨[], ?_, ?_, fun hh => by omega, fun hh => by omega⟩
    · rw [hd, ht, hw]
      unfold linB
      have := linR_pre d [] [] h1
      rw [List.append_nil, List.nil_append] at this
      rw [this, linR, if_neg h]
      rfl
    · rw [ht, hw, List.append_nil]
/-- all that Split tells, of bytes that have a boundary's line -/
def goalB (bd b : List By) : Option (List (List By)) := splL bd ((linB b).dropWhile fun x => markB bd x.1 != 1) []
/-- how far one is: at, behind the last boundary's line (if one was met), what was told -/
def ScanB (bd b : List By) (at' : Nat) : Option Nat → List (List By) → Prop
  | none, out => out = [] ∧ goalB bd b = splL bd ((linB (b.drop at')).dropWhile fun x => markB bd x.1 != 1) []
  | some bg, out => bg ≤ at' ∧ ∃ o p, o ++ p = (b.take at').drop bg ∧ (at' < b.length → wendB (o ++ p) = o ∧ (o ++ p).getLast? ≠ some 13) ∧ goalB bd b = splL bd (colR bd (linB (b.drop at')) p o).2 (out ++ [(colR bd (linB (b.drop at')) p o).1])
theorem scan_start (bd b : List By) : ScanB bd b 0 none [] := ⟨rfl, rfl⟩
theorem splLc_1 {bd l e : List By} {r : List (List By × List By)} {o : List (List By)} (h : markB bd l = 1) : splL bd ((l, e) :: r) o = splL bd (colR bd r [] []).2 (o ++ [(colR bd r [] []).1]) := by
  rw [splL]; simp [h]
theorem splLc_2 {bd l e : List By} {r : List (List By × List By)} {o : List (List By)} (h : markB bd l = 2) : splL bd ((l, e) :: r) o = some o := by
  rw [splL]; simp [h]
/-- the bytes of the line that is next -/
def lineB (b : List By) (at' : Nat) : List By := (b.drop at').take (rawN (b.drop at'))
theorem drop_next (b : List By) (at' : Nat) : (b.drop at').drop (rawN (b.drop at')) = b.drop (at' + rawN (b.drop at')) := by rw [List.drop_drop]
theorem drop_ne {b : List By} {at' : Nat} (h : at' < b.length) : b.drop at' ≠ [] := by
  rw [Ne, List.drop_eq_nil_iff]; omega
theorem take_next (b : List By) {bg at' n : Nat} (h : bg ≤ at') (h1 : at' ≤ b.length) : (b.take (at' + n)).drop bg = (b.take at').drop bg ++ (b.drop at').take n := by
  have e : b.take (at' + n) = b.take at' ++ (b.drop at').take n := List.take_add
  rw [e, List.drop_append_of_le_length (by rw [List.length_take]; omega)]
theorem scan_skip {bd b : List By} {at' : Nat} (h : at' < b.length) (hs : ScanB bd b at' none []) (hm : markB bd (wendB (lineB b at')) ≠ 1) : ScanB bd b (at' + rawN (b.drop at')) none [] := by
  obtain ⟨_, hg⟩ := hs
  obtain ⟨e, hl, _⟩ := lin_step (drop_ne h)
  refine ⟨rfl, ?_⟩
  have hc : (markB bd (wendB (lineB b at')) != 1) = true := by simpa using hm
  rw [hg, hl, List.dropWhile_cons, drop_next]
  show (if (markB bd (wendB (lineB b at')) != 1) = true then _ else _ : List _) |> fun x => splL bd x [] = _
  rw [if_pos hc]
theorem mid_self (b : List By) (m : Nat) : (b.take m).drop m = [] := by
  rw [List.drop_eq_nil_iff, List.length_take]; omega
theorem scan_met {bd b : List By} {at' : Nat} (h : at' < b.length) (hs : ScanB bd b at' none []) (hm : markB bd (wendB (lineB b at')) = 1) : ScanB bd b (at' + rawN (b.drop at')) (some (at' + rawN (b.drop at'))) [] := by
  obtain ⟨_, hg⟩ := hs
  obtain ⟨e, hl, _⟩ := lin_step (drop_ne h)
  refine ⟨Nat.le_refl _, [], [], ?_, fun _ => ⟨rfl, by simp⟩, ?_⟩
  · rw [mid_self]; rfl
  have hc : (markB bd (wendB (lineB b at')) != 1) = false := by simpa using hm
  rw [hg, hl, List.dropWhile_cons, drop_next]
  show (if (markB bd (wendB (lineB b at')) != 1) = true then _ else _ : List _) |> fun x => splL bd x [] = _
  rw [hc]
  show splL bd ((wendB (lineB b at'), e) :: _) [] = _
  rw [splLc_1 hm]
theorem scan_more {bd b : List By} {at' bg : Nat} {out : List (List By)} (h : at' < b.length) (hs : ScanB bd b at' (some bg) out) (hm : markB bd (wendB (lineB b at')) = 0) : ScanB bd b (at' + rawN (b.drop at')) (some bg) out := by
  obtain ⟨hle, o, p, h1, h2, hg⟩ := hs
  obtain ⟨e, hl, he, h3, h4⟩ := lin_step (drop_ne h)
  refine ⟨by omega, o ++ p ++ wendB (lineB b at'), e, ?_, fun hlt => ?_, ?_⟩
  · rw [take_next b hle (by omega), ← h1, List.append_assoc]
    congr 1
    exact he.symm
  · have hlt' : rawN (b.drop at') < (b.drop at').length := by rw [List.length_drop]; omega
    obtain ⟨w1, w2⟩ := h2 h
    obtain ⟨q, hq, hq1⟩ := h4 hlt'
    have hq : lineB b at' = q ++ [10] := hq
    have he : lineB b at' = wendB (lineB b at') ++ e := he
    have hen : (o ++ p ++ wendB (lineB b at') ++ e) = (o ++ p ++ q) ++ [10] := by
      rw [List.append_assoc, ← he, hq, ← List.append_assoc]
    constructor
    · rcases h3 hlt' with ⟨rfl, h13⟩ | rfl
      · have h13 : (wendB (lineB b at')).getLast? ≠ some 13 := h13
        refine wend_10 ?_
        cases hw : wendB (lineB b at') with
        | nil => rw [List.append_nil]; exact w2
        | cons c r =>
          rw [hw] at h13
          rw [List.getLast?_append]
          cases hq : (c :: r).getLast? with
          | none => simp at hq
          | some x => rw [hq] at h13; exact h13
      · exact wend_13 _
    · rw [hen, last_snoc]
      decide
  · rw [hg, hl, colR, if_pos (show markB bd (wendB ((b.drop at').take (rawN (b.drop at')))) = 0 from hm), drop_next]
    rfl
theorem scan_part {bd b : List By} {at' bg : Nat} {out : List (List By)} (h : at' < b.length) (hs : ScanB bd b at' (some bg) out) (hm : markB bd (wendB (lineB b at')) = 1) : ScanB bd b (at' + rawN (b.drop at')) (some (at' + rawN (b.drop at'))) (out ++ [wendB ((b.take at').drop bg)]) := by
  obtain ⟨hle, o, p, h1, h2, hg⟩ := hs
  obtain ⟨e, hl, _⟩ := lin_step (drop_ne h)
  refine ⟨Nat.le_refl _, [], [], ?_, fun _ => ⟨rfl, by simp⟩, ?_⟩
  · rw [mid_self]; rfl
  rw [hg, hl, colR, if_neg (by show ¬ markB bd (wendB (lineB b at')) = 0; rw [hm]; decide), drop_next, ← h1, (h2 h).1]
  show splL bd ((wendB (lineB b at'), e) :: _) _ = _
  rw [splLc_1 hm]
theorem scan_last {bd b : List By} {at' bg : Nat} {out : List (List By)} (h : at' < b.length) (hs : ScanB bd b at' (some bg) out) (hm : markB bd (wendB (lineB b at')) = 2) : goalB bd b = some (out ++ [wendB ((b.take at').drop bg)]) := by
  obtain ⟨hle, o, p, h1, h2, hg⟩ := hs
  obtain ⟨e, hl, _⟩ := lin_step (drop_ne h)
  rw [hg, hl, colR, if_neg (by show ¬ markB bd (wendB (lineB b at')) = 0; rw [hm]; decide), ← h1, (h2 h).1]
  show splL bd ((wendB (lineB b at'), e) :: _) _ = _
  rw [splLc_2 hm]
theorem scan_end {bd b : List By} {st : Option Nat} {out : List (List By)} (hs : ScanB bd b b.length st out) : goalB bd b = none := by
  have e : linB (b.drop b.length) = [] := by rw [List.drop_length]; rfl
  cases st with
  | none =>
    rw [hs.2, e]
    rw [List.dropWhile_nil, splL]
  | some bg =>
    obtain ⟨_, o, p, _, _, hg⟩ := hs
    rw [hg, e]
    rw [colR, splL]
theorem splt_goal {bd b : List By} (h : boundB bd = true) : spltB b bd = match goalB bd b with
    | none => ([], 3)
    | some out => (out, 0) := by
  unfold spltB goalB
  rw [if_neg (by rw [h]; decide)]
  split <;> rename_i hh <;> rw [hh]
end Mim
end Go.Proofs.YtdabhneehconeaaGreatDoor

/-
  Of no statement by itself: package bytes: Equal, HasPrefix, HasSuffix, TrimPrefix, Clone.
  Conditions: each theorem's own.
-/
namespace Go.Proofs.YtdabhneehconeaaGreatDoor
set_option maxRecDepth 10000
open Sl
theorem goes_equal : Goes Tryz.prog 139 := ⟨_, Tryz.func139, rfl, by kernel_rfl⟩
theorem goes_suf : Goes Tryz.prog 162 := ⟨_, Tryz.func162, rfl, by kernel_rfl⟩
def preB (s d : List Bt) : Bool := decide ((d.length : Int) ≤ (s.length : Int)) && decide (s.take d.length = d)
def sufB (s d : List Bt) : Bool := decide ((d.length : Int) ≤ (s.length : Int)) && decide (s.drop (s.length - d.length) = d)
theorem OQ.isNil {P : Program} {n : Nat} {E : Env} {C : World → Prop} {dst : Option Tmp} {t t' ty e : TypeId} {pos : String} {aft : Array Edge} {g : Option (Nat × Bool)} {x y : Operand} {ad : Option Addr} {k cap : Nat} (hu : P.underlying t = some (.slice e)) (hx : ev E x = some (.slice ad k cap)) (hy : ev E y = some (.slice none 0 0)) :
    OQ P n E C ⟨dst, .binOp .eql t x y t', ty, pos, aft, g⟩ (.bool ad.isNone) :=
  OQ.run fun c ha w _ => by
    have h1 := ha.eval hx
    have h2 := ha.eval hy
    have h4 : (binOp .eql t (.slice ad k cap) (.slice none 0 0)).run P w = .ok (.bool ad.isNone) w := by
      show (do pure (.bool (← Op.equal t (.slice ad k cap) (.slice none 0 0))) : Sem Value).run P w = _
      simp [Sem.run_bind, run_equal_slice_nil w t e ad k cap hu]
    simp [execOp, h1, h2, eqGuard, h4]
set_option maxHeartbeats 2000000 in
theorem equal_any (a b : Sl8) (w : World) (ha : a.ok w) (hb : b.ok w) : Calls Tryz.prog 139 [a.v, b.v].toArray w fun e w' => e = .returned (.bool (decide (a.l = b.l))) ∧ Ext w w' := by
  refine enter (n := 10) Tryz.func139 rfl rfl rfl (Holds.start w []) ?_
  repeat (first | refine JL.q (by first | (apply OQ.b2s (s := a); exact Tryz.underlying22; exact Tryz.underlying5; exact Tryz.underlying9; exact rfl; exact (fun w' hw' => ha.holds hw' rfl)) | (apply OQ.b2s (s := b); exact Tryz.underlying22; exact Tryz.underlying5; exact Tryz.underlying9; exact rfl; exact (fun w' hw' => hb.holds hw' rfl)) | (apply OQ.eqS; exact rfl; exact rfl) | (apply OQ.move; exact rfl) | (apply OQ.assign; exact rfl)) rfl ?_ | refine JC.seq ?_ | refine JC.region ?_ | refine JL.nil ?_ | refine JE.next ?_)
  exact JC.ret (JE.ret1 rfl (RV.tmp rfl) fun w' hw => ⟨rfl, hw.chg⟩)
set_option maxHeartbeats 4000000 in
theorem pre_any (s d : Sl8) (w : World) (hs : s.ok w) (hd : d.ok w) : Calls Tryz.prog 107 [s.v, d.v].toArray w fun e w' => e = .returned (.bool (preB s.l d.l)) ∧ Ext w w' := by
  refine enter (n := 18) Tryz.func107 rfl rfl rfl (Holds.start w []) ?_
  have hcap := hs.len
  unfold preB
  cases h : decide ((d.l.length : Int) ≤ (s.l.length : Int))
  · repeat (first | refine JL.q (by first | (apply OQ.geqB; exact rfl; exact rfl; exact h) | (apply OQ.pick_f; exact rfl; exact rfl) | (apply OQ.move; exact rfl) | (apply OQ.assign; exact rfl) | (apply OQ.len; exact rfl; exact rfl)) rfl ?_ | refine JC.seq ?_ | refine JC.region ?_ | refine JL.nil ?_ | refine JE.next ?_ | refine JL.gskip rfl rfl rfl rfl ?_)
    exact JC.ret (JE.ret1 rfl (RV.tmp rfl) fun w' hw => ⟨rfl, hw.chg⟩)
  · have hle : d.l.length ≤ s.l.length := by have := of_decide_eq_true h; omega
    repeat (first | refine JL.q (by first | (apply OQ.geqB; exact rfl; exact rfl; exact h) | (apply OQ.fst (s := s); exact Tryz.underlying22; exact u8s; exact rfl; exact rfl; exact hle; exact hcap) | (apply OQ.callx (vs := [(s.fst d.l.length).v, d.v]); exact goes_equal; exact rfl; exact (fun w' hw' => equal_any (s.fst d.l.length) d w' ((hs.holds hw' rfl).fst _) (hd.holds hw' rfl))) | (apply OQ.pick_t; exact rfl; exact rfl) | (apply OQ.move; exact rfl) | (apply OQ.assign; exact rfl) | (apply OQ.len; exact rfl; exact rfl)) rfl ?_ | refine JC.seq ?_ | refine JC.region ?_ | refine JL.nil ?_ | refine JE.next ?_ | refine JL.gon rfl rfl ?_)
    exact JC.ret (JE.ret1 rfl (RV.tmp rfl) fun w' hw => ⟨rfl, hw.chg⟩)
set_option maxHeartbeats 4000000 in
theorem suf_any (s d : Sl8) (w : World) (hs : s.ok w) (hd : d.ok w) (hl : s.l.length ≤ 4611686018427387904) : Calls Tryz.prog 162 [s.v, d.v].toArray w fun e w' => e = .returned (.bool (sufB s.l d.l)) ∧ Ext w w' := by
  refine enter (n := 21) Tryz.func162 rfl rfl rfl (Holds.start w []) ?_
  unfold sufB
  cases h : decide ((d.l.length : Int) ≤ (s.l.length : Int))
  · repeat (first | refine JL.q (by first | (apply OQ.geqB; exact rfl; exact rfl; exact h) | (apply OQ.pick_f; exact rfl; exact rfl) | (apply OQ.move; exact rfl) | (apply OQ.assign; exact rfl) | (apply OQ.len; exact rfl; exact rfl)) rfl ?_ | refine JC.seq ?_ | refine JC.region ?_ | refine JL.nil ?_ | refine JE.next ?_ | refine JL.gskip rfl rfl rfl rfl ?_)
    exact JC.ret (JE.ret1 rfl (RV.tmp rfl) fun w' hw => ⟨rfl, hw.chg⟩)
  · have hle : d.l.length ≤ s.l.length := by have := of_decide_eq_true h; omega
    have hsub : s.l.length - d.l.length ≤ s.l.length := Nat.sub_le _ _
    repeat (first | refine JL.q (by first | (apply OQ.geqB; exact rfl; exact rfl; exact h) | (apply OQ.snd (s := s); exact Tryz.underlying22; exact u8s; exact rfl; exact rfl; exact hsub) | (apply OQ.callx (vs := [(s.snd (s.l.length - d.l.length)).v, d.v]); exact goes_equal; exact rfl; exact (fun w' hw' => equal_any (s.snd (s.l.length - d.l.length)) d w' ((hs.holds hw' rfl).snd _ hsub) (hd.holds hw' rfl))) | (apply OQ.pick_t; exact rfl; exact rfl) | (apply OQ.move; exact rfl) | (apply OQ.assign; exact rfl) | (apply OQ.len; exact rfl; exact rfl) | (apply OQ.subN; exact rfl; exact rfl; exact (by (try simp only []); omega); exact (by (try simp only []); omega))) rfl ?_ | refine JC.seq ?_ | refine JC.region ?_ | refine JL.nil ?_ | refine JE.next ?_ | refine JL.gon rfl rfl ?_)
    exact JC.ret (JE.ret1 rfl (RV.tmp rfl) fun w' hw => ⟨rfl, hw.chg⟩)
theorem goes_clone : Goes Tryz.prog 72 := ⟨_, Tryz.func72, rfl, by kernel_rfl⟩
set_option maxHeartbeats 4000000 in
theorem clone_any (s : Sl8) (w : World) (hs : s.ok w) (hl : s.l.length ≤ 4294967296) : Calls Tryz.prog 72 [s.v].toArray w fun e w' => ∃ q : Acc, e = .returned (accV q s.l.length) ∧ (q = none → s.l = []) ∧ Holds w [] (accE 5 q (s.l.map U8)) w' := by
  refine enter (n := 8) Tryz.func72 rfl rfl rfl (Holds.start w []) ?_
  obtain ⟨ad, cap, l⟩ := s
  cases ad with
  | none =>
    have h0 : l = [] := by
      cases l with
      | nil => rfl
      | cons c l =>
        obtain ⟨b, j, h1, _⟩ := hs.reads.at (by simp)
        cases h1
    repeat (first | refine JL.q (by first | (apply OQ.isNil; exact Tryz.underlying22; exact rfl; exact rfl) | (apply OQ.move; exact rfl) | (apply OQ.assign; exact rfl)) rfl ?_ | refine JC.seq ?_ | refine JC.region ?_ | refine JL.nil ?_ | refine JE.next ?_)
    refine JC.cond_true rfl rfl ?_
    repeat (first | refine JL.q (by (apply OQ.assign; exact rfl)) rfl ?_ | refine JC.seq ?_ | refine JC.region ?_ | refine JL.nil ?_ | refine JE.next ?_)
    refine JC.ret ?_
    repeat (refine JE.then_ret ?_)
    exact JE.ret1 rfl (RV.tmp rfl) fun w' hw => ⟨none, rfl, fun _ => h0, hw⟩
  | some ad =>
    repeat (first | refine JL.q (by first | (apply OQ.isNil; exact Tryz.underlying22; exact rfl; exact rfl) | (apply OQ.move; exact rfl) | (apply OQ.assign; exact rfl)) rfl ?_ | refine JC.seq ?_ | refine JC.region ?_ | refine JL.nil ?_ | refine JE.next ?_)
    refine JC.cond_false rfl rfl ?_
    repeat (first | refine JC.seq ?_ | refine JC.region ?_ | refine JC.skip ?_ | refine JE.next ?_)
    refine JL.lit0O Tryz.underlying22 u8e rfl fun b0 _ => ?_
    repeat (refine JL.q (by (apply OQ.move; exact rfl)) rfl ?_)
    refine JL.append (cs := l.map U8) (m := l.length) (ad := some ad) (sc := cap) (xs := []) (fun b' cap' => [⟨b', Sl.Own 5 1 (0 + l.length) cap' ([] ++ l.map U8), true⟩]) Tryz.underlying22 u8e rfl rfl (by intro _ _; repeat (first | exact Repl.here | apply Repl.there)) (by simp) (fun w' hw' => (hs.holds hw' rfl).reads) (all8U _) rfl (by decide) (by simp only [] at hl; omega) (by simp only [] at hl; omega) rfl fun b1 cap1 => ?_
    rw [Nat.zero_add, List.nil_append]
    repeat (first | refine JL.q (by (apply OQ.assign; exact rfl)) rfl ?_ | refine JL.nil ?_ | refine JE.next ?_)
    refine JC.ret (JE.ret1 rfl (RV.tmp rfl) fun w' hw => ⟨some (b1, cap1), rfl, (fun h => by cases h), ?_⟩)
    show Holds w [] [⟨b1, Sl.Own 5 1 (l.map U8).length cap1 (l.map U8), true⟩] w'
    rw [List.length_map]
    exact hw
end Go.Proofs.YtdabhneehconeaaGreatDoor

/-
  Of no statement by itself: package bytes: IndexByte, Index and Cut at one byte, TrimSuffix, by their bodies and the model's own entry.
  Conditions: each theorem's own.
-/
namespace Go.Proofs.YtdabhneehconeaaGreatDoor
set_option maxRecDepth 10000
open Sl Fld
def toZ (l : List Bt) : List Int := l.map fun c => (c.toNat : Int)
theorem toZ_u8 (l : List Bt) : Go.Lib.bytesOf (toZ l) = Fld.u8s l := by
  unfold Go.Lib.bytesOf toZ Fld.u8s
  rw [List.map_map]
  refine List.map_congr_left fun c _ => ?_
  show UInt8.ofNat ((c.toNat : Int)).toNat = _
  rw [Int.toNat_natCast]
  apply UInt8.toBitVec_inj.1
  exact BitVec.eq_of_toNat_eq (by simp)
theorem ixb_is (c : Fld.By) : ∀ l : List Fld.By, Go.Lib.indexByte (Fld.u8s l) (UInt8.ofBitVec c) = ixC c l
  | [] => rfl
  | d :: r => by
    show (if (UInt8.ofBitVec d == UInt8.ofBitVec c) then 0 else if Go.Lib.indexByte (Fld.u8s r) (UInt8.ofBitVec c) == -1 then -1 else Go.Lib.indexByte (Fld.u8s r) (UInt8.ofBitVec c) + 1 : Int) = _
    rw [ixb_is c r]
    unfold ixC
    rw [fi_cons]
    have hb : (UInt8.ofBitVec d == UInt8.ofBitVec c) = decide (d = c) := by
      by_cases h : d = c
      · subst h; simp
      · rw [decide_eq_false h]
        exact beq_eq_false_iff_ne.2 fun k => h (congrArg UInt8.toBitVec k)
    rw [hb]
    by_cases hd : d = c
    · simp [hd]
    · simp only [hd, decide_false, Bool.false_eq_true, if_false, List.length_cons, Nat.add_lt_add_iff_right]
      by_cases h : fi c r < r.length
      · simp only [h, if_true]
        rw [if_neg (by rw [beq_iff_eq]; omega)]
        omega
      · simp only [h, if_false]
        rfl
theorem OQ.idxq {P : Program} {n : Nat} {E : Env} {w0 : World} {S : List Nat} {M : List Ent} {dst : Option Tmp} {ty : TypeId} {pos : String} {aft : Array Edge} {g : Option (Nat × Bool)} {f : FuncId} {ats : Array TypeId} {x y : Operand} {s : Sl8} {c : Bt} (hf : IsIdxS P f) (hx : ev E x = some s.v) (hy : ev E y = some (U8 c)) (hs : ∀ w, Holds w0 S M w → s.ok w) :
    OQ P n E (Holds w0 S M) ⟨dst, .call ⟨.value (.func f), #[x, y], ats⟩, ty, pos, aft, g⟩ (I (ixC c s.l)) := by
  refine ⟨fun ac hk w hw => ?_⟩
  obtain ⟨fn, h1, h2, h3, h4, h5⟩ := hf.go
  have hc : ((c.toNat : Int)).toNat.toUInt8 = UInt8.ofBitVec c := by
    rw [Int.toNat_natCast]
    apply UInt8.toBitVec_inj.1
    apply BitVec.eq_of_toNat_eq
    simp [Nat.toUInt8, UInt8.ofNat]
  have hr : (Extern.BytealgIndexByte.indexByte #[s.v, U8 c]).run P w = .ok (I (ixC c s.l)) w := by
    have ok := hs w hw
    obtain ⟨ad, cap, l⟩ := s
    cases ad with
    | none =>
      have h0 : l = [] := by
        cases l with
        | nil => rfl
        | cons d l =>
          obtain ⟨b, j, k1, _⟩ := ok.reads.at (by simp)
          cases k1
      subst h0
      exact Lib.run_indexByteNil w 0 cap (c.toNat : Int)
    | some a =>
      have := Lib.run_indexByteAt (P := P) w a l.length cap (toZ l) (by unfold toZ; rw [List.length_map]) (fun i hi => by
        obtain ⟨b, j, k1, k2⟩ := ok.reads _ _ (map_at U8 0 hi)
        cases k1
        rw [add_off, k2]
        unfold toZ
        rw [List.getD_eq_getElem?_getD, List.getD_eq_getElem?_getD, List.getElem?_map, List.getElem?_eq_getElem hi]
        rfl) (c.toNat : Int)
      rw [toZ_u8, hc, ixb_is] at this
      exact this
  have r := run_callFunc_extern h1 h2 h3 h4 h5 #[s.v, U8 c] w
  rw [hr] at r
  unfold Oper.quietAt
  have r' : (execOp ac.eval ⟨dst, .call ⟨.value (.func f), #[x, y], ats⟩, ty, pos, aft, g⟩).run P w = .ok (.value (I (ixC c s.l))) w := by
    simp only [Result.andThen] at r
    have k1 := hk.eval hx
    have k2 := hk.eval hy
    have e : (.ok (.value (I (ixC c s.l))) w : Result Next) = (callFunc f #[s.v, U8 c]).run P w := r.symm
    rw [e]
    simp [execOp, resolve, Sem.run_bind, Act.eval, Deferred.ofValue, invoke, k1, k2]
    simp [Act.eval] at k1 k2
    simp [k1, k2]
  rw [r']
  exact ⟨rfl, rfl⟩
theorem is_idxq : IsIdxS Tryz.prog 242 := ⟨_, Tryz.func242, rfl, rfl, by kernel_rfl, by kernel_rfl⟩
theorem goes_bixb : Goes Tryz.prog 213 := ⟨_, Tryz.func213, rfl, by kernel_rfl⟩
theorem goes_btrims : Goes Tryz.prog 113 := ⟨_, Tryz.func113, rfl, by kernel_rfl⟩
theorem bixb_any (s : Sl8) (c : Bt) (w : World) (hs : s.ok w) : Calls Tryz.prog 213 [s.v, U8 c].toArray w fun e w' => e = .returned (I (ixC c s.l)) ∧ Ext w w' := by
  refine enter (n := 8) Tryz.func213 rfl rfl rfl (Holds.start w []) ?_
  repeat (first | refine JL.q (by first | (apply OQ.idxq; exact is_idxq; exact rfl; exact rfl; exact (fun w' hw' => hs.holds hw' rfl)) | (apply OQ.move; exact rfl) | (apply OQ.assign; exact rfl)) rfl ?_ | refine JC.seq ?_ | refine JC.region ?_ | refine JL.nil ?_ | refine JE.next ?_)
  exact JC.ret (JE.ret1 rfl (RV.tmp rfl) fun w' hw => ⟨rfl, hw.chg⟩)
/-- without the byte at its end -/
def trimS1 (c : Bt) (s : Sl8) : Sl8 := if s.l.getLast? = some c then s.fst (s.l.length - 1) else s
theorem suf_last (l : List Fld.By) (c : Fld.By) : sufB l [c] = decide (l.getLast? = some c) := by
  unfold sufB
  rcases List.eq_nil_or_concat l with rfl | ⟨r, d, rfl⟩
  · simp
  · simp
    intro _
    omega
set_option maxHeartbeats 2000000 in
theorem btrims_any (s : Sl8) (b cap : Nat) (c : Bt) (w : World) (hl : s.l.length ≤ 4611686018427387904) (hs : s.ok w) (hd : (⟨some ⟨b, 0, none⟩, cap, [c]⟩ : Sl8).ok w) : Calls Tryz.prog 113 [s.v, .slice (some ⟨b, 0, none⟩) 1 cap].toArray w fun e w' => e = .returned (trimS1 c s).v ∧ Ext w w' := by
  refine enter (n := 16) Tryz.func113 rfl rfl rfl (Holds.start w []) ?_
  have hcap := hs.len
  have hq := fun w' (hw' : Holds w [] [] w') => suf_any s ⟨some ⟨b, 0, none⟩, cap, [c]⟩ w' (hs.holds hw' rfl) (hd.holds hw' rfl) hl
  rw [show sufB s.l (Sl8.l ⟨some ⟨b, 0, none⟩, cap, [c]⟩) = _ from suf_last s.l c] at hq
  unfold trimS1
  by_cases h : s.l.getLast? = some c
  · rw [if_pos h]
    simp only [h, decide_true] at hq
    have hpos : 1 ≤ s.l.length := by
      cases hh : s.l with
      | nil => rw [hh] at h; cases h
      | cons d r => simp
    have hle : s.l.length - 1 ≤ s.l.length := by omega
    repeat (first | refine JL.q (by first | (apply OQ.callx (vs := [s.v, .slice (some ⟨b, 0, none⟩) 1 cap]); exact goes_suf; exact rfl; exact hq) | (apply OQ.move; exact rfl) | (apply OQ.assign; exact rfl)) rfl ?_ | refine JC.seq ?_ | refine JC.region ?_ | refine JL.nil ?_ | refine JE.next ?_)
    refine JC.cond_true rfl rfl ?_
    repeat (first | refine JL.q (by first | (apply OQ.subN (b := 1); exact rfl; exact rfl; exact hpos; exact (by omega)) | (apply OQ.fst (s := s); exact Tryz.underlying22; exact u8s; exact rfl; exact rfl; exact hle; exact hcap) | (apply OQ.move; exact rfl) | (apply OQ.assign; exact rfl) | (apply OQ.len; exact rfl; exact rfl)) rfl ?_ | refine JC.seq ?_ | refine JC.region ?_ | refine JL.nil ?_ | refine JE.next ?_)
    refine JC.ret ?_
    repeat (refine JE.then_ret ?_)
    exact JE.ret1 rfl (RV.tmp rfl) fun w' hw => ⟨rfl, hw.chg⟩
  · rw [if_neg h]
    simp only [h, decide_false] at hq
    repeat (first | refine JL.q (by first | (apply OQ.callx (vs := [s.v, .slice (some ⟨b, 0, none⟩) 1 cap]); exact goes_suf; exact rfl; exact hq) | (apply OQ.move; exact rfl) | (apply OQ.assign; exact rfl)) rfl ?_ | refine JC.seq ?_ | refine JC.region ?_ | refine JL.nil ?_ | refine JE.next ?_)
    refine JC.cond_false rfl rfl ?_
    repeat (first | refine JL.q (by first | (apply OQ.move; exact rfl) | (apply OQ.assign; exact rfl)) rfl ?_ | refine JC.seq ?_ | refine JC.region ?_ | refine JC.skip ?_ | refine JL.nil ?_ | refine JE.next ?_)
    refine JC.ret ?_
    skip
    exact JE.ret1 rfl (RV.tmp rfl) fun w' hw => ⟨rfl, hw.chg⟩
end Go.Proofs.YtdabhneehconeaaGreatDoor
