/-
  Of no statement by itself: the texts TokX, TkC, TokD, TkE, TkF, TkD in one.
  Conditions: each theorem's own.
-/
import Derived.Test.YtchoiikhepjdiaaDoorBc
/-
  Of no statement by itself: what the reference's Trim, Dotted and Kind (layer 10) give.
  Conditions: each theorem's own.
-/
namespace Go.Proofs.YtchoiikhepjdiaaDoor
set_option maxRecDepth 10000
open Sl Fld Tok
theorem goes_rtrim : Goes Tryd.prog 62 := ⟨_, Tryd.func62, rfl, by kernel_rfl⟩
theorem goes_rdotted : Goes Tryd.prog 63 := ⟨_, Tryd.func63, rfl, by kernel_rfl⟩
theorem goes_rkind : Goes Tryd.prog 69 := ⟨_, Tryd.func69, rfl, by kernel_rfl⟩
theorem bl_is10 : ∀ c : Fld.By, bl c = (decide ((c.toNat : Int) = 32) || decide ((c.toNat : Int) = 9)) := by
  have h : ∀ c : Fin 256, bl (BitVec.ofNat 8 c.val) = (decide (((BitVec.ofNat 8 c.val).toNat : Int) = 32) || decide (((BitVec.ofNat 8 c.val).toNat : Int) = 9)) := by decide +kernel
  intro c
  simpa using h ⟨c.toNat, c.isLt⟩
theorem trimL_go : ∀ {v : List Fld.By}, 0 < v.length → bl (v.getD 0 0) = true → trimL (v.drop 1) = trimL v
  | [], h, _ => by simp at h
  | c :: r, _, h => by
    have h' : bl c = true := h
    show trimL r = List.dropWhile bl (c :: r)
    rw [List.dropWhile_cons, if_pos h']; rfl
theorem trimL_stop : ∀ {v : List Fld.By}, (0 < v.length → bl (v.getD 0 0) = false) → trimL v = v
  | [], _ => rfl
  | c :: r, h => by
    have h' : bl c = false := h (by simp)
    show List.dropWhile bl (c :: r) = _
    rw [List.dropWhile_cons, if_neg (by rw [h']; decide)]
theorem rev_last {v : List Fld.By} (h : 0 < v.length) : v.reverse = v.getD (v.length - 1) 0 :: (v.take (v.length - 1)).reverse := by
  have h1 := take_succ_getD v (i := v.length - 1) (by omega)
  rw [show v.length - 1 + 1 = v.length by omega, List.take_length] at h1
  conv => lhs; rw [h1]
  simp
theorem trimR_go {v : List Fld.By} (h : 0 < v.length) (hb : bl (v.getD (v.length - 1) 0) = true) : trimL (v.take (v.length - 1)).reverse = trimL v.reverse := by
  rw [rev_last h]
  exact trimL_go (v := _ :: _) (by simp) hb
theorem trimR_stop {v : List Fld.By} (h : 0 < v.length → bl (v.getD (v.length - 1) 0) = false) : trimL v.reverse = v.reverse :=
  trimL_stop fun h0 => by
    rw [List.length_reverse] at h0
    rw [rev_last h0]
    exact h h0
theorem trim_short (s : List Fld.By) : (trim s).length ≤ s.length := by
  have h : ∀ l : List Fld.By, (trimL l).length ≤ l.length := fun l => (List.dropWhile_sublist _).length_le
  have h1 := h s
  have h2 := h (trimL s).reverse
  simp only [trim, List.length_reverse] at h2 ⊢
  omega
set_option maxHeartbeats 16000000 in
theorem rtrim_any (s : List Fld.By) (w : World) (hl : s.length < 9223372036854775808) : Calls Tryd.prog 62 [Z s].toArray w fun e w' => e = .returned (Z (trim s)) ∧ Ext w w' := by
  refine enter (n := 43) Tryd.func62 rfl rfl rfl (Holds.start w []) ?_
  repeat (first | refine JL.q (by first | (apply OQ.move; exact rfl) | (apply OQ.assign; exact rfl) | (apply OQ.len; exact rfl; exact rfl) | (apply OQ.addN; exact rfl; exact rfl; exact (by (try simp only []); omega)) | (apply OQ.subN; exact rfl; exact rfl; exact (by (try simp only []); omega); exact (by (try simp only []); omega)) | (apply OQ.lssN; exact rfl; exact rfl)) rfl ?_ | refine JC.seq ?_ | refine JC.region ?_ | refine JC.block ?_ | refine JC.skip ?_ | refine JC.exit ?_ | refine JL.nil ?_ | refine JE.next ?_ | refine JE.blk_normal ?_ | refine JE.then_exit ?_ | refine JE.blk_hit ?_ | refine JE.blk_miss rfl ?_ | refine JE.then_ret ?_ | refine JE.blk_ret ?_ | refine JC.label ?_ | refine JL.gon rfl rfl ?_ | refine JL.gskip rfl rfl rfl rfl ?_ | refine JL.gskipU rfl rfl rfl rfl ?_)
  refine JC.joinB (ι := Unit) (fun _ => [(0, Z (trimL s))]) (fun _ => []) (fun _ => True) ?_ ?_
  · refine JC.loop (fun v : List Fld.By => [(0, Z v)]) (fun _ => []) (fun v => v.length) (fun v => v.length ≤ s.length ∧ trimL v = trimL s) s ⟨Nat.le_refl _, rfl⟩ (by repeat (first | exact SubE.nil | refine SubE.cons _ _ _ rfl ?_)) (Less.refl _) ?_
    rintro v ⟨hv, ht⟩
    cases h0 : decide ((0 : Int) < (v.length : Int))
    case true =>
      have hp : 0 < v.length := by have := of_decide_eq_true h0; omega
      have hidx := fun {n : Nat} {E : Env} {C : World → Prop} {dst : Option Tmp} {ty : TypeId} {pos : String} {aft : Array Edge} {g : Option (Nat × Bool)} {x y : Operand} => idxAt10 hp (n := n) (E := E) (C := C) (dst := dst) (ty := ty) (pos := pos) (aft := aft) (g := g) (x := x) (y := y)
      have hgo := trimL_go hp
      have hst := trimL_stop (v := v)
      have hb := bl_is10 (v.getD 0 0)
      generalize v.getD 0 0 = c at hidx hgo hst hb
      cases h1 : decide ((c.toNat : Int) = 32) <;> cases h2 : decide ((c.toNat : Int) = 9)
      all_goals (
        rw [h1, h2] at hb
        (repeat (first | refine JL.q (by first | (apply OQ.lenS; exact Tryd.underlying9; exact rfl) | (apply OQ.gtrB (b := 0); exact rfl; exact rfl; exact h0) | (apply hidx; exact rfl; exact rfl) | (apply OQ.eqB (b := 32); exact rfl; exact rfl; exact h1) | (apply OQ.eqB (b := 9); exact rfl; exact rfl; exact h2) | (apply OQ.pick_t; exact rfl; exact rfl) | (apply OQ.pick_f; exact rfl; exact rfl) | (apply OQ.move; exact rfl) | (apply OQ.assign; exact rfl) | (apply OQ.len; exact rfl; exact rfl) | (apply OQ.addN; exact rfl; exact rfl; exact (by (try simp only []); omega)) | (apply OQ.subN; exact rfl; exact rfl; exact (by (try simp only []); omega); exact (by (try simp only []); omega)) | (apply OQ.lssN; exact rfl; exact rfl)) rfl ?_ | refine JC.seq ?_ | refine JC.region ?_ | refine JC.block ?_ | refine JC.skip ?_ | refine JC.exit ?_ | refine JL.nil ?_ | refine JE.next ?_ | refine JE.blk_normal ?_ | refine JE.then_exit ?_ | refine JE.blk_hit ?_ | refine JE.blk_miss rfl ?_ | refine JE.then_ret ?_ | refine JE.blk_ret ?_ | refine JC.label ?_ | refine JL.gon rfl rfl ?_ | refine JL.gskip rfl rfl rfl rfl ?_ | refine JL.gskipU rfl rfl rfl rfl ?_))
        refine JC.cond rfl (fun h => ?_) (fun h => ?_)
        all_goals first | (exfalso; revert h; decide) | skip
        all_goals clear h)
      case false.false =>
        rw [← ht, hst fun _ => hb]
        (repeat (first | refine JL.q (by first | (apply OQ.move; exact rfl) | (apply OQ.assign; exact rfl) | (apply OQ.len; exact rfl; exact rfl) | (apply OQ.addN; exact rfl; exact rfl; exact (by (try simp only []); omega)) | (apply OQ.subN; exact rfl; exact rfl; exact (by (try simp only []); omega); exact (by (try simp only []); omega)) | (apply OQ.lssN; exact rfl; exact rfl)) rfl ?_ | refine JC.seq ?_ | refine JC.region ?_ | refine JC.block ?_ | refine JC.skip ?_ | refine JC.exit ?_ | refine JL.nil ?_ | refine JE.next ?_ | refine JE.blk_normal ?_ | refine JE.then_exit ?_ | refine JE.blk_hit ?_ | refine JE.blk_miss rfl ?_ | refine JE.then_ret ?_ | refine JE.blk_ret ?_ | refine JC.label ?_ | refine JL.gon rfl rfl ?_ | refine JL.gskip rfl rfl rfl rfl ?_ | refine JL.gskipU rfl rfl rfl rfl ?_))
        exact JE.mid () trivial (by repeat (first | exact SubE.nil | refine SubE.cons _ _ _ rfl ?_)) (Less.refl _)
      all_goals (
        (repeat (first | refine JL.q (by first | (apply OQ.subS_lo (i := 1); exact Tryd.underlying9; exact rfl; exact rfl; exact (by omega)) | (apply OQ.move; exact rfl) | (apply OQ.assign; exact rfl) | (apply OQ.len; exact rfl; exact rfl) | (apply OQ.addN; exact rfl; exact rfl; exact (by (try simp only []); omega)) | (apply OQ.subN; exact rfl; exact rfl; exact (by (try simp only []); omega); exact (by (try simp only []); omega)) | (apply OQ.lssN; exact rfl; exact rfl)) rfl ?_ | refine JC.seq ?_ | refine JC.region ?_ | refine JC.block ?_ | refine JC.skip ?_ | refine JC.exit ?_ | refine JL.nil ?_ | refine JE.next ?_ | refine JE.blk_normal ?_ | refine JE.then_exit ?_ | refine JE.blk_hit ?_ | refine JE.blk_miss rfl ?_ | refine JE.then_ret ?_ | refine JE.blk_ret ?_ | refine JC.label ?_ | refine JL.gon rfl rfl ?_ | refine JL.gskip rfl rfl rfl rfl ?_ | refine JL.gskipU rfl rfl rfl rfl ?_))
        refine JE.again (i := v) (v.drop 1) ⟨by rw [List.length_drop]; omega, by rw [hgo hb, ht]⟩ (by rw [List.length_drop]; omega) (by repeat (first | exact SubE.nil | refine SubE.cons _ _ _ rfl ?_)) (Less.refl _))
    case false =>
      have hn : ¬ 0 < v.length := by have := of_decide_eq_false h0; omega
      rw [← ht, trimL_stop fun h => absurd h hn]
      repeat (first | refine JL.q (by first | (apply OQ.lenS; exact Tryd.underlying9; exact rfl) | (apply OQ.gtrB (b := 0); exact rfl; exact rfl; exact h0) | (apply OQ.pick_f; exact rfl; exact rfl) | (apply OQ.move; exact rfl) | (apply OQ.assign; exact rfl) | (apply OQ.len; exact rfl; exact rfl) | (apply OQ.addN; exact rfl; exact rfl; exact (by (try simp only []); omega)) | (apply OQ.subN; exact rfl; exact rfl; exact (by (try simp only []); omega); exact (by (try simp only []); omega)) | (apply OQ.lssN; exact rfl; exact rfl)) rfl ?_ | refine JC.seq ?_ | refine JC.region ?_ | refine JC.block ?_ | refine JC.skip ?_ | refine JC.exit ?_ | refine JL.nil ?_ | refine JE.next ?_ | refine JE.blk_normal ?_ | refine JE.then_exit ?_ | refine JE.blk_hit ?_ | refine JE.blk_miss rfl ?_ | refine JE.then_ret ?_ | refine JE.blk_ret ?_ | refine JC.label ?_ | refine JL.gon rfl rfl ?_ | refine JL.gskip rfl rfl rfl rfl ?_ | refine JL.gskipU rfl rfl rfl rfl ?_)
      refine JC.cond rfl (fun h => by cases h) (fun h => ?_)
      repeat (first | refine JL.q (by first | (apply OQ.move; exact rfl) | (apply OQ.assign; exact rfl) | (apply OQ.len; exact rfl; exact rfl) | (apply OQ.addN; exact rfl; exact rfl; exact (by (try simp only []); omega)) | (apply OQ.subN; exact rfl; exact rfl; exact (by (try simp only []); omega); exact (by (try simp only []); omega)) | (apply OQ.lssN; exact rfl; exact rfl)) rfl ?_ | refine JC.seq ?_ | refine JC.region ?_ | refine JC.block ?_ | refine JC.skip ?_ | refine JC.exit ?_ | refine JL.nil ?_ | refine JE.next ?_ | refine JE.blk_normal ?_ | refine JE.then_exit ?_ | refine JE.blk_hit ?_ | refine JE.blk_miss rfl ?_ | refine JE.then_ret ?_ | refine JE.blk_ret ?_ | refine JC.label ?_ | refine JL.gon rfl rfl ?_ | refine JL.gskip rfl rfl rfl rfl ?_ | refine JL.gskipU rfl rfl rfl rfl ?_)
      exact JE.mid () trivial (by repeat (first | exact SubE.nil | refine SubE.cons _ _ _ rfl ?_)) (Less.refl _)
  rintro ⟨⟩ _
  have hs1 : (trimL s).length ≤ s.length := (List.dropWhile_sublist _).length_le
  rw [show trim s = (trimL (trimL s).reverse).reverse from rfl]
  generalize trimL s = u at hs1 ⊢
  repeat (first | refine JL.q (by first | (apply OQ.move; exact rfl) | (apply OQ.assign; exact rfl) | (apply OQ.len; exact rfl; exact rfl) | (apply OQ.addN; exact rfl; exact rfl; exact (by (try simp only []); omega)) | (apply OQ.subN; exact rfl; exact rfl; exact (by (try simp only []); omega); exact (by (try simp only []); omega)) | (apply OQ.lssN; exact rfl; exact rfl)) rfl ?_ | refine JC.seq ?_ | refine JC.region ?_ | refine JC.block ?_ | refine JC.skip ?_ | refine JC.exit ?_ | refine JL.nil ?_ | refine JE.next ?_ | refine JE.blk_normal ?_ | refine JE.then_exit ?_ | refine JE.blk_hit ?_ | refine JE.blk_miss rfl ?_ | refine JE.then_ret ?_ | refine JE.blk_ret ?_ | refine JC.label ?_ | refine JL.gon rfl rfl ?_ | refine JL.gskip rfl rfl rfl rfl ?_ | refine JL.gskipU rfl rfl rfl rfl ?_)
  refine JC.joinB (ι := Unit) (fun _ => [(0, Z (trimL u.reverse).reverse)]) (fun _ => []) (fun _ => True) ?_ ?_
  · refine JC.loop (fun v : List Fld.By => [(0, Z v)]) (fun _ => []) (fun v => v.length) (fun v => v.length ≤ s.length ∧ trimL v.reverse = trimL u.reverse) u ⟨hs1, rfl⟩ (by repeat (first | exact SubE.nil | refine SubE.cons _ _ _ rfl ?_)) (Less.refl _) ?_
    rintro v ⟨hv, ht⟩
    cases h0 : decide ((0 : Int) < (v.length : Int))
    case true =>
      have hp : 0 < v.length := by have := of_decide_eq_true h0; omega
      have hidx := fun {n : Nat} {E : Env} {C : World → Prop} {dst : Option Tmp} {ty : TypeId} {pos : String} {aft : Array Edge} {g : Option (Nat × Bool)} {x y : Operand} => idxAt10 (s := v) (i := v.length - 1) (by omega) (n := n) (E := E) (C := C) (dst := dst) (ty := ty) (pos := pos) (aft := aft) (g := g) (x := x) (y := y)
      have hgo := trimR_go hp
      have hst := trimR_stop (v := v)
      have hb := bl_is10 (v.getD (v.length - 1) 0)
      generalize v.getD (v.length - 1) 0 = c at hidx hgo hst hb
      cases h1 : decide ((c.toNat : Int) = 32) <;> cases h2 : decide ((c.toNat : Int) = 9)
      all_goals (
        rw [h1, h2] at hb
        (repeat (first | refine JL.q (by first | (apply OQ.lenS; exact Tryd.underlying9; exact rfl) | (apply OQ.gtrB (b := 0); exact rfl; exact rfl; exact h0) | (apply hidx; exact rfl; exact rfl) | (apply OQ.eqB (b := 32); exact rfl; exact rfl; exact h1) | (apply OQ.eqB (b := 9); exact rfl; exact rfl; exact h2) | (apply OQ.pick_t; exact rfl; exact rfl) | (apply OQ.pick_f; exact rfl; exact rfl) | (apply OQ.move; exact rfl) | (apply OQ.assign; exact rfl) | (apply OQ.len; exact rfl; exact rfl) | (apply OQ.addN; exact rfl; exact rfl; exact (by (try simp only []); omega)) | (apply OQ.subN; exact rfl; exact rfl; exact (by (try simp only []); omega); exact (by (try simp only []); omega)) | (apply OQ.lssN; exact rfl; exact rfl)) rfl ?_ | refine JC.seq ?_ | refine JC.region ?_ | refine JC.block ?_ | refine JC.skip ?_ | refine JC.exit ?_ | refine JL.nil ?_ | refine JE.next ?_ | refine JE.blk_normal ?_ | refine JE.then_exit ?_ | refine JE.blk_hit ?_ | refine JE.blk_miss rfl ?_ | refine JE.then_ret ?_ | refine JE.blk_ret ?_ | refine JC.label ?_ | refine JL.gon rfl rfl ?_ | refine JL.gskip rfl rfl rfl rfl ?_ | refine JL.gskipU rfl rfl rfl rfl ?_))
        refine JC.cond rfl (fun h => ?_) (fun h => ?_)
        all_goals first | (exfalso; revert h; decide) | skip
        all_goals clear h)
      case false.false =>
        rw [← ht, hst fun _ => hb, List.reverse_reverse]
        (repeat (first | refine JL.q (by first | (apply OQ.move; exact rfl) | (apply OQ.assign; exact rfl) | (apply OQ.len; exact rfl; exact rfl) | (apply OQ.addN; exact rfl; exact rfl; exact (by (try simp only []); omega)) | (apply OQ.subN; exact rfl; exact rfl; exact (by (try simp only []); omega); exact (by (try simp only []); omega)) | (apply OQ.lssN; exact rfl; exact rfl)) rfl ?_ | refine JC.seq ?_ | refine JC.region ?_ | refine JC.block ?_ | refine JC.skip ?_ | refine JC.exit ?_ | refine JL.nil ?_ | refine JE.next ?_ | refine JE.blk_normal ?_ | refine JE.then_exit ?_ | refine JE.blk_hit ?_ | refine JE.blk_miss rfl ?_ | refine JE.then_ret ?_ | refine JE.blk_ret ?_ | refine JC.label ?_ | refine JL.gon rfl rfl ?_ | refine JL.gskip rfl rfl rfl rfl ?_ | refine JL.gskipU rfl rfl rfl rfl ?_))
        exact JE.mid () trivial (by repeat (first | exact SubE.nil | refine SubE.cons _ _ _ rfl ?_)) (Less.refl _)
      all_goals (
        (repeat (first | refine JL.q (by first | (apply OQ.lenS; exact Tryd.underlying9; exact rfl) | (apply OQ.subS_hi (j := v.length - 1); exact Tryd.underlying9; exact rfl; exact rfl; exact (by omega)) | (apply OQ.move; exact rfl) | (apply OQ.assign; exact rfl) | (apply OQ.len; exact rfl; exact rfl) | (apply OQ.addN; exact rfl; exact rfl; exact (by (try simp only []); omega)) | (apply OQ.subN; exact rfl; exact rfl; exact (by (try simp only []); omega); exact (by (try simp only []); omega)) | (apply OQ.lssN; exact rfl; exact rfl)) rfl ?_ | refine JC.seq ?_ | refine JC.region ?_ | refine JC.block ?_ | refine JC.skip ?_ | refine JC.exit ?_ | refine JL.nil ?_ | refine JE.next ?_ | refine JE.blk_normal ?_ | refine JE.then_exit ?_ | refine JE.blk_hit ?_ | refine JE.blk_miss rfl ?_ | refine JE.then_ret ?_ | refine JE.blk_ret ?_ | refine JC.label ?_ | refine JL.gon rfl rfl ?_ | refine JL.gskip rfl rfl rfl rfl ?_ | refine JL.gskipU rfl rfl rfl rfl ?_))
        refine JE.again (i := v) (v.take (v.length - 1)) ⟨by rw [List.length_take]; omega, by rw [hgo hb, ht]⟩ (by rw [List.length_take]; omega) (by repeat (first | exact SubE.nil | refine SubE.cons _ _ _ rfl ?_)) (Less.refl _))
    case false =>
      have hn : ¬ 0 < v.length := by have := of_decide_eq_false h0; omega
      rw [← ht, trimR_stop fun h => absurd h hn, List.reverse_reverse]
      repeat (first | refine JL.q (by first | (apply OQ.lenS; exact Tryd.underlying9; exact rfl) | (apply OQ.gtrB (b := 0); exact rfl; exact rfl; exact h0) | (apply OQ.pick_f; exact rfl; exact rfl) | (apply OQ.move; exact rfl) | (apply OQ.assign; exact rfl) | (apply OQ.len; exact rfl; exact rfl) | (apply OQ.addN; exact rfl; exact rfl; exact (by (try simp only []); omega)) | (apply OQ.subN; exact rfl; exact rfl; exact (by (try simp only []); omega); exact (by (try simp only []); omega)) | (apply OQ.lssN; exact rfl; exact rfl)) rfl ?_ | refine JC.seq ?_ | refine JC.region ?_ | refine JC.block ?_ | refine JC.skip ?_ | refine JC.exit ?_ | refine JL.nil ?_ | refine JE.next ?_ | refine JE.blk_normal ?_ | refine JE.then_exit ?_ | refine JE.blk_hit ?_ | refine JE.blk_miss rfl ?_ | refine JE.then_ret ?_ | refine JE.blk_ret ?_ | refine JC.label ?_ | refine JL.gon rfl rfl ?_ | refine JL.gskip rfl rfl rfl rfl ?_ | refine JL.gskipU rfl rfl rfl rfl ?_)
      refine JC.cond rfl (fun h => by cases h) (fun h => ?_)
      repeat (first | refine JL.q (by first | (apply OQ.move; exact rfl) | (apply OQ.assign; exact rfl) | (apply OQ.len; exact rfl; exact rfl) | (apply OQ.addN; exact rfl; exact rfl; exact (by (try simp only []); omega)) | (apply OQ.subN; exact rfl; exact rfl; exact (by (try simp only []); omega); exact (by (try simp only []); omega)) | (apply OQ.lssN; exact rfl; exact rfl)) rfl ?_ | refine JC.seq ?_ | refine JC.region ?_ | refine JC.block ?_ | refine JC.skip ?_ | refine JC.exit ?_ | refine JL.nil ?_ | refine JE.next ?_ | refine JE.blk_normal ?_ | refine JE.then_exit ?_ | refine JE.blk_hit ?_ | refine JE.blk_miss rfl ?_ | refine JE.then_ret ?_ | refine JE.blk_ret ?_ | refine JC.label ?_ | refine JL.gon rfl rfl ?_ | refine JL.gskip rfl rfl rfl rfl ?_ | refine JL.gskipU rfl rfl rfl rfl ?_)
      exact JE.mid () trivial (by repeat (first | exact SubE.nil | refine SubE.cons _ _ _ rfl ?_)) (Less.refl _)
  rintro ⟨⟩ _
  repeat (first | refine JL.q (by first | (apply OQ.move; exact rfl) | (apply OQ.assign; exact rfl) | (apply OQ.len; exact rfl; exact rfl) | (apply OQ.addN; exact rfl; exact rfl; exact (by (try simp only []); omega)) | (apply OQ.subN; exact rfl; exact rfl; exact (by (try simp only []); omega); exact (by (try simp only []); omega)) | (apply OQ.lssN; exact rfl; exact rfl)) rfl ?_ | refine JC.seq ?_ | refine JC.region ?_ | refine JC.block ?_ | refine JC.skip ?_ | refine JC.exit ?_ | refine JL.nil ?_ | refine JE.next ?_ | refine JE.blk_normal ?_ | refine JE.then_exit ?_ | refine JE.blk_hit ?_ | refine JE.blk_miss rfl ?_ | refine JE.then_ret ?_ | refine JE.blk_ret ?_ | refine JC.label ?_ | refine JL.gon rfl rfl ?_ | refine JL.gskip rfl rfl rfl rfl ?_ | refine JL.gskipU rfl rfl rfl rfl ?_)
  refine JC.ret ?_
  repeat (first | refine JL.q (by first | (apply OQ.move; exact rfl) | (apply OQ.assign; exact rfl) | (apply OQ.len; exact rfl; exact rfl) | (apply OQ.addN; exact rfl; exact rfl; exact (by (try simp only []); omega)) | (apply OQ.subN; exact rfl; exact rfl; exact (by (try simp only []); omega); exact (by (try simp only []); omega)) | (apply OQ.lssN; exact rfl; exact rfl)) rfl ?_ | refine JC.seq ?_ | refine JC.region ?_ | refine JC.block ?_ | refine JC.skip ?_ | refine JC.exit ?_ | refine JL.nil ?_ | refine JE.next ?_ | refine JE.blk_normal ?_ | refine JE.then_exit ?_ | refine JE.blk_hit ?_ | refine JE.blk_miss rfl ?_ | refine JE.then_ret ?_ | refine JE.blk_ret ?_ | refine JC.label ?_ | refine JL.gon rfl rfl ?_ | refine JL.gskip rfl rfl rfl rfl ?_ | refine JL.gskipU rfl rfl rfl rfl ?_)
  exact JE.ret1 rfl (RV.tmp rfl) fun w' hw => ⟨rfl, hw.chg⟩
theorem eq46 (c : Fld.By) : decide ((c.toNat : Int) = 46) = decide (c = 46) := by
  have h := eq_nat 46 c
  rw [show (((46 : Fld.By).toNat : Nat) : Int) = 46 from rfl] at h
  rw [h]; rfl
theorem drop_getD {s : List Fld.By} {i : Nat} (h : i < s.length) : s.drop i = s.getD i 0 :: s.drop (i + 1) := by
  rw [List.drop_eq_getElem_cons h, List.getD_eq_getElem?_getD, List.getElem?_eq_getElem h]; rfl
set_option maxHeartbeats 16000000 in
theorem rdotted_any (s : List Fld.By) (w : World) (hl : s.length < 9223372036854775808) : Calls Tryd.prog 63 [Z s].toArray w fun e w' => e = .returned (.bool (dotB s)) ∧ Ext w w' := by
  refine enter (n := 37) Tryd.func63 rfl rfl rfl (Holds.start w []) ?_
  repeat (first | refine JL.q (by first | (apply OQ.move; exact rfl) | (apply OQ.assign; exact rfl) | (apply OQ.len; exact rfl; exact rfl) | (apply OQ.addN; exact rfl; exact rfl; exact (by (try simp only []); omega)) | (apply OQ.subN; exact rfl; exact rfl; exact (by (try simp only []); omega); exact (by (try simp only []); omega)) | (apply OQ.lssN; exact rfl; exact rfl)) rfl ?_ | refine JC.seq ?_ | refine JC.region ?_ | refine JC.block ?_ | refine JC.skip ?_ | refine JC.exit ?_ | refine JL.nil ?_ | refine JE.next ?_ | refine JE.blk_normal ?_ | refine JE.then_exit ?_ | refine JE.blk_hit ?_ | refine JE.blk_miss rfl ?_ | refine JE.then_ret ?_ | refine JE.blk_ret ?_ | refine JC.label ?_ | refine JL.gon rfl rfl ?_ | refine JL.gskip rfl rfl rfl rfl ?_ | refine JL.gskipU rfl rfl rfl rfl ?_)
  refine JC.loop (fun q : Nat × Fld.By => [(0, Z s), (3, U8 q.2), (4, N q.1)]) (fun _ => []) (fun q => s.length - q.1) (fun q => q.1 ≤ s.length ∧ dotB s = dotR (s.drop q.1) q.2) (0, 46) ⟨Nat.zero_le _, rfl⟩ (by repeat (first | exact SubE.nil | refine SubE.cons _ _ _ rfl ?_)) (Less.refl _) ?_
  rintro ⟨i, l⟩ ⟨hi, ha⟩
  simp only at hi ha
  dsimp only
  have hl4 := eq46 l
  repeat (first | refine JL.q (by first | (apply OQ.lenS; exact Tryd.underlying9; exact rfl) | (apply OQ.move; exact rfl) | (apply OQ.assign; exact rfl) | (apply OQ.len; exact rfl; exact rfl) | (apply OQ.addN; exact rfl; exact rfl; exact (by (try simp only []); omega)) | (apply OQ.subN; exact rfl; exact rfl; exact (by (try simp only []); omega); exact (by (try simp only []); omega)) | (apply OQ.lssN; exact rfl; exact rfl)) rfl ?_ | refine JC.seq ?_ | refine JC.region ?_ | refine JC.block ?_ | refine JC.skip ?_ | refine JC.exit ?_ | refine JL.nil ?_ | refine JE.next ?_ | refine JE.blk_normal ?_ | refine JE.then_exit ?_ | refine JE.blk_hit ?_ | refine JE.blk_miss rfl ?_ | refine JE.then_ret ?_ | refine JE.blk_ret ?_ | refine JC.label ?_ | refine JL.gon rfl rfl ?_ | refine JL.gskip rfl rfl rfl rfl ?_ | refine JL.gskipU rfl rfl rfl rfl ?_)
  refine JC.cond rfl (fun h => ?_) (fun h => ?_)
  · have hi' : i < s.length := of_decide_eq_true h
    clear h hi
    rw [drop_getD hi'] at ha
    have hidx := fun {n : Nat} {E : Env} {C : World → Prop} {dst : Option Tmp} {ty : TypeId} {pos : String} {aft : Array Edge} {g : Option (Nat × Bool)} {x y : Operand} => idxAt10 hi' (n := n) (E := E) (C := C) (dst := dst) (ty := ty) (pos := pos) (aft := aft) (g := g) (x := x) (y := y)
    have cP := fun w' => rplain_any (s.getD i 0) w'
    generalize s.getD i 0 = c at hidx cP ha
    have hc4 := eq46 c
    unfold dotR at ha
    generalize plainB c = x at cP ha
    cases h1 : decide ((c.toNat : Int) = 46) <;> cases h2 : decide ((l.toNat : Int) = 46) <;> cases h3 : x
    all_goals (
      subst h3
      rw [h1] at hc4
      rw [h2] at hl4
      have hc := hc4.symm
      have hl := hl4.symm
      simp only [decide_eq_true_eq, decide_eq_false_iff_not] at hc hl
      simp only [hc, hl, true_and, and_true, false_and, and_false, or_false, false_or, not_true, not_false_eq_true, if_true, if_false, reduceCtorEq] at ha
      (repeat (first | refine JL.q (by first | (apply hidx; exact rfl; exact rfl) | (apply OQ.eqB (b := 46); exact rfl; exact rfl; exact h1) | (apply OQ.eqB (b := 46); exact rfl; exact rfl; exact h2) | (apply OQ.neB (b := 46); exact rfl; exact rfl; exact h1) | (apply OQ.callb (vs := [U8 c]); exact goes_rplain; exact rfl; exact cP; exact rfl) | (apply OQ.not; exact rfl) | (apply OQ.pick_t; exact rfl; exact rfl) | (apply OQ.pick_f; exact rfl; exact rfl) | (apply OQ.move; exact rfl) | (apply OQ.assign; exact rfl) | (apply OQ.len; exact rfl; exact rfl) | (apply OQ.addN; exact rfl; exact rfl; exact (by (try simp only []); omega)) | (apply OQ.subN; exact rfl; exact rfl; exact (by (try simp only []); omega); exact (by (try simp only []); omega)) | (apply OQ.lssN; exact rfl; exact rfl)) rfl ?_ | refine JC.seq ?_ | refine JC.region ?_ | refine JC.block ?_ | refine JC.skip ?_ | refine JC.exit ?_ | refine JL.nil ?_ | refine JE.next ?_ | refine JE.blk_normal ?_ | refine JE.then_exit ?_ | refine JE.blk_hit ?_ | refine JE.blk_miss rfl ?_ | refine JE.then_ret ?_ | refine JE.blk_ret ?_ | refine JC.label ?_ | refine JL.gon rfl rfl ?_ | refine JL.gskip rfl rfl rfl rfl ?_ | refine JL.gskipU rfl rfl rfl rfl ?_))
      refine JC.cond rfl (fun h => ?_) (fun h => ?_)
      all_goals first | (exfalso; revert h; decide) | skip
      all_goals clear h)
    all_goals first
      | (rw [ha]
         (repeat (first | refine JL.q (by first | (apply OQ.move; exact rfl) | (apply OQ.assign; exact rfl) | (apply OQ.len; exact rfl; exact rfl) | (apply OQ.addN; exact rfl; exact rfl; exact (by (try simp only []); omega)) | (apply OQ.subN; exact rfl; exact rfl; exact (by (try simp only []); omega); exact (by (try simp only []); omega)) | (apply OQ.lssN; exact rfl; exact rfl)) rfl ?_ | refine JC.seq ?_ | refine JC.region ?_ | refine JC.block ?_ | refine JC.skip ?_ | refine JC.exit ?_ | refine JL.nil ?_ | refine JE.next ?_ | refine JE.blk_normal ?_ | refine JE.then_exit ?_ | refine JE.blk_hit ?_ | refine JE.blk_miss rfl ?_ | refine JE.then_ret ?_ | refine JE.blk_ret ?_ | refine JC.label ?_ | refine JL.gon rfl rfl ?_ | refine JL.gskip rfl rfl rfl rfl ?_ | refine JL.gskipU rfl rfl rfl rfl ?_))
         refine JC.ret ?_
         (repeat (first | refine JL.q (by first | (apply OQ.move; exact rfl) | (apply OQ.assign; exact rfl) | (apply OQ.len; exact rfl; exact rfl) | (apply OQ.addN; exact rfl; exact rfl; exact (by (try simp only []); omega)) | (apply OQ.subN; exact rfl; exact rfl; exact (by (try simp only []); omega); exact (by (try simp only []); omega)) | (apply OQ.lssN; exact rfl; exact rfl)) rfl ?_ | refine JC.seq ?_ | refine JC.region ?_ | refine JC.block ?_ | refine JC.skip ?_ | refine JC.exit ?_ | refine JL.nil ?_ | refine JE.next ?_ | refine JE.blk_normal ?_ | refine JE.then_exit ?_ | refine JE.blk_hit ?_ | refine JE.blk_miss rfl ?_ | refine JE.then_ret ?_ | refine JE.blk_ret ?_ | refine JC.label ?_ | refine JL.gon rfl rfl ?_ | refine JL.gskip rfl rfl rfl rfl ?_ | refine JL.gskipU rfl rfl rfl rfl ?_))
         exact JE.ret1 rfl (RV.tmp rfl) fun w' hw => ⟨rfl, hw.chg⟩)
      | ((repeat (first | refine JL.q (by first | (apply hidx; exact rfl; exact rfl) | (apply OQ.move; exact rfl) | (apply OQ.assign; exact rfl) | (apply OQ.len; exact rfl; exact rfl) | (apply OQ.addN; exact rfl; exact rfl; exact (by (try simp only []); omega)) | (apply OQ.subN; exact rfl; exact rfl; exact (by (try simp only []); omega); exact (by (try simp only []); omega)) | (apply OQ.lssN; exact rfl; exact rfl)) rfl ?_ | refine JC.seq ?_ | refine JC.region ?_ | refine JC.block ?_ | refine JC.skip ?_ | refine JC.exit ?_ | refine JL.nil ?_ | refine JE.next ?_ | refine JE.blk_normal ?_ | refine JE.then_exit ?_ | refine JE.blk_hit ?_ | refine JE.blk_miss rfl ?_ | refine JE.then_ret ?_ | refine JE.blk_ret ?_ | refine JC.label ?_ | refine JL.gon rfl rfl ?_ | refine JL.gskip rfl rfl rfl rfl ?_ | refine JL.gskipU rfl rfl rfl rfl ?_))
         exact JE.again (i := (i, l)) (i + 1, c) ⟨hi', by show dotB s = dotR (s.drop (i + 1)) c; first | exact ha | (rw [hc]; exact ha)⟩ (by show s.length - (i + 1) < s.length - i; omega) (by repeat (first | exact SubE.nil | refine SubE.cons _ _ _ rfl ?_)) (Less.refl _))
  · have hi' : ¬ i < s.length := of_decide_eq_false h
    obtain rfl : i = s.length := by omega
    clear h hi hi'
    rw [List.drop_length] at ha
    have he : (l == 46) = decide ((l.toNat : Int) = 46) := (eq_nat 46 l).symm
    rw [ha, dotR, he]
    cases h1 : decide ((l.toNat : Int) = 46)
    all_goals (repeat (first | refine JL.q (by first | (apply OQ.neB (b := 46); exact rfl; exact rfl; exact h1) | (apply OQ.move; exact rfl) | (apply OQ.assign; exact rfl) | (apply OQ.len; exact rfl; exact rfl) | (apply OQ.addN; exact rfl; exact rfl; exact (by (try simp only []); omega)) | (apply OQ.subN; exact rfl; exact rfl; exact (by (try simp only []); omega); exact (by (try simp only []); omega)) | (apply OQ.lssN; exact rfl; exact rfl)) rfl ?_ | refine JC.seq ?_ | refine JC.region ?_ | refine JC.block ?_ | refine JC.skip ?_ | refine JC.exit ?_ | refine JL.nil ?_ | refine JE.next ?_ | refine JE.blk_normal ?_ | refine JE.then_exit ?_ | refine JE.blk_hit ?_ | refine JE.blk_miss rfl ?_ | refine JE.then_ret ?_ | refine JE.blk_ret ?_ | refine JC.label ?_ | refine JL.gon rfl rfl ?_ | refine JL.gskip rfl rfl rfl rfl ?_ | refine JL.gskipU rfl rfl rfl rfl ?_))
    all_goals refine JC.ret ?_
    all_goals exact JE.ret1 rfl (RV.tmp rfl) fun w' hw => ⟨rfl, hw.chg⟩
theorem fst_is (c : Fld.By) : ∀ (s : List Fld.By) {i : Nat}, i < s.length → (s.take i).all (fun d => !(d == c)) = true → (s.getD i 0 == c) = true → fst c s = i
  | [], i, h, _, _ => by simp at h
  | d :: r, 0, _, _, h => by
    have h' : (d == c) = true := h
    unfold fst
    rw [List.takeWhile_cons, if_neg (by rw [h']; decide)]; rfl
  | d :: r, i + 1, hi, ha, h => by
    rw [List.take_succ_cons, List.all_cons, Bool.and_eq_true] at ha
    have := fst_is c r (i := i) (by simpa using hi) ha.2 h
    unfold fst at this ⊢
    rw [List.takeWhile_cons, if_pos ha.1, List.length_cons, this]
theorem fst_end (c : Fld.By) : ∀ s : List Fld.By, s.all (fun d => !(d == c)) = true → fst c s = s.length
  | [], _ => rfl
  | d :: r, h => by
    rw [List.all_cons, Bool.and_eq_true] at h
    have := fst_end c r h.2
    unfold fst at this ⊢
    rw [List.takeWhile_cons, if_pos h.1, List.length_cons, this, List.length_cons]
theorem fst_le (c : Fld.By) (s : List Fld.By) : fst c s ≤ s.length := (List.takeWhile_sublist _).length_le
theorem eqc (c : Fld.By) (k : Fld.By) : (c == k) = decide ((c.toNat : Int) = (k.toNat : Int)) := (eq_nat k c).symm
set_option maxHeartbeats 16000000 in
theorem rkind_any (s : List Fld.By) (w : World) (hl : s.length < 9223372036854775807) : Calls Tryd.prog 69 [Z s].toArray w fun e w' => e = .returned (.bool (kindB s)) ∧ Ext w w' := by
  refine enter (n := 33) Tryd.func69 rfl rfl rfl (Holds.start w []) ?_
  repeat (first | refine JL.q (by first | (apply OQ.move; exact rfl) | (apply OQ.assign; exact rfl) | (apply OQ.len; exact rfl; exact rfl) | (apply OQ.addN; exact rfl; exact rfl; exact (by (try simp only []); omega)) | (apply OQ.subN; exact rfl; exact rfl; exact (by (try simp only []); omega); exact (by (try simp only []); omega)) | (apply OQ.lssN; exact rfl; exact rfl)) rfl ?_ | refine JC.seq ?_ | refine JC.region ?_ | refine JC.block ?_ | refine JC.skip ?_ | refine JC.exit ?_ | refine JL.nil ?_ | refine JE.next ?_ | refine JE.blk_normal ?_ | refine JE.then_exit ?_ | refine JE.blk_hit ?_ | refine JE.blk_miss rfl ?_ | refine JE.then_ret ?_ | refine JE.blk_ret ?_ | refine JC.label ?_ | refine JL.gon rfl rfl ?_ | refine JL.gskip rfl rfl rfl rfl ?_ | refine JL.gskipU rfl rfl rfl rfl ?_)
  refine JC.joinB (ι := Unit) (fun _ => [(0, Z s), (3, N (fst 47 s))]) (fun _ => []) (fun _ => True) ?_ ?_
  · refine JC.loop (fun i : Nat => [(0, Z s), (3, N i)]) (fun _ => []) (fun i => s.length - i) (fun i => i ≤ s.length ∧ (s.take i).all (fun d => !(d == 47)) = true) 0 ⟨Nat.zero_le _, rfl⟩ (by repeat (first | exact SubE.nil | refine SubE.cons _ _ _ rfl ?_)) (Less.refl _) ?_
    rintro i ⟨hi, ha⟩
    cases h0 : decide ((i : Int) < (s.length : Int))
    · obtain rfl : i = s.length := by have := of_decide_eq_false h0; omega
      rw [List.take_length] at ha
      rw [fst_end 47 s ha]
      repeat (first | refine JL.q (by first | (apply OQ.lenS; exact Tryd.underlying9; exact rfl) | (apply OQ.lssB; exact rfl; exact rfl; exact h0) | (apply OQ.pick_f; exact rfl; exact rfl) | (apply OQ.move; exact rfl) | (apply OQ.assign; exact rfl) | (apply OQ.len; exact rfl; exact rfl) | (apply OQ.addN; exact rfl; exact rfl; exact (by (try simp only []); omega)) | (apply OQ.subN; exact rfl; exact rfl; exact (by (try simp only []); omega); exact (by (try simp only []); omega)) | (apply OQ.lssN; exact rfl; exact rfl)) rfl ?_ | refine JC.seq ?_ | refine JC.region ?_ | refine JC.block ?_ | refine JC.skip ?_ | refine JC.exit ?_ | refine JL.nil ?_ | refine JE.next ?_ | refine JE.blk_normal ?_ | refine JE.then_exit ?_ | refine JE.blk_hit ?_ | refine JE.blk_miss rfl ?_ | refine JE.then_ret ?_ | refine JE.blk_ret ?_ | refine JC.label ?_ | refine JL.gon rfl rfl ?_ | refine JL.gskip rfl rfl rfl rfl ?_ | refine JL.gskipU rfl rfl rfl rfl ?_)
      refine JC.cond rfl (fun h => by cases h) (fun h => ?_)
      repeat (first | refine JL.q (by first | (apply OQ.move; exact rfl) | (apply OQ.assign; exact rfl) | (apply OQ.len; exact rfl; exact rfl) | (apply OQ.addN; exact rfl; exact rfl; exact (by (try simp only []); omega)) | (apply OQ.subN; exact rfl; exact rfl; exact (by (try simp only []); omega); exact (by (try simp only []); omega)) | (apply OQ.lssN; exact rfl; exact rfl)) rfl ?_ | refine JC.seq ?_ | refine JC.region ?_ | refine JC.block ?_ | refine JC.skip ?_ | refine JC.exit ?_ | refine JL.nil ?_ | refine JE.next ?_ | refine JE.blk_normal ?_ | refine JE.then_exit ?_ | refine JE.blk_hit ?_ | refine JE.blk_miss rfl ?_ | refine JE.then_ret ?_ | refine JE.blk_ret ?_ | refine JC.label ?_ | refine JL.gon rfl rfl ?_ | refine JL.gskip rfl rfl rfl rfl ?_ | refine JL.gskipU rfl rfl rfl rfl ?_)
      exact JE.mid () trivial (by repeat (first | exact SubE.nil | refine SubE.cons _ _ _ rfl ?_)) (Less.refl _)
    · have hi' : i < s.length := by have := of_decide_eq_true h0; omega
      have hf := fst_is 47 s hi' ha
      have hx := all_take (fun d => !(d == (47 : Fld.By))) s 0 hi'
      rw [ha, Bool.true_and] at hx
      have hidx := fun {n : Nat} {E : Env} {C : World → Prop} {dst : Option Tmp} {ty : TypeId} {pos : String} {aft : Array Edge} {g : Option (Nat × Bool)} {x y : Operand} => idxAt10 hi' (n := n) (E := E) (C := C) (dst := dst) (ty := ty) (pos := pos) (aft := aft) (g := g) (x := x) (y := y)
      generalize s.getD i 0 = c at hidx hf hx
      rw [eqc] at hf
      rw [eqc] at hx
      cases h1 : decide ((c.toNat : Int) = 47)
      · repeat (first | refine JL.q (by first | (apply OQ.lenS; exact Tryd.underlying9; exact rfl) | (apply OQ.lssB; exact rfl; exact rfl; exact h0) | (apply hidx; exact rfl; exact rfl) | (apply OQ.neB (b := 47); exact rfl; exact rfl; exact h1) | (apply OQ.pick_t; exact rfl; exact rfl) | (apply OQ.move; exact rfl) | (apply OQ.assign; exact rfl) | (apply OQ.len; exact rfl; exact rfl) | (apply OQ.addN; exact rfl; exact rfl; exact (by (try simp only []); omega)) | (apply OQ.subN; exact rfl; exact rfl; exact (by (try simp only []); omega); exact (by (try simp only []); omega)) | (apply OQ.lssN; exact rfl; exact rfl)) rfl ?_ | refine JC.seq ?_ | refine JC.region ?_ | refine JC.block ?_ | refine JC.skip ?_ | refine JC.exit ?_ | refine JL.nil ?_ | refine JE.next ?_ | refine JE.blk_normal ?_ | refine JE.then_exit ?_ | refine JE.blk_hit ?_ | refine JE.blk_miss rfl ?_ | refine JE.then_ret ?_ | refine JE.blk_ret ?_ | refine JC.label ?_ | refine JL.gon rfl rfl ?_ | refine JL.gskip rfl rfl rfl rfl ?_ | refine JL.gskipU rfl rfl rfl rfl ?_)
        refine JC.cond rfl (fun h => ?_) (fun h => by cases h)
        repeat (first | refine JL.q (by first | (apply OQ.move; exact rfl) | (apply OQ.assign; exact rfl) | (apply OQ.len; exact rfl; exact rfl) | (apply OQ.addN; exact rfl; exact rfl; exact (by (try simp only []); omega)) | (apply OQ.subN; exact rfl; exact rfl; exact (by (try simp only []); omega); exact (by (try simp only []); omega)) | (apply OQ.lssN; exact rfl; exact rfl)) rfl ?_ | refine JC.seq ?_ | refine JC.region ?_ | refine JC.block ?_ | refine JC.skip ?_ | refine JC.exit ?_ | refine JL.nil ?_ | refine JE.next ?_ | refine JE.blk_normal ?_ | refine JE.then_exit ?_ | refine JE.blk_hit ?_ | refine JE.blk_miss rfl ?_ | refine JE.then_ret ?_ | refine JE.blk_ret ?_ | refine JC.label ?_ | refine JL.gon rfl rfl ?_ | refine JL.gskip rfl rfl rfl rfl ?_ | refine JL.gskipU rfl rfl rfl rfl ?_)
        exact JE.again (i := i) (i + 1) ⟨hi', by rw [hx]; exact congrArg not h1⟩ (by omega) (by repeat (first | exact SubE.nil | refine SubE.cons _ _ _ rfl ?_)) (Less.refl _)
      · rw [hf h1]
        repeat (first | refine JL.q (by first | (apply OQ.lenS; exact Tryd.underlying9; exact rfl) | (apply OQ.lssB; exact rfl; exact rfl; exact h0) | (apply hidx; exact rfl; exact rfl) | (apply OQ.neB (b := 47); exact rfl; exact rfl; exact h1) | (apply OQ.pick_t; exact rfl; exact rfl) | (apply OQ.move; exact rfl) | (apply OQ.assign; exact rfl) | (apply OQ.len; exact rfl; exact rfl) | (apply OQ.addN; exact rfl; exact rfl; exact (by (try simp only []); omega)) | (apply OQ.subN; exact rfl; exact rfl; exact (by (try simp only []); omega); exact (by (try simp only []); omega)) | (apply OQ.lssN; exact rfl; exact rfl)) rfl ?_ | refine JC.seq ?_ | refine JC.region ?_ | refine JC.block ?_ | refine JC.skip ?_ | refine JC.exit ?_ | refine JL.nil ?_ | refine JE.next ?_ | refine JE.blk_normal ?_ | refine JE.then_exit ?_ | refine JE.blk_hit ?_ | refine JE.blk_miss rfl ?_ | refine JE.then_ret ?_ | refine JE.blk_ret ?_ | refine JC.label ?_ | refine JL.gon rfl rfl ?_ | refine JL.gskip rfl rfl rfl rfl ?_ | refine JL.gskipU rfl rfl rfl rfl ?_)
        refine JC.cond rfl (fun h => by cases h) (fun h => ?_)
        repeat (first | refine JL.q (by first | (apply OQ.move; exact rfl) | (apply OQ.assign; exact rfl) | (apply OQ.len; exact rfl; exact rfl) | (apply OQ.addN; exact rfl; exact rfl; exact (by (try simp only []); omega)) | (apply OQ.subN; exact rfl; exact rfl; exact (by (try simp only []); omega); exact (by (try simp only []); omega)) | (apply OQ.lssN; exact rfl; exact rfl)) rfl ?_ | refine JC.seq ?_ | refine JC.region ?_ | refine JC.block ?_ | refine JC.skip ?_ | refine JC.exit ?_ | refine JL.nil ?_ | refine JE.next ?_ | refine JE.blk_normal ?_ | refine JE.then_exit ?_ | refine JE.blk_hit ?_ | refine JE.blk_miss rfl ?_ | refine JE.then_ret ?_ | refine JE.blk_ret ?_ | refine JC.label ?_ | refine JL.gon rfl rfl ?_ | refine JL.gskip rfl rfl rfl rfl ?_ | refine JL.gskipU rfl rfl rfl rfl ?_)
        exact JE.mid () trivial (by repeat (first | exact SubE.nil | refine SubE.cons _ _ _ rfl ?_)) (Less.refl _)
  rintro ⟨⟩ _
  have hle := fst_le 47 s
  unfold kindB
  generalize fst 47 s = k at hle ⊢
  rw [show decide (k < s.length) = decide ((k : Int) < (s.length : Int)) from decide_eq_decide.2 (by omega)]
  have c1 := fun w' => ratom_any (s.take k) w' (by rw [List.length_take]; omega)
  have c2 := fun w' => ratom_any (s.drop (k + 1)) w' (by rw [List.length_drop]; omega)
  cases h0 : decide ((k : Int) < (s.length : Int))
  · repeat (first | refine JL.q (by first | (apply OQ.lenS; exact Tryd.underlying9; exact rfl) | (apply OQ.lssB; exact rfl; exact rfl; exact h0) | (apply OQ.pick_f; exact rfl; exact rfl) | (apply OQ.move; exact rfl) | (apply OQ.assign; exact rfl) | (apply OQ.len; exact rfl; exact rfl) | (apply OQ.addN; exact rfl; exact rfl; exact (by (try simp only []); omega)) | (apply OQ.subN; exact rfl; exact rfl; exact (by (try simp only []); omega); exact (by (try simp only []); omega)) | (apply OQ.lssN; exact rfl; exact rfl)) rfl ?_ | refine JC.seq ?_ | refine JC.region ?_ | refine JC.block ?_ | refine JC.skip ?_ | refine JC.exit ?_ | refine JL.nil ?_ | refine JE.next ?_ | refine JE.blk_normal ?_ | refine JE.then_exit ?_ | refine JE.blk_hit ?_ | refine JE.blk_miss rfl ?_ | refine JE.then_ret ?_ | refine JE.blk_ret ?_ | refine JC.label ?_ | refine JL.gon rfl rfl ?_ | refine JL.gskip rfl rfl rfl rfl ?_ | refine JL.gskipU rfl rfl rfl rfl ?_)
    refine JC.ret ?_
    exact JE.ret1 rfl (RV.tmp rfl) fun w' hw => ⟨rfl, hw.chg⟩
  · have hk : k < s.length := by have := of_decide_eq_true h0; omega
    cases h1 : atomB (s.take k) <;> cases h2 : atomB (s.drop (k + 1))
    all_goals (repeat (first | refine JL.q (by first | (apply OQ.lenS; exact Tryd.underlying9; exact rfl) | (apply OQ.lssB; exact rfl; exact rfl; exact h0) | (apply OQ.subS_hi; exact Tryd.underlying9; exact rfl; exact rfl; exact hle) | (apply OQ.subS_lo (i := k + 1); exact Tryd.underlying9; exact rfl; exact rfl; exact hk) | (apply OQ.callb (vs := [Z (s.take k)]); exact goes_ratom; exact rfl; exact c1; exact h1) | (apply OQ.callb (vs := [Z (s.drop (k + 1))]); exact goes_ratom; exact rfl; exact c2; exact h2) | (apply OQ.pick_t; exact rfl; exact rfl) | (apply OQ.pick_f; exact rfl; exact rfl) | (apply OQ.move; exact rfl) | (apply OQ.assign; exact rfl) | (apply OQ.len; exact rfl; exact rfl) | (apply OQ.addN; exact rfl; exact rfl; exact (by (try simp only []); omega)) | (apply OQ.subN; exact rfl; exact rfl; exact (by (try simp only []); omega); exact (by (try simp only []); omega)) | (apply OQ.lssN; exact rfl; exact rfl)) rfl ?_ | refine JC.seq ?_ | refine JC.region ?_ | refine JC.block ?_ | refine JC.skip ?_ | refine JC.exit ?_ | refine JL.nil ?_ | refine JE.next ?_ | refine JE.blk_normal ?_ | refine JE.then_exit ?_ | refine JE.blk_hit ?_ | refine JE.blk_miss rfl ?_ | refine JE.then_ret ?_ | refine JE.blk_ret ?_ | refine JC.label ?_ | refine JL.gon rfl rfl ?_ | refine JL.gskip rfl rfl rfl rfl ?_ | refine JL.gskipU rfl rfl rfl rfl ?_))
    all_goals refine JC.ret ?_
    all_goals exact JE.ret1 rfl (RV.tmp rfl) fun w' hw => ⟨rfl, hw.chg⟩
end Go.Proofs.YtchoiikhepjdiaaDoor

/-
  Of no statement by itself: what the landed token's dotted and Address give.
  Conditions: each theorem's own.
-/
namespace Go.Proofs.YtchoiikhepjdiaaDoor
set_option maxRecDepth 10000
open Sl Fld Tok
theorem goes_dotted : Goes Tryd.prog 60 := ⟨_, Tryd.func60, rfl, by kernel_rfl⟩
theorem goes_addrA : Goes Tryd.prog 31 := ⟨_, Tryd.func31, rfl, by kernel_rfl⟩
theorem strS1 : szT Tryd.prog 9 = some 1 := by kernel_rfl
/-! ### dotted atoms -/
theorem dotR_is : ∀ (s : List Fld.By) (l : Fld.By), dotR s l = ((!(l == 46) || !((spW 46 s).headD []).isEmpty) && (((spW 46 s).headD []).all plainB && (spW 46 s).tail.all atomB))
  | [], l => by simp [dotR, spW]
  | c :: r, l => by
    have ih := dotR_is r
    have hne := spW_ne 46 r
    rw [dotR]
    obtain ⟨x, L, hx⟩ : ∃ x L, spW 46 r = x :: L := by
      cases h : spW 46 r with
      | nil => exact absurd h hne
      | cons x L => exact ⟨x, L, rfl⟩
    by_cases hc : c = 46
    · subst hc
      rw [spW, if_pos rfl]
      simp only [ih, hx, List.headD_cons, List.tail_cons, List.all_cons, List.all_nil]
      by_cases hl : l = 46
      · subst hl
        simp
      · rw [if_neg (by rintro (⟨_, h⟩ | ⟨h, _⟩); exact hl h; exact h trivial)]
        have : (l == 46) = false := beq_eq_false_iff_ne.2 hl
        rw [this]
        simp only [atomB, Bool.not_false, Bool.true_or, Bool.true_and, beq_self_eq_true, Bool.not_true, Bool.false_or]
        cases x with
        | nil => simp
        | cons d x => simp [Bool.and_assoc]
    · rw [spW, if_neg hc, hx]
      simp only [ih, hx, List.headD_cons, List.tail_cons, List.all_cons]
      have hb : (c == 46) = false := beq_eq_false_iff_ne.2 hc
      rw [hb]
      cases hp : plainB c with
      | false =>
        rw [if_pos (.inr ⟨hc, rfl⟩)]
        simp
      | true =>
        rw [if_neg (by rintro (⟨h, _⟩ | ⟨_, h⟩); exact hc h; cases h)]
        simp
theorem dotB_is (s : List Fld.By) : dotB s = (spW 46 s).all atomB := by
  unfold dotB
  rw [dotR_is]
  cases h : spW 46 s with
  | nil => exact absurd h (spW_ne 46 s)
  | cons x L =>
    rw [List.headD_cons, List.tail_cons, List.all_cons, atomB]
    cases x with
    | nil => simp
    | cons d x => simp [Bool.and_assoc]
theorem spW_len (c : Fld.By) : ∀ s : List Fld.By, (spW c s).length ≤ s.length + 1 ∧ ∀ x ∈ spW c s, x.length ≤ s.length
  | [] => by simp [spW]
  | d :: r => by
    obtain ⟨h1, h2⟩ := spW_len c r
    rw [spW]
    split
    · refine ⟨by simp only [List.length_cons]; omega, fun x hx => ?_⟩
      rcases List.mem_cons.1 hx with rfl | hx
      · simp
      · have := h2 x hx
        simp only [List.length_cons]
        omega
    · cases h : spW c r with
      | nil => exact absurd h (spW_ne c r)
      | cons y L =>
        rw [h] at h1 h2
        refine ⟨by simpa using Nat.le_succ_of_le h1, fun x hx => ?_⟩
        rcases List.mem_cons.1 hx with rfl | hx
        · have := h2 y (by simp)
          simpa using this
        · have := h2 x (by simp [hx])
          simp only [List.length_cons]
          omega
set_option maxHeartbeats 8000000 in
theorem dotted_any (s : List Bt) (w : World) (hl : s.length < 4294967281) : Calls Tryd.prog 60 [Z s].toArray w fun e w' => e = .returned (.bool (dotB s)) ∧ Ext w w' := by
  refine enter (n := 16) Tryd.func60 rfl rfl rfl (Holds.start w []) ?_
  rw [dotB_is]
  obtain ⟨h1, h2⟩ := spW_len 46 s
  repeat (first | refine JL.q (by first | (apply OQ.move; exact rfl) | (apply OQ.assign; exact rfl) | (apply OQ.len; exact rfl; exact rfl) | (apply OQ.addN; exact rfl; exact rfl; exact (by (try simp only []); omega)) | (apply OQ.subN; exact rfl; exact rfl; exact (by (try simp only []); omega); exact (by (try simp only []); omega)) | (apply OQ.lssN; exact rfl; exact rfl) | (apply OQ.idxS0; exact rfl; exact rfl; exact rfl; exact rfl; exact (by (try simp only []); omega))) rfl ?_ | refine JC.seq ?_ | refine JC.region ?_ | refine JC.block ?_ | refine JC.skip ?_ | refine JC.exit ?_ | refine JL.nil ?_ | refine JE.next ?_ | refine JE.blk_normal ?_ | refine JE.then_exit ?_ | refine JE.blk_hit ?_ | refine JE.blk_miss rfl ?_ | refine JE.then_ret ?_ | refine JE.blk_ret ?_ | refine JC.label ?_ | refine JL.gon rfl rfl ?_ | refine JL.gskip rfl rfl rfl rfl ?_ | refine JL.gskipU rfl rfl rfl rfl ?_)
  refine JL.callg (ι := Nat) (vs := [Z s, Z [46]]) (fun b => .slice (some ⟨b, 0, none⟩) (spW 46 s).length (spW 46 s).length) (fun b => [⟨b, Row 9 ((spW 46 s).map Z), true⟩]) goes_splw rfl rfl (fun b e he => by rw [List.mem_singleton.1 he]) (fun w' _ => splw_any s 46 w' hl) fun b => ?_
  generalize spW 46 s = L at h1 h2
  repeat (first | refine JL.q (by first | (apply OQ.len; exact Tryd.underlying48; exact rfl) | (apply OQ.move; exact rfl) | (apply OQ.assign; exact rfl) | (apply OQ.len; exact rfl; exact rfl) | (apply OQ.addN; exact rfl; exact rfl; exact (by (try simp only []); omega)) | (apply OQ.subN; exact rfl; exact rfl; exact (by (try simp only []); omega); exact (by (try simp only []); omega)) | (apply OQ.lssN; exact rfl; exact rfl) | (apply OQ.idxS0; exact rfl; exact rfl; exact rfl; exact rfl; exact (by (try simp only []); omega))) rfl ?_ | refine JC.seq ?_ | refine JC.region ?_ | refine JC.block ?_ | refine JC.skip ?_ | refine JC.exit ?_ | refine JL.nil ?_ | refine JE.next ?_ | refine JE.blk_normal ?_ | refine JE.then_exit ?_ | refine JE.blk_hit ?_ | refine JE.blk_miss rfl ?_ | refine JE.then_ret ?_ | refine JE.blk_ret ?_ | refine JC.label ?_ | refine JL.gon rfl rfl ?_ | refine JL.gskip rfl rfl rfl rfl ?_ | refine JL.gskipU rfl rfl rfl rfl ?_)
  refine JC.loop (fun i : Nat => [(6, .slice (some ⟨b, 0, none⟩) L.length L.length), (7, N L.length), (8, N i)]) (fun _ => [⟨b, Row 9 (L.map Z), true⟩]) (fun i => L.length - i) (fun i => i ≤ L.length ∧ (L.take i).all atomB = true) 0 ⟨Nat.zero_le _, by simp⟩ (by repeat (first | exact SubE.nil | refine SubE.cons _ _ _ rfl ?_)) (Less.refl _) ?_
  rintro i ⟨hi, ha⟩
  repeat (first | refine JL.q (by first | (apply OQ.move; exact rfl) | (apply OQ.assign; exact rfl) | (apply OQ.len; exact rfl; exact rfl) | (apply OQ.addN; exact rfl; exact rfl; exact (by (try simp only []); omega)) | (apply OQ.subN; exact rfl; exact rfl; exact (by (try simp only []); omega); exact (by (try simp only []); omega)) | (apply OQ.lssN; exact rfl; exact rfl) | (apply OQ.idxS0; exact rfl; exact rfl; exact rfl; exact rfl; exact (by (try simp only []); omega))) rfl ?_ | refine JC.seq ?_ | refine JC.region ?_ | refine JC.block ?_ | refine JC.skip ?_ | refine JC.exit ?_ | refine JL.nil ?_ | refine JE.next ?_ | refine JE.blk_normal ?_ | refine JE.then_exit ?_ | refine JE.blk_hit ?_ | refine JE.blk_miss rfl ?_ | refine JE.then_ret ?_ | refine JE.blk_ret ?_ | refine JC.label ?_ | refine JL.gon rfl rfl ?_ | refine JL.gskip rfl rfl rfl rfl ?_ | refine JL.gskipU rfl rfl rfl rfl ?_)
  refine JC.cond rfl (fun h => ?_) (fun h => ?_)
  · have hi' : i < L.length := of_decide_eq_true h
    clear h hi
    have hx : L.getD i [] ∈ L := by
      rw [List.getD_eq_getElem?_getD, List.getElem?_eq_getElem hi']
      exact List.getElem_mem hi'
    have hxl := h2 _ hx
    have hv : (L.map Z)[i]? = some (Z (L.getD i [])) := map_at Z [] hi'
    have cA := fun w' => atomA_any (L.getD i []) w' (by omega)
    have hall := all_take atomB L [] hi'
    have hbad := all_bad atomB L [] hi'
    rw [ha, Bool.true_and] at hall
    generalize L.getD i [] = x at hv cA hall hbad
    cases hat : atomB x
    · rw [hat] at cA
      rw [hbad hat]
      repeat (first | refine JL.q (by first | (apply OQ.idxS0; exact Tryd.underlying48; exact strS1; exact rfl; exact rfl; exact hi') | (apply OQ.load; exact strC1; exact rfl; exact .here; exact (Row.cell hv)) | (apply OQ.callx (vs := [Z x]); exact goes_atomA; exact rfl; exact (fun w' _ => cA w')) | (apply OQ.not; exact rfl) | (apply OQ.move; exact rfl) | (apply OQ.assign; exact rfl) | (apply OQ.len; exact rfl; exact rfl) | (apply OQ.addN; exact rfl; exact rfl; exact (by (try simp only []); omega)) | (apply OQ.subN; exact rfl; exact rfl; exact (by (try simp only []); omega); exact (by (try simp only []); omega)) | (apply OQ.lssN; exact rfl; exact rfl) | (apply OQ.idxS0; exact rfl; exact rfl; exact rfl; exact rfl; exact (by (try simp only []); omega))) rfl ?_ | refine JC.seq ?_ | refine JC.region ?_ | refine JC.block ?_ | refine JC.skip ?_ | refine JC.exit ?_ | refine JL.nil ?_ | refine JE.next ?_ | refine JE.blk_normal ?_ | refine JE.then_exit ?_ | refine JE.blk_hit ?_ | refine JE.blk_miss rfl ?_ | refine JE.then_ret ?_ | refine JE.blk_ret ?_ | refine JC.label ?_ | refine JL.gon rfl rfl ?_ | refine JL.gskip rfl rfl rfl rfl ?_ | refine JL.gskipU rfl rfl rfl rfl ?_)
      refine JC.cond rfl (fun _ => ?_) (fun h => by cases h)
      repeat (first | refine JL.q (by first | (apply OQ.move; exact rfl) | (apply OQ.assign; exact rfl) | (apply OQ.len; exact rfl; exact rfl) | (apply OQ.addN; exact rfl; exact rfl; exact (by (try simp only []); omega)) | (apply OQ.subN; exact rfl; exact rfl; exact (by (try simp only []); omega); exact (by (try simp only []); omega)) | (apply OQ.lssN; exact rfl; exact rfl) | (apply OQ.idxS0; exact rfl; exact rfl; exact rfl; exact rfl; exact (by (try simp only []); omega))) rfl ?_ | refine JC.seq ?_ | refine JC.region ?_ | refine JC.block ?_ | refine JC.skip ?_ | refine JC.exit ?_ | refine JL.nil ?_ | refine JE.next ?_ | refine JE.blk_normal ?_ | refine JE.then_exit ?_ | refine JE.blk_hit ?_ | refine JE.blk_miss rfl ?_ | refine JE.then_ret ?_ | refine JE.blk_ret ?_ | refine JC.label ?_ | refine JL.gon rfl rfl ?_ | refine JL.gskip rfl rfl rfl rfl ?_ | refine JL.gskipU rfl rfl rfl rfl ?_)
      refine JC.ret ?_
      repeat (first | refine JL.q (by first | (apply OQ.move; exact rfl) | (apply OQ.assign; exact rfl) | (apply OQ.len; exact rfl; exact rfl) | (apply OQ.addN; exact rfl; exact rfl; exact (by (try simp only []); omega)) | (apply OQ.subN; exact rfl; exact rfl; exact (by (try simp only []); omega); exact (by (try simp only []); omega)) | (apply OQ.lssN; exact rfl; exact rfl) | (apply OQ.idxS0; exact rfl; exact rfl; exact rfl; exact rfl; exact (by (try simp only []); omega))) rfl ?_ | refine JC.seq ?_ | refine JC.region ?_ | refine JC.block ?_ | refine JC.skip ?_ | refine JC.exit ?_ | refine JL.nil ?_ | refine JE.next ?_ | refine JE.blk_normal ?_ | refine JE.then_exit ?_ | refine JE.blk_hit ?_ | refine JE.blk_miss rfl ?_ | refine JE.then_ret ?_ | refine JE.blk_ret ?_ | refine JC.label ?_ | refine JL.gon rfl rfl ?_ | refine JL.gskip rfl rfl rfl rfl ?_ | refine JL.gskipU rfl rfl rfl rfl ?_)
      exact JE.ret1 rfl (RV.tmp rfl) fun w' hw => ⟨rfl, hw.chg⟩
    · rw [hat] at cA hall
      repeat (first | refine JL.q (by first | (apply OQ.idxS0; exact Tryd.underlying48; exact strS1; exact rfl; exact rfl; exact hi') | (apply OQ.load; exact strC1; exact rfl; exact .here; exact (Row.cell hv)) | (apply OQ.callx (vs := [Z x]); exact goes_atomA; exact rfl; exact (fun w' _ => cA w')) | (apply OQ.not; exact rfl) | (apply OQ.move; exact rfl) | (apply OQ.assign; exact rfl) | (apply OQ.len; exact rfl; exact rfl) | (apply OQ.addN; exact rfl; exact rfl; exact (by (try simp only []); omega)) | (apply OQ.subN; exact rfl; exact rfl; exact (by (try simp only []); omega); exact (by (try simp only []); omega)) | (apply OQ.lssN; exact rfl; exact rfl) | (apply OQ.idxS0; exact rfl; exact rfl; exact rfl; exact rfl; exact (by (try simp only []); omega))) rfl ?_ | refine JC.seq ?_ | refine JC.region ?_ | refine JC.block ?_ | refine JC.skip ?_ | refine JC.exit ?_ | refine JL.nil ?_ | refine JE.next ?_ | refine JE.blk_normal ?_ | refine JE.then_exit ?_ | refine JE.blk_hit ?_ | refine JE.blk_miss rfl ?_ | refine JE.then_ret ?_ | refine JE.blk_ret ?_ | refine JC.label ?_ | refine JL.gon rfl rfl ?_ | refine JL.gskip rfl rfl rfl rfl ?_ | refine JL.gskipU rfl rfl rfl rfl ?_)
      refine JC.cond rfl (fun h => by cases h) (fun _ => ?_)
      repeat (first | refine JL.q (by first | (apply OQ.move; exact rfl) | (apply OQ.assign; exact rfl) | (apply OQ.len; exact rfl; exact rfl) | (apply OQ.addN; exact rfl; exact rfl; exact (by (try simp only []); omega)) | (apply OQ.subN; exact rfl; exact rfl; exact (by (try simp only []); omega); exact (by (try simp only []); omega)) | (apply OQ.lssN; exact rfl; exact rfl) | (apply OQ.idxS0; exact rfl; exact rfl; exact rfl; exact rfl; exact (by (try simp only []); omega))) rfl ?_ | refine JC.seq ?_ | refine JC.region ?_ | refine JC.block ?_ | refine JC.skip ?_ | refine JC.exit ?_ | refine JL.nil ?_ | refine JE.next ?_ | refine JE.blk_normal ?_ | refine JE.then_exit ?_ | refine JE.blk_hit ?_ | refine JE.blk_miss rfl ?_ | refine JE.then_ret ?_ | refine JE.blk_ret ?_ | refine JC.label ?_ | refine JL.gon rfl rfl ?_ | refine JL.gskip rfl rfl rfl rfl ?_ | refine JL.gskipU rfl rfl rfl rfl ?_)
      exact JE.again (i := i) (i + 1) ⟨hi', hall⟩ (by omega) (by repeat (first | exact SubE.nil | refine SubE.cons _ _ _ rfl ?_)) (Less.refl _)
  · have hi' : ¬ i < L.length := of_decide_eq_false h
    obtain rfl : i = L.length := by omega
    rw [List.take_length] at ha
    rw [ha]
    repeat (first | refine JL.q (by first | (apply OQ.move; exact rfl) | (apply OQ.assign; exact rfl) | (apply OQ.len; exact rfl; exact rfl) | (apply OQ.addN; exact rfl; exact rfl; exact (by (try simp only []); omega)) | (apply OQ.subN; exact rfl; exact rfl; exact (by (try simp only []); omega); exact (by (try simp only []); omega)) | (apply OQ.lssN; exact rfl; exact rfl) | (apply OQ.idxS0; exact rfl; exact rfl; exact rfl; exact rfl; exact (by (try simp only []); omega))) rfl ?_ | refine JC.seq ?_ | refine JC.region ?_ | refine JC.block ?_ | refine JC.skip ?_ | refine JC.exit ?_ | refine JL.nil ?_ | refine JE.next ?_ | refine JE.blk_normal ?_ | refine JE.then_exit ?_ | refine JE.blk_hit ?_ | refine JE.blk_miss rfl ?_ | refine JE.then_ret ?_ | refine JE.blk_ret ?_ | refine JC.label ?_ | refine JL.gon rfl rfl ?_ | refine JL.gskip rfl rfl rfl rfl ?_ | refine JL.gskipU rfl rfl rfl rfl ?_)
    refine JC.ret ?_
    exact JE.ret1 rfl (RV.tmp rfl) fun w' hw => ⟨rfl, hw.chg⟩
/-! ### addresses -/
theorem plain_low {c : Fld.By} (h : plainB c = true) : c.toNat < 128 := by
  simp only [plainB, Bool.and_eq_true, decide_eq_true_eq] at h
  omega
theorem dotR_low : ∀ (s : List Fld.By) (l : Fld.By), dotR s l = true → ∀ c ∈ s, c.toNat < 128
  | [], _, _, _, hc => by cases hc
  | c :: r, l, h, d, hd => by
    rw [dotR] at h
    split at h
    · cases h
    · next hn =>
      rcases List.mem_cons.1 hd with rfl | hd
      · by_cases e : d = 46
        · subst e; decide
        · cases hp : plainB d with
          | true => exact plain_low hp
          | false => exact absurd (.inr ⟨e, hp⟩) hn
      · exact dotR_low r c h d hd
theorem ang_la (s : List Fld.By) : ang s = s.drop (s.length - la 60 s) := by
  unfold ang la
  have h := List.takeWhile_append_dropWhile (p := fun d => !(d == (60 : Fld.By))) (l := s.reverse)
  generalize s.reverse.takeWhile (fun d => !(d == (60 : Fld.By))) = a at h ⊢
  generalize s.reverse.dropWhile (fun d => !(d == (60 : Fld.By))) = b at h
  have hs : s = b.reverse ++ a.reverse := by rw [← List.reverse_append, h, List.reverse_reverse]
  rw [hs, List.length_append, List.length_reverse, List.length_reverse, Nat.add_sub_cancel, List.drop_append_of_le_length (by simp), List.drop_of_length_le (by simp), List.nil_append]
theorem addrT_is (s : List Fld.By) : addrT s = if s.getLast? = some 62 then (if 60 ∈ s.dropLast then addrS (trim (s.dropLast.drop (s.dropLast.length - la 60 s.dropLast))) else ([], 3)) else addrS s := by
  unfold addrT
  by_cases h : s.getLast? = some 62
  · obtain ⟨a, rfl⟩ := List.getLast?_eq_some_iff.1 h
    rw [if_pos ⟨by simp, by simp⟩, if_pos h, List.dropLast_concat, ang_la]
    congr 1
    simp
  · rw [if_neg h, if_neg]
    rintro ⟨h1, h2⟩
    refine h ?_
    rw [List.getLast?_eq_getElem?, List.getElem?_eq_getElem (by omega)]
    rw [List.getD_eq_getElem?_getD, List.getElem?_eq_getElem (by omega)] at h2
    exact congrArg some h2
theorem addrS_is (s : List Fld.By) : addrS s = if fi 64 s < s.length ∧ dotB (s.take (fi 64 s)) = true ∧ dotB (s.drop (fi 64 s + 1)) = true then (s.take (fi 64 s) ++ [64] ++ (s.drop (fi 64 s + 1)).map small, 0) else ([], 3) := by
  have hf : fst 64 s = fi 64 s := rfl
  unfold addrS
  rw [hf]
  have h1 := fi_le 64 s
  by_cases h : fi 64 s < s.length
  · have ht : s.take (fi 64 s + 1) = s.take (fi 64 s) ++ [64] := by
      rw [List.take_add_one, List.getElem?_eq_getElem h, Option.toList_some]
      congr 2
      have := fi_at 64 s h
      rw [List.getD_eq_getElem?_getD, List.getElem?_eq_getElem h] at this
      exact this
    cases d1 : dotB (s.take (fi 64 s)) <;> cases d2 : dotB (s.drop (fi 64 s + 1))
    · rw [if_pos (.inr (.inl rfl)), if_neg (fun k => by cases k.2.1)]
    · rw [if_pos (.inr (.inl rfl)), if_neg (fun k => by cases k.2.1)]
    · rw [if_pos (.inr (.inr rfl)), if_neg (fun k => by cases k.2.2)]
    · rw [if_neg (by rintro (k | k | k); omega; cases k; cases k), if_pos ⟨h, rfl, rfl⟩, ht]
  · rw [if_pos (.inl (by omega)), if_neg (fun k => h k.1)]
theorem OQ.addSS {P : Program} {n : Nat} {E : Env} {C : World → Prop} {dst : Option Tmp} {t t' ty : TypeId} {pos : String} {aft : Array Edge} {g : Option (Nat × Bool)} {x y : Operand} {l r q : List Bt} (h : l ++ r = q) (hx : ev E x = some (Z l)) (hy : ev E y = some (Z r)) (hl : l.length + r.length < 9223372036854775808) : OQ P n E C ⟨dst, .binOp .add t x y t', ty, pos, aft, g⟩ (Z q) := h ▸ OQ.addS hx hy hl
set_option maxHeartbeats 32000000 in
theorem addrA_any (s : List Bt) (w : World) (hl : s.length < 1000000) : Calls Tryd.prog 31 [Z s].toArray w fun e w' => e = .returned (.tuple #[Z (addrB s).1, N (addrB s).2]) ∧ Ext w w' := by
  refine enter (n := 61) Tryd.func31 rfl rfl rfl (Holds.start w []) ?_
  have cB := fun w' => bareA_any s w' (by omega)
  have hbl := bareB_len s
  unfold addrB
  generalize (bareB s).1 = x at cB hbl ⊢
  generalize (bareB s).2 = k at cB ⊢
  cases hk : decide ((k : Int) = 0)
  · rw [if_neg (by have := of_decide_eq_false hk; omega)]
    repeat (first | refine JL.q (by first | (apply OQ.callx (vs := [Z s]); exact goes_bareA; exact rfl; exact (fun w' _ => cB w')) | (apply OQ.extract; exact rfl; exact rfl) | (apply OQ.neB (b := 0); exact rfl; exact rfl; exact hk) | (apply OQ.move; exact rfl) | (apply OQ.assign; exact rfl) | (apply OQ.len; exact rfl; exact rfl) | (apply OQ.addN; exact rfl; exact rfl; exact (by (try simp only []); omega)) | (apply OQ.subN; exact rfl; exact rfl; exact (by (try simp only []); omega); exact (by (try simp only []); omega)) | (apply OQ.lssN; exact rfl; exact rfl) | (apply OQ.idxS0; exact rfl; exact rfl; exact rfl; exact rfl; exact (by (try simp only []); omega))) rfl ?_ | refine JC.seq ?_ | refine JC.region ?_ | refine JC.block ?_ | refine JC.skip ?_ | refine JC.exit ?_ | refine JL.nil ?_ | refine JE.next ?_ | refine JE.blk_normal ?_ | refine JE.then_exit ?_ | refine JE.blk_hit ?_ | refine JE.blk_miss rfl ?_ | refine JE.then_ret ?_ | refine JE.blk_ret ?_ | refine JC.label ?_ | refine JL.gon rfl rfl ?_ | refine JL.gskip rfl rfl rfl rfl ?_ | refine JL.gskipU rfl rfl rfl rfl ?_)
    refine JC.cond rfl (fun _ => ?_) (fun h => by cases h)
    repeat (first | refine JL.q (by first | (apply OQ.move; exact rfl) | (apply OQ.assign; exact rfl) | (apply OQ.len; exact rfl; exact rfl) | (apply OQ.addN; exact rfl; exact rfl; exact (by (try simp only []); omega)) | (apply OQ.subN; exact rfl; exact rfl; exact (by (try simp only []); omega); exact (by (try simp only []); omega)) | (apply OQ.lssN; exact rfl; exact rfl) | (apply OQ.idxS0; exact rfl; exact rfl; exact rfl; exact rfl; exact (by (try simp only []); omega))) rfl ?_ | refine JC.seq ?_ | refine JC.region ?_ | refine JC.block ?_ | refine JC.skip ?_ | refine JC.exit ?_ | refine JL.nil ?_ | refine JE.next ?_ | refine JE.blk_normal ?_ | refine JE.then_exit ?_ | refine JE.blk_hit ?_ | refine JE.blk_miss rfl ?_ | refine JE.then_ret ?_ | refine JE.blk_ret ?_ | refine JC.label ?_ | refine JL.gon rfl rfl ?_ | refine JL.gskip rfl rfl rfl rfl ?_ | refine JL.gskipU rfl rfl rfl rfl ?_)
    refine JC.ret ?_
    repeat (first | refine JL.q (by first | (apply OQ.move; exact rfl) | (apply OQ.assign; exact rfl) | (apply OQ.len; exact rfl; exact rfl) | (apply OQ.addN; exact rfl; exact rfl; exact (by (try simp only []); omega)) | (apply OQ.subN; exact rfl; exact rfl; exact (by (try simp only []); omega); exact (by (try simp only []); omega)) | (apply OQ.lssN; exact rfl; exact rfl) | (apply OQ.idxS0; exact rfl; exact rfl; exact rfl; exact rfl; exact (by (try simp only []); omega))) rfl ?_ | refine JC.seq ?_ | refine JC.region ?_ | refine JC.block ?_ | refine JC.skip ?_ | refine JC.exit ?_ | refine JL.nil ?_ | refine JE.next ?_ | refine JE.blk_normal ?_ | refine JE.then_exit ?_ | refine JE.blk_hit ?_ | refine JE.blk_miss rfl ?_ | refine JE.then_ret ?_ | refine JE.blk_ret ?_ | refine JC.label ?_ | refine JL.gon rfl rfl ?_ | refine JL.gskip rfl rfl rfl rfl ?_ | refine JL.gskipU rfl rfl rfl rfl ?_)
    refine JE.ret2 rfl (RV.tmp rfl) (RV.tmp rfl) ?_
    exact fun w' hw => ⟨rfl, hw.chg⟩
  rw [if_pos (by have := of_decide_eq_true hk; omega)]
  have cT := fun w' => trimw_any x w' (by omega)
  have htl := trim_short x
  generalize trim x = t at cT htl ⊢
  have cS := fun w' => csw_any t 62 w' (by omega)
  have hT := addrT_is t
  unfold csV at cS
  repeat (first | refine JL.q (by first | (apply OQ.callx (vs := [Z s]); exact goes_bareA; exact rfl; exact (fun w' _ => cB w')) | (apply OQ.extract; exact rfl; exact rfl) | (apply OQ.neB (b := 0); exact rfl; exact rfl; exact hk) | (apply OQ.move; exact rfl) | (apply OQ.assign; exact rfl) | (apply OQ.len; exact rfl; exact rfl) | (apply OQ.addN; exact rfl; exact rfl; exact (by (try simp only []); omega)) | (apply OQ.subN; exact rfl; exact rfl; exact (by (try simp only []); omega); exact (by (try simp only []); omega)) | (apply OQ.lssN; exact rfl; exact rfl) | (apply OQ.idxS0; exact rfl; exact rfl; exact rfl; exact rfl; exact (by (try simp only []); omega))) rfl ?_ | refine JC.seq ?_ | refine JC.region ?_ | refine JC.block ?_ | refine JC.skip ?_ | refine JC.exit ?_ | refine JL.nil ?_ | refine JE.next ?_ | refine JE.blk_normal ?_ | refine JE.then_exit ?_ | refine JE.blk_hit ?_ | refine JE.blk_miss rfl ?_ | refine JE.then_ret ?_ | refine JE.blk_ret ?_ | refine JC.label ?_ | refine JL.gon rfl rfl ?_ | refine JL.gskip rfl rfl rfl rfl ?_ | refine JL.gskipU rfl rfl rfl rfl ?_)
  refine JC.cond rfl (fun h => by cases h) (fun _ => ?_)
  by_cases hg : t.getLast? = some 62
  · rw [if_pos hg] at hT cS
    have hal : t.dropLast.length ≤ t.length := by rw [List.length_dropLast]; omega
    generalize t.dropLast = a at hT cS hal
    have cL := fun w' => lastw_any a 60 w' (by omega)
    have hla := la_lt 60 a
    have hla2 := la_le 60 a
    repeat (first | refine JL.q (by first | (apply OQ.callx (vs := [Z x, Z [32, 9]]); exact goes_trimw; exact rfl; exact (fun w' _ => cT w')) | (apply OQ.callx (vs := [Z t, Z [62]]); exact goes_csw; exact rfl; exact (fun w' _ => cS w')) | (apply OQ.extract; exact rfl; exact rfl) | (apply OQ.move; exact rfl) | (apply OQ.assign; exact rfl) | (apply OQ.len; exact rfl; exact rfl) | (apply OQ.addN; exact rfl; exact rfl; exact (by (try simp only []); omega)) | (apply OQ.subN; exact rfl; exact rfl; exact (by (try simp only []); omega); exact (by (try simp only []); omega)) | (apply OQ.lssN; exact rfl; exact rfl) | (apply OQ.idxS0; exact rfl; exact rfl; exact rfl; exact rfl; exact (by (try simp only []); omega))) rfl ?_ | refine JC.seq ?_ | refine JC.region ?_ | refine JC.block ?_ | refine JC.skip ?_ | refine JC.exit ?_ | refine JL.nil ?_ | refine JE.next ?_ | refine JE.blk_normal ?_ | refine JE.then_exit ?_ | refine JE.blk_hit ?_ | refine JE.blk_miss rfl ?_ | refine JE.then_ret ?_ | refine JE.blk_ret ?_ | refine JC.label ?_ | refine JL.gon rfl rfl ?_ | refine JL.gskip rfl rfl rfl rfl ?_ | refine JL.gskipU rfl rfl rfl rfl ?_)
    refine JC.join (ι := List Bt) (fun y => [(6, Z y)]) (fun _ => []) (fun y => addrT t = addrS y ∧ y.length < 1000000) ?_ ?_
    · refine JC.cond rfl (fun _ => ?_) (fun h => by cases h)
      cases hm : decide (ixL 60 a < 0)
      · have hm' : ¬ ixL 60 a < 0 := of_decide_eq_false hm
        have hmem : 60 ∈ a := hla.1 (by unfold ixL at hm'; omega)
        rw [if_pos hmem] at hT
        obtain ⟨p, hp⟩ : ∃ p, p + 1 = a.length - la 60 a := ⟨a.length - la 60 a - 1, by have := hla.2 hmem; omega⟩
        have hix : ixL 60 a = (p : Int) := by unfold ixL; omega
        have hpl : p + 1 ≤ a.length := by omega
        rw [← hp] at hT
        rw [hix] at cL hm
        have hdl : (a.drop (p + 1)).length ≤ a.length := by rw [List.length_drop]; omega
        have cT2 := fun w' => trimw_any (a.drop (p + 1)) w' (by omega)
        have htl2 := trim_short (a.drop (p + 1))
        generalize trim (a.drop (p + 1)) = y at hT cT2 htl2
        repeat (first | refine JL.q (by first | (apply OQ.callx (vs := [Z a, U8 60]); exact goes_lastw; exact rfl; exact (fun w' _ => cL w')) | (apply OQ.lssB (b := 0); exact rfl; exact rfl; exact hm) | (apply OQ.move; exact rfl) | (apply OQ.assign; exact rfl) | (apply OQ.len; exact rfl; exact rfl) | (apply OQ.addN; exact rfl; exact rfl; exact (by (try simp only []); omega)) | (apply OQ.subN; exact rfl; exact rfl; exact (by (try simp only []); omega); exact (by (try simp only []); omega)) | (apply OQ.lssN; exact rfl; exact rfl) | (apply OQ.idxS0; exact rfl; exact rfl; exact rfl; exact rfl; exact (by (try simp only []); omega))) rfl ?_ | refine JC.seq ?_ | refine JC.region ?_ | refine JC.block ?_ | refine JC.skip ?_ | refine JC.exit ?_ | refine JL.nil ?_ | refine JE.next ?_ | refine JE.blk_normal ?_ | refine JE.then_exit ?_ | refine JE.blk_hit ?_ | refine JE.blk_miss rfl ?_ | refine JE.then_ret ?_ | refine JE.blk_ret ?_ | refine JC.label ?_ | refine JL.gon rfl rfl ?_ | refine JL.gskip rfl rfl rfl rfl ?_ | refine JL.gskipU rfl rfl rfl rfl ?_)
        refine JC.cond rfl (fun h => by cases h) (fun _ => ?_)
        repeat (first | refine JL.q (by first | (apply OQ.subS_lo; exact Tryd.underlying9; exact rfl; exact rfl; exact hpl) | (apply OQ.callx (vs := [Z (a.drop (p + 1)), Z [32, 9]]); exact goes_trimw; exact rfl; exact (fun w' _ => cT2 w')) | (apply OQ.move; exact rfl) | (apply OQ.assign; exact rfl) | (apply OQ.len; exact rfl; exact rfl) | (apply OQ.addN; exact rfl; exact rfl; exact (by (try simp only []); omega)) | (apply OQ.subN; exact rfl; exact rfl; exact (by (try simp only []); omega); exact (by (try simp only []); omega)) | (apply OQ.lssN; exact rfl; exact rfl) | (apply OQ.idxS0; exact rfl; exact rfl; exact rfl; exact rfl; exact (by (try simp only []); omega))) rfl ?_ | refine JC.seq ?_ | refine JC.region ?_ | refine JC.block ?_ | refine JC.skip ?_ | refine JC.exit ?_ | refine JL.nil ?_ | refine JE.next ?_ | refine JE.blk_normal ?_ | refine JE.then_exit ?_ | refine JE.blk_hit ?_ | refine JE.blk_miss rfl ?_ | refine JE.then_ret ?_ | refine JE.blk_ret ?_ | refine JC.label ?_ | refine JL.gon rfl rfl ?_ | refine JL.gskip rfl rfl rfl rfl ?_ | refine JL.gskipU rfl rfl rfl rfl ?_)
        exact JE.mid y ⟨hT, by omega⟩ (by repeat (first | exact SubE.nil | refine SubE.cons _ _ _ rfl ?_)) (Less.refl _)
      · have hm' : ixL 60 a < 0 := of_decide_eq_true hm
        have hmem : ¬ 60 ∈ a := fun h => by have := hla.2 h; unfold ixL at hm'; omega
        rw [if_neg hmem] at hT
        rw [hT]
        repeat (first | refine JL.q (by first | (apply OQ.callx (vs := [Z a, U8 60]); exact goes_lastw; exact rfl; exact (fun w' _ => cL w')) | (apply OQ.lssB (b := 0); exact rfl; exact rfl; exact hm) | (apply OQ.move; exact rfl) | (apply OQ.assign; exact rfl) | (apply OQ.len; exact rfl; exact rfl) | (apply OQ.addN; exact rfl; exact rfl; exact (by (try simp only []); omega)) | (apply OQ.subN; exact rfl; exact rfl; exact (by (try simp only []); omega); exact (by (try simp only []); omega)) | (apply OQ.lssN; exact rfl; exact rfl) | (apply OQ.idxS0; exact rfl; exact rfl; exact rfl; exact rfl; exact (by (try simp only []); omega))) rfl ?_ | refine JC.seq ?_ | refine JC.region ?_ | refine JC.block ?_ | refine JC.skip ?_ | refine JC.exit ?_ | refine JL.nil ?_ | refine JE.next ?_ | refine JE.blk_normal ?_ | refine JE.then_exit ?_ | refine JE.blk_hit ?_ | refine JE.blk_miss rfl ?_ | refine JE.then_ret ?_ | refine JE.blk_ret ?_ | refine JC.label ?_ | refine JL.gon rfl rfl ?_ | refine JL.gskip rfl rfl rfl rfl ?_ | refine JL.gskipU rfl rfl rfl rfl ?_)
        refine JC.cond rfl (fun _ => ?_) (fun h => by cases h)
        repeat (first | refine JL.q (by first | (apply OQ.move; exact rfl) | (apply OQ.assign; exact rfl) | (apply OQ.len; exact rfl; exact rfl) | (apply OQ.addN; exact rfl; exact rfl; exact (by (try simp only []); omega)) | (apply OQ.subN; exact rfl; exact rfl; exact (by (try simp only []); omega); exact (by (try simp only []); omega)) | (apply OQ.lssN; exact rfl; exact rfl) | (apply OQ.idxS0; exact rfl; exact rfl; exact rfl; exact rfl; exact (by (try simp only []); omega))) rfl ?_ | refine JC.seq ?_ | refine JC.region ?_ | refine JC.block ?_ | refine JC.skip ?_ | refine JC.exit ?_ | refine JL.nil ?_ | refine JE.next ?_ | refine JE.blk_normal ?_ | refine JE.then_exit ?_ | refine JE.blk_hit ?_ | refine JE.blk_miss rfl ?_ | refine JE.then_ret ?_ | refine JE.blk_ret ?_ | refine JC.label ?_ | refine JL.gon rfl rfl ?_ | refine JL.gskip rfl rfl rfl rfl ?_ | refine JL.gskipU rfl rfl rfl rfl ?_)
        refine JC.ret ?_
        repeat (first | refine JL.q (by first | (apply OQ.move; exact rfl) | (apply OQ.assign; exact rfl) | (apply OQ.len; exact rfl; exact rfl) | (apply OQ.addN; exact rfl; exact rfl; exact (by (try simp only []); omega)) | (apply OQ.subN; exact rfl; exact rfl; exact (by (try simp only []); omega); exact (by (try simp only []); omega)) | (apply OQ.lssN; exact rfl; exact rfl) | (apply OQ.idxS0; exact rfl; exact rfl; exact rfl; exact rfl; exact (by (try simp only []); omega))) rfl ?_ | refine JC.seq ?_ | refine JC.region ?_ | refine JC.block ?_ | refine JC.skip ?_ | refine JC.exit ?_ | refine JL.nil ?_ | refine JE.next ?_ | refine JE.blk_normal ?_ | refine JE.then_exit ?_ | refine JE.blk_hit ?_ | refine JE.blk_miss rfl ?_ | refine JE.then_ret ?_ | refine JE.blk_ret ?_ | refine JC.label ?_ | refine JL.gon rfl rfl ?_ | refine JL.gskip rfl rfl rfl rfl ?_ | refine JL.gskipU rfl rfl rfl rfl ?_)
        exact JE.ret2 rfl (RV.tmp rfl) (RV.tmp rfl) fun w' hw => ⟨rfl, hw.chg⟩
    · rintro y ⟨hy, hyl⟩
      rw [hy]
      have cC := fun w' => cutw_any y 64 w' (by omega)
      have hfl := fi_le 64 y
      have hS := addrS_is y
      unfold cutV at cC
      by_cases hf : fi 64 y < y.length
      · rw [if_pos hf] at cC
        have hwl : (y.take (fi 64 y)).length ≤ y.length := by rw [List.length_take]; omega
        have hdl : (y.drop (fi 64 y + 1)).length ≤ y.length := by rw [List.length_drop]; omega
        have hlow := dotR_low (y.drop (fi 64 y + 1)) 46
        replace hlow : dotB (y.drop (fi 64 y + 1)) = true → ∀ c ∈ y.drop (fi 64 y + 1), c.toNat < 128 := hlow
        replace hS : addrS y = if dotB (y.take (fi 64 y)) = true ∧ dotB (y.drop (fi 64 y + 1)) = true then (y.take (fi 64 y) ++ [64] ++ (y.drop (fi 64 y + 1)).map small, 0) else ([], 3) := by
          rw [hS]
          by_cases h : dotB (y.take (fi 64 y)) = true ∧ dotB (y.drop (fi 64 y + 1)) = true
          · rw [if_pos ⟨hf, h⟩, if_pos h]
          · rw [if_neg (fun k => h k.2), if_neg h]
        generalize y.take (fi 64 y) = who at cC hS hwl
        generalize y.drop (fi 64 y + 1) = whe at cC hS hdl hlow
        have c1 := fun w' => dotted_any who w' (by omega)
        have c2 := fun w' => dotted_any whe w' (by omega)
        cases d1 : dotB who
        · rw [d1] at c1
          rw [hS, if_neg (fun k => by rw [d1] at k; cases k.1)]
          repeat (first | refine JL.q (by first | (apply OQ.callx (vs := [Z y, Z [64]]); exact goes_cutw; exact rfl; exact (fun w' _ => cC w')) | (apply OQ.extract; exact rfl; exact rfl) | (apply OQ.not; exact rfl) | (apply OQ.pick_t; exact rfl; exact rfl) | (apply OQ.pick_f; exact rfl; exact rfl) | (apply OQ.callx (vs := [Z who]); exact goes_dotted; exact rfl; exact (fun w' _ => c1 w')) | (apply OQ.move; exact rfl) | (apply OQ.assign; exact rfl) | (apply OQ.len; exact rfl; exact rfl) | (apply OQ.addN; exact rfl; exact rfl; exact (by (try simp only []); omega)) | (apply OQ.subN; exact rfl; exact rfl; exact (by (try simp only []); omega); exact (by (try simp only []); omega)) | (apply OQ.lssN; exact rfl; exact rfl) | (apply OQ.idxS0; exact rfl; exact rfl; exact rfl; exact rfl; exact (by (try simp only []); omega))) rfl ?_ | refine JC.seq ?_ | refine JC.region ?_ | refine JC.block ?_ | refine JC.skip ?_ | refine JC.exit ?_ | refine JL.nil ?_ | refine JE.next ?_ | refine JE.blk_normal ?_ | refine JE.then_exit ?_ | refine JE.blk_hit ?_ | refine JE.blk_miss rfl ?_ | refine JE.then_ret ?_ | refine JE.blk_ret ?_ | refine JC.label ?_ | refine JL.gon rfl rfl ?_ | refine JL.gskip rfl rfl rfl rfl ?_ | refine JL.gskipU rfl rfl rfl rfl ?_)
          refine JC.cond rfl (fun _ => ?_) (fun h => by cases h)
          repeat (first | refine JL.q (by first | (apply OQ.move; exact rfl) | (apply OQ.assign; exact rfl) | (apply OQ.len; exact rfl; exact rfl) | (apply OQ.addN; exact rfl; exact rfl; exact (by (try simp only []); omega)) | (apply OQ.subN; exact rfl; exact rfl; exact (by (try simp only []); omega); exact (by (try simp only []); omega)) | (apply OQ.lssN; exact rfl; exact rfl) | (apply OQ.idxS0; exact rfl; exact rfl; exact rfl; exact rfl; exact (by (try simp only []); omega))) rfl ?_ | refine JC.seq ?_ | refine JC.region ?_ | refine JC.block ?_ | refine JC.skip ?_ | refine JC.exit ?_ | refine JL.nil ?_ | refine JE.next ?_ | refine JE.blk_normal ?_ | refine JE.then_exit ?_ | refine JE.blk_hit ?_ | refine JE.blk_miss rfl ?_ | refine JE.then_ret ?_ | refine JE.blk_ret ?_ | refine JC.label ?_ | refine JL.gon rfl rfl ?_ | refine JL.gskip rfl rfl rfl rfl ?_ | refine JL.gskipU rfl rfl rfl rfl ?_)
          refine JC.ret ?_
          repeat (first | refine JL.q (by first | (apply OQ.move; exact rfl) | (apply OQ.assign; exact rfl) | (apply OQ.len; exact rfl; exact rfl) | (apply OQ.addN; exact rfl; exact rfl; exact (by (try simp only []); omega)) | (apply OQ.subN; exact rfl; exact rfl; exact (by (try simp only []); omega); exact (by (try simp only []); omega)) | (apply OQ.lssN; exact rfl; exact rfl) | (apply OQ.idxS0; exact rfl; exact rfl; exact rfl; exact rfl; exact (by (try simp only []); omega))) rfl ?_ | refine JC.seq ?_ | refine JC.region ?_ | refine JC.block ?_ | refine JC.skip ?_ | refine JC.exit ?_ | refine JL.nil ?_ | refine JE.next ?_ | refine JE.blk_normal ?_ | refine JE.then_exit ?_ | refine JE.blk_hit ?_ | refine JE.blk_miss rfl ?_ | refine JE.then_ret ?_ | refine JE.blk_ret ?_ | refine JC.label ?_ | refine JL.gon rfl rfl ?_ | refine JL.gskip rfl rfl rfl rfl ?_ | refine JL.gskipU rfl rfl rfl rfl ?_)
          exact JE.ret2 rfl (RV.tmp rfl) (RV.tmp rfl) fun w' hw => ⟨rfl, hw.chg⟩
        · cases d2 : dotB whe
          · rw [d1] at c1
            rw [d2] at c2
            rw [hS, if_neg (fun k => by rw [d2] at k; cases k.2)]
            repeat (first | refine JL.q (by first | (apply OQ.callx (vs := [Z y, Z [64]]); exact goes_cutw; exact rfl; exact (fun w' _ => cC w')) | (apply OQ.extract; exact rfl; exact rfl) | (apply OQ.not; exact rfl) | (apply OQ.pick_t; exact rfl; exact rfl) | (apply OQ.pick_f; exact rfl; exact rfl) | (apply OQ.callx (vs := [Z who]); exact goes_dotted; exact rfl; exact (fun w' _ => c1 w')) | (apply OQ.callx (vs := [Z whe]); exact goes_dotted; exact rfl; exact (fun w' _ => c2 w')) | (apply OQ.move; exact rfl) | (apply OQ.assign; exact rfl) | (apply OQ.len; exact rfl; exact rfl) | (apply OQ.addN; exact rfl; exact rfl; exact (by (try simp only []); omega)) | (apply OQ.subN; exact rfl; exact rfl; exact (by (try simp only []); omega); exact (by (try simp only []); omega)) | (apply OQ.lssN; exact rfl; exact rfl) | (apply OQ.idxS0; exact rfl; exact rfl; exact rfl; exact rfl; exact (by (try simp only []); omega))) rfl ?_ | refine JC.seq ?_ | refine JC.region ?_ | refine JC.block ?_ | refine JC.skip ?_ | refine JC.exit ?_ | refine JL.nil ?_ | refine JE.next ?_ | refine JE.blk_normal ?_ | refine JE.then_exit ?_ | refine JE.blk_hit ?_ | refine JE.blk_miss rfl ?_ | refine JE.then_ret ?_ | refine JE.blk_ret ?_ | refine JC.label ?_ | refine JL.gon rfl rfl ?_ | refine JL.gskip rfl rfl rfl rfl ?_ | refine JL.gskipU rfl rfl rfl rfl ?_)
            refine JC.cond rfl (fun _ => ?_) (fun h => by cases h)
            repeat (first | refine JL.q (by first | (apply OQ.move; exact rfl) | (apply OQ.assign; exact rfl) | (apply OQ.len; exact rfl; exact rfl) | (apply OQ.addN; exact rfl; exact rfl; exact (by (try simp only []); omega)) | (apply OQ.subN; exact rfl; exact rfl; exact (by (try simp only []); omega); exact (by (try simp only []); omega)) | (apply OQ.lssN; exact rfl; exact rfl) | (apply OQ.idxS0; exact rfl; exact rfl; exact rfl; exact rfl; exact (by (try simp only []); omega))) rfl ?_ | refine JC.seq ?_ | refine JC.region ?_ | refine JC.block ?_ | refine JC.skip ?_ | refine JC.exit ?_ | refine JL.nil ?_ | refine JE.next ?_ | refine JE.blk_normal ?_ | refine JE.then_exit ?_ | refine JE.blk_hit ?_ | refine JE.blk_miss rfl ?_ | refine JE.then_ret ?_ | refine JE.blk_ret ?_ | refine JC.label ?_ | refine JL.gon rfl rfl ?_ | refine JL.gskip rfl rfl rfl rfl ?_ | refine JL.gskipU rfl rfl rfl rfl ?_)
            refine JC.ret ?_
            repeat (first | refine JL.q (by first | (apply OQ.move; exact rfl) | (apply OQ.assign; exact rfl) | (apply OQ.len; exact rfl; exact rfl) | (apply OQ.addN; exact rfl; exact rfl; exact (by (try simp only []); omega)) | (apply OQ.subN; exact rfl; exact rfl; exact (by (try simp only []); omega); exact (by (try simp only []); omega)) | (apply OQ.lssN; exact rfl; exact rfl) | (apply OQ.idxS0; exact rfl; exact rfl; exact rfl; exact rfl; exact (by (try simp only []); omega))) rfl ?_ | refine JC.seq ?_ | refine JC.region ?_ | refine JC.block ?_ | refine JC.skip ?_ | refine JC.exit ?_ | refine JL.nil ?_ | refine JE.next ?_ | refine JE.blk_normal ?_ | refine JE.then_exit ?_ | refine JE.blk_hit ?_ | refine JE.blk_miss rfl ?_ | refine JE.then_ret ?_ | refine JE.blk_ret ?_ | refine JC.label ?_ | refine JL.gon rfl rfl ?_ | refine JL.gskip rfl rfl rfl rfl ?_ | refine JL.gskipU rfl rfl rfl rfl ?_)
            exact JE.ret2 rfl (RV.tmp rfl) (RV.tmp rfl) fun w' hw => ⟨rfl, hw.chg⟩
          · rw [hS, if_pos ⟨d1, d2⟩]
            rw [d1] at c1
            rw [d2] at c2
            have cL := fun w' => lower_any whe w' (by omega) (hlow d2)
            repeat (first | refine JL.q (by first | (apply OQ.callx (vs := [Z y, Z [64]]); exact goes_cutw; exact rfl; exact (fun w' _ => cC w')) | (apply OQ.extract; exact rfl; exact rfl) | (apply OQ.not; exact rfl) | (apply OQ.pick_t; exact rfl; exact rfl) | (apply OQ.pick_f; exact rfl; exact rfl) | (apply OQ.callx (vs := [Z who]); exact goes_dotted; exact rfl; exact (fun w' _ => c1 w')) | (apply OQ.callx (vs := [Z whe]); exact goes_dotted; exact rfl; exact (fun w' _ => c2 w')) | (apply OQ.move; exact rfl) | (apply OQ.assign; exact rfl) | (apply OQ.len; exact rfl; exact rfl) | (apply OQ.addN; exact rfl; exact rfl; exact (by (try simp only []); omega)) | (apply OQ.subN; exact rfl; exact rfl; exact (by (try simp only []); omega); exact (by (try simp only []); omega)) | (apply OQ.lssN; exact rfl; exact rfl) | (apply OQ.idxS0; exact rfl; exact rfl; exact rfl; exact rfl; exact (by (try simp only []); omega))) rfl ?_ | refine JC.seq ?_ | refine JC.region ?_ | refine JC.block ?_ | refine JC.skip ?_ | refine JC.exit ?_ | refine JL.nil ?_ | refine JE.next ?_ | refine JE.blk_normal ?_ | refine JE.then_exit ?_ | refine JE.blk_hit ?_ | refine JE.blk_miss rfl ?_ | refine JE.then_ret ?_ | refine JE.blk_ret ?_ | refine JC.label ?_ | refine JL.gon rfl rfl ?_ | refine JL.gskip rfl rfl rfl rfl ?_ | refine JL.gskipU rfl rfl rfl rfl ?_)
            refine JC.cond rfl (fun h => by cases h) (fun _ => ?_)
            repeat (first | refine JL.q (by first | (apply OQ.addS (l := who) (r := [64]); exact rfl; exact rfl; exact (by rw [List.length_singleton]; omega)) | (apply OQ.callx (vs := [Z whe]); exact goes_lower; exact rfl; exact (fun w' _ => cL w')) | (apply OQ.addS (l := who ++ [64]) (r := whe.map small); exact rfl; exact rfl; exact (by rw [List.length_append, List.length_map, List.length_singleton]; omega)) | (apply OQ.move; exact rfl) | (apply OQ.assign; exact rfl) | (apply OQ.len; exact rfl; exact rfl) | (apply OQ.addN; exact rfl; exact rfl; exact (by (try simp only []); omega)) | (apply OQ.subN; exact rfl; exact rfl; exact (by (try simp only []); omega); exact (by (try simp only []); omega)) | (apply OQ.lssN; exact rfl; exact rfl) | (apply OQ.idxS0; exact rfl; exact rfl; exact rfl; exact rfl; exact (by (try simp only []); omega))) rfl ?_ | refine JC.seq ?_ | refine JC.region ?_ | refine JC.block ?_ | refine JC.skip ?_ | refine JC.exit ?_ | refine JL.nil ?_ | refine JE.next ?_ | refine JE.blk_normal ?_ | refine JE.then_exit ?_ | refine JE.blk_hit ?_ | refine JE.blk_miss rfl ?_ | refine JE.then_ret ?_ | refine JE.blk_ret ?_ | refine JC.label ?_ | refine JL.gon rfl rfl ?_ | refine JL.gskip rfl rfl rfl rfl ?_ | refine JL.gskipU rfl rfl rfl rfl ?_)
            refine JC.ret ?_
            exact JE.ret2 rfl (RV.tmp rfl) (RV.tmp rfl) fun w' hw => ⟨rfl, hw.chg⟩
      · rw [if_neg hf] at cC
        rw [hS, if_neg (fun k => hf k.1)]
        repeat (first | refine JL.q (by first | (apply OQ.callx (vs := [Z y, Z [64]]); exact goes_cutw; exact rfl; exact (fun w' _ => cC w')) | (apply OQ.extract; exact rfl; exact rfl) | (apply OQ.not; exact rfl) | (apply OQ.pick_t; exact rfl; exact rfl) | (apply OQ.pick_f; exact rfl; exact rfl) | (apply OQ.move; exact rfl) | (apply OQ.assign; exact rfl) | (apply OQ.len; exact rfl; exact rfl) | (apply OQ.addN; exact rfl; exact rfl; exact (by (try simp only []); omega)) | (apply OQ.subN; exact rfl; exact rfl; exact (by (try simp only []); omega); exact (by (try simp only []); omega)) | (apply OQ.lssN; exact rfl; exact rfl) | (apply OQ.idxS0; exact rfl; exact rfl; exact rfl; exact rfl; exact (by (try simp only []); omega))) rfl ?_ | refine JC.seq ?_ | refine JC.region ?_ | refine JC.block ?_ | refine JC.skip ?_ | refine JC.exit ?_ | refine JL.nil ?_ | refine JE.next ?_ | refine JE.blk_normal ?_ | refine JE.then_exit ?_ | refine JE.blk_hit ?_ | refine JE.blk_miss rfl ?_ | refine JE.then_ret ?_ | refine JE.blk_ret ?_ | refine JC.label ?_ | refine JL.gon rfl rfl ?_ | refine JL.gskip rfl rfl rfl rfl ?_ | refine JL.gskipU rfl rfl rfl rfl ?_)
        refine JC.cond rfl (fun _ => ?_) (fun h => by cases h)
        repeat (first | refine JL.q (by first | (apply OQ.move; exact rfl) | (apply OQ.assign; exact rfl) | (apply OQ.len; exact rfl; exact rfl) | (apply OQ.addN; exact rfl; exact rfl; exact (by (try simp only []); omega)) | (apply OQ.subN; exact rfl; exact rfl; exact (by (try simp only []); omega); exact (by (try simp only []); omega)) | (apply OQ.lssN; exact rfl; exact rfl) | (apply OQ.idxS0; exact rfl; exact rfl; exact rfl; exact rfl; exact (by (try simp only []); omega))) rfl ?_ | refine JC.seq ?_ | refine JC.region ?_ | refine JC.block ?_ | refine JC.skip ?_ | refine JC.exit ?_ | refine JL.nil ?_ | refine JE.next ?_ | refine JE.blk_normal ?_ | refine JE.then_exit ?_ | refine JE.blk_hit ?_ | refine JE.blk_miss rfl ?_ | refine JE.then_ret ?_ | refine JE.blk_ret ?_ | refine JC.label ?_ | refine JL.gon rfl rfl ?_ | refine JL.gskip rfl rfl rfl rfl ?_ | refine JL.gskipU rfl rfl rfl rfl ?_)
        refine JC.ret ?_
        repeat (first | refine JL.q (by first | (apply OQ.move; exact rfl) | (apply OQ.assign; exact rfl) | (apply OQ.len; exact rfl; exact rfl) | (apply OQ.addN; exact rfl; exact rfl; exact (by (try simp only []); omega)) | (apply OQ.subN; exact rfl; exact rfl; exact (by (try simp only []); omega); exact (by (try simp only []); omega)) | (apply OQ.lssN; exact rfl; exact rfl) | (apply OQ.idxS0; exact rfl; exact rfl; exact rfl; exact rfl; exact (by (try simp only []); omega))) rfl ?_ | refine JC.seq ?_ | refine JC.region ?_ | refine JC.block ?_ | refine JC.skip ?_ | refine JC.exit ?_ | refine JL.nil ?_ | refine JE.next ?_ | refine JE.blk_normal ?_ | refine JE.then_exit ?_ | refine JE.blk_hit ?_ | refine JE.blk_miss rfl ?_ | refine JE.then_ret ?_ | refine JE.blk_ret ?_ | refine JC.label ?_ | refine JL.gon rfl rfl ?_ | refine JL.gskip rfl rfl rfl rfl ?_ | refine JL.gskipU rfl rfl rfl rfl ?_)
        exact JE.ret2 rfl (RV.tmp rfl) (RV.tmp rfl) fun w' hw => ⟨rfl, hw.chg⟩
  · rw [if_neg hg] at hT cS
    repeat (first | refine JL.q (by first | (apply OQ.callx (vs := [Z x, Z [32, 9]]); exact goes_trimw; exact rfl; exact (fun w' _ => cT w')) | (apply OQ.callx (vs := [Z t, Z [62]]); exact goes_csw; exact rfl; exact (fun w' _ => cS w')) | (apply OQ.extract; exact rfl; exact rfl) | (apply OQ.move; exact rfl) | (apply OQ.assign; exact rfl) | (apply OQ.len; exact rfl; exact rfl) | (apply OQ.addN; exact rfl; exact rfl; exact (by (try simp only []); omega)) | (apply OQ.subN; exact rfl; exact rfl; exact (by (try simp only []); omega); exact (by (try simp only []); omega)) | (apply OQ.lssN; exact rfl; exact rfl) | (apply OQ.idxS0; exact rfl; exact rfl; exact rfl; exact rfl; exact (by (try simp only []); omega))) rfl ?_ | refine JC.seq ?_ | refine JC.region ?_ | refine JC.block ?_ | refine JC.skip ?_ | refine JC.exit ?_ | refine JL.nil ?_ | refine JE.next ?_ | refine JE.blk_normal ?_ | refine JE.then_exit ?_ | refine JE.blk_hit ?_ | refine JE.blk_miss rfl ?_ | refine JE.then_ret ?_ | refine JE.blk_ret ?_ | refine JC.label ?_ | refine JL.gon rfl rfl ?_ | refine JL.gskip rfl rfl rfl rfl ?_ | refine JL.gskipU rfl rfl rfl rfl ?_)
    refine JC.join (ι := List Bt) (fun y => [(6, Z y)]) (fun _ => []) (fun y => addrT t = addrS y ∧ y.length < 1000000) ?_ ?_
    · refine JC.cond rfl (fun h => by cases h) (fun _ => ?_)
      repeat (first | refine JL.q (by first | (apply OQ.move; exact rfl) | (apply OQ.assign; exact rfl) | (apply OQ.len; exact rfl; exact rfl) | (apply OQ.addN; exact rfl; exact rfl; exact (by (try simp only []); omega)) | (apply OQ.subN; exact rfl; exact rfl; exact (by (try simp only []); omega); exact (by (try simp only []); omega)) | (apply OQ.lssN; exact rfl; exact rfl) | (apply OQ.idxS0; exact rfl; exact rfl; exact rfl; exact rfl; exact (by (try simp only []); omega))) rfl ?_ | refine JC.seq ?_ | refine JC.region ?_ | refine JC.block ?_ | refine JC.skip ?_ | refine JC.exit ?_ | refine JL.nil ?_ | refine JE.next ?_ | refine JE.blk_normal ?_ | refine JE.then_exit ?_ | refine JE.blk_hit ?_ | refine JE.blk_miss rfl ?_ | refine JE.then_ret ?_ | refine JE.blk_ret ?_ | refine JC.label ?_ | refine JL.gon rfl rfl ?_ | refine JL.gskip rfl rfl rfl rfl ?_ | refine JL.gskipU rfl rfl rfl rfl ?_)
      exact JE.mid t ⟨hT, by omega⟩ (by repeat (first | exact SubE.nil | refine SubE.cons _ _ _ rfl ?_)) (Less.refl _)
    · rintro y ⟨hy, hyl⟩
      rw [hy]
      have cC := fun w' => cutw_any y 64 w' (by omega)
      have hfl := fi_le 64 y
      have hS := addrS_is y
      unfold cutV at cC
      by_cases hf : fi 64 y < y.length
      · rw [if_pos hf] at cC
        have hwl : (y.take (fi 64 y)).length ≤ y.length := by rw [List.length_take]; omega
        have hdl : (y.drop (fi 64 y + 1)).length ≤ y.length := by rw [List.length_drop]; omega
        have hlow := dotR_low (y.drop (fi 64 y + 1)) 46
        replace hlow : dotB (y.drop (fi 64 y + 1)) = true → ∀ c ∈ y.drop (fi 64 y + 1), c.toNat < 128 := hlow
        replace hS : addrS y = if dotB (y.take (fi 64 y)) = true ∧ dotB (y.drop (fi 64 y + 1)) = true then (y.take (fi 64 y) ++ [64] ++ (y.drop (fi 64 y + 1)).map small, 0) else ([], 3) := by
          rw [hS]
          by_cases h : dotB (y.take (fi 64 y)) = true ∧ dotB (y.drop (fi 64 y + 1)) = true
          · rw [if_pos ⟨hf, h⟩, if_pos h]
          · rw [if_neg (fun k => h k.2), if_neg h]
        generalize y.take (fi 64 y) = who at cC hS hwl
        generalize y.drop (fi 64 y + 1) = whe at cC hS hdl hlow
        have c1 := fun w' => dotted_any who w' (by omega)
        have c2 := fun w' => dotted_any whe w' (by omega)
        cases d1 : dotB who
        · rw [d1] at c1
          rw [hS, if_neg (fun k => by rw [d1] at k; cases k.1)]
          repeat (first | refine JL.q (by first | (apply OQ.callx (vs := [Z y, Z [64]]); exact goes_cutw; exact rfl; exact (fun w' _ => cC w')) | (apply OQ.extract; exact rfl; exact rfl) | (apply OQ.not; exact rfl) | (apply OQ.pick_t; exact rfl; exact rfl) | (apply OQ.pick_f; exact rfl; exact rfl) | (apply OQ.callx (vs := [Z who]); exact goes_dotted; exact rfl; exact (fun w' _ => c1 w')) | (apply OQ.move; exact rfl) | (apply OQ.assign; exact rfl) | (apply OQ.len; exact rfl; exact rfl) | (apply OQ.addN; exact rfl; exact rfl; exact (by (try simp only []); omega)) | (apply OQ.subN; exact rfl; exact rfl; exact (by (try simp only []); omega); exact (by (try simp only []); omega)) | (apply OQ.lssN; exact rfl; exact rfl) | (apply OQ.idxS0; exact rfl; exact rfl; exact rfl; exact rfl; exact (by (try simp only []); omega))) rfl ?_ | refine JC.seq ?_ | refine JC.region ?_ | refine JC.block ?_ | refine JC.skip ?_ | refine JC.exit ?_ | refine JL.nil ?_ | refine JE.next ?_ | refine JE.blk_normal ?_ | refine JE.then_exit ?_ | refine JE.blk_hit ?_ | refine JE.blk_miss rfl ?_ | refine JE.then_ret ?_ | refine JE.blk_ret ?_ | refine JC.label ?_ | refine JL.gon rfl rfl ?_ | refine JL.gskip rfl rfl rfl rfl ?_ | refine JL.gskipU rfl rfl rfl rfl ?_)
          refine JC.cond rfl (fun _ => ?_) (fun h => by cases h)
          repeat (first | refine JL.q (by first | (apply OQ.move; exact rfl) | (apply OQ.assign; exact rfl) | (apply OQ.len; exact rfl; exact rfl) | (apply OQ.addN; exact rfl; exact rfl; exact (by (try simp only []); omega)) | (apply OQ.subN; exact rfl; exact rfl; exact (by (try simp only []); omega); exact (by (try simp only []); omega)) | (apply OQ.lssN; exact rfl; exact rfl) | (apply OQ.idxS0; exact rfl; exact rfl; exact rfl; exact rfl; exact (by (try simp only []); omega))) rfl ?_ | refine JC.seq ?_ | refine JC.region ?_ | refine JC.block ?_ | refine JC.skip ?_ | refine JC.exit ?_ | refine JL.nil ?_ | refine JE.next ?_ | refine JE.blk_normal ?_ | refine JE.then_exit ?_ | refine JE.blk_hit ?_ | refine JE.blk_miss rfl ?_ | refine JE.then_ret ?_ | refine JE.blk_ret ?_ | refine JC.label ?_ | refine JL.gon rfl rfl ?_ | refine JL.gskip rfl rfl rfl rfl ?_ | refine JL.gskipU rfl rfl rfl rfl ?_)
          refine JC.ret ?_
          repeat (first | refine JL.q (by first | (apply OQ.move; exact rfl) | (apply OQ.assign; exact rfl) | (apply OQ.len; exact rfl; exact rfl) | (apply OQ.addN; exact rfl; exact rfl; exact (by (try simp only []); omega)) | (apply OQ.subN; exact rfl; exact rfl; exact (by (try simp only []); omega); exact (by (try simp only []); omega)) | (apply OQ.lssN; exact rfl; exact rfl) | (apply OQ.idxS0; exact rfl; exact rfl; exact rfl; exact rfl; exact (by (try simp only []); omega))) rfl ?_ | refine JC.seq ?_ | refine JC.region ?_ | refine JC.block ?_ | refine JC.skip ?_ | refine JC.exit ?_ | refine JL.nil ?_ | refine JE.next ?_ | refine JE.blk_normal ?_ | refine JE.then_exit ?_ | refine JE.blk_hit ?_ | refine JE.blk_miss rfl ?_ | refine JE.then_ret ?_ | refine JE.blk_ret ?_ | refine JC.label ?_ | refine JL.gon rfl rfl ?_ | refine JL.gskip rfl rfl rfl rfl ?_ | refine JL.gskipU rfl rfl rfl rfl ?_)
          exact JE.ret2 rfl (RV.tmp rfl) (RV.tmp rfl) fun w' hw => ⟨rfl, hw.chg⟩
        · cases d2 : dotB whe
          · rw [d1] at c1
            rw [d2] at c2
            rw [hS, if_neg (fun k => by rw [d2] at k; cases k.2)]
            repeat (first | refine JL.q (by first | (apply OQ.callx (vs := [Z y, Z [64]]); exact goes_cutw; exact rfl; exact (fun w' _ => cC w')) | (apply OQ.extract; exact rfl; exact rfl) | (apply OQ.not; exact rfl) | (apply OQ.pick_t; exact rfl; exact rfl) | (apply OQ.pick_f; exact rfl; exact rfl) | (apply OQ.callx (vs := [Z who]); exact goes_dotted; exact rfl; exact (fun w' _ => c1 w')) | (apply OQ.callx (vs := [Z whe]); exact goes_dotted; exact rfl; exact (fun w' _ => c2 w')) | (apply OQ.move; exact rfl) | (apply OQ.assign; exact rfl) | (apply OQ.len; exact rfl; exact rfl) | (apply OQ.addN; exact rfl; exact rfl; exact (by (try simp only []); omega)) | (apply OQ.subN; exact rfl; exact rfl; exact (by (try simp only []); omega); exact (by (try simp only []); omega)) | (apply OQ.lssN; exact rfl; exact rfl) | (apply OQ.idxS0; exact rfl; exact rfl; exact rfl; exact rfl; exact (by (try simp only []); omega))) rfl ?_ | refine JC.seq ?_ | refine JC.region ?_ | refine JC.block ?_ | refine JC.skip ?_ | refine JC.exit ?_ | refine JL.nil ?_ | refine JE.next ?_ | refine JE.blk_normal ?_ | refine JE.then_exit ?_ | refine JE.blk_hit ?_ | refine JE.blk_miss rfl ?_ | refine JE.then_ret ?_ | refine JE.blk_ret ?_ | refine JC.label ?_ | refine JL.gon rfl rfl ?_ | refine JL.gskip rfl rfl rfl rfl ?_ | refine JL.gskipU rfl rfl rfl rfl ?_)
            refine JC.cond rfl (fun _ => ?_) (fun h => by cases h)
            repeat (first | refine JL.q (by first | (apply OQ.move; exact rfl) | (apply OQ.assign; exact rfl) | (apply OQ.len; exact rfl; exact rfl) | (apply OQ.addN; exact rfl; exact rfl; exact (by (try simp only []); omega)) | (apply OQ.subN; exact rfl; exact rfl; exact (by (try simp only []); omega); exact (by (try simp only []); omega)) | (apply OQ.lssN; exact rfl; exact rfl) | (apply OQ.idxS0; exact rfl; exact rfl; exact rfl; exact rfl; exact (by (try simp only []); omega))) rfl ?_ | refine JC.seq ?_ | refine JC.region ?_ | refine JC.block ?_ | refine JC.skip ?_ | refine JC.exit ?_ | refine JL.nil ?_ | refine JE.next ?_ | refine JE.blk_normal ?_ | refine JE.then_exit ?_ | refine JE.blk_hit ?_ | refine JE.blk_miss rfl ?_ | refine JE.then_ret ?_ | refine JE.blk_ret ?_ | refine JC.label ?_ | refine JL.gon rfl rfl ?_ | refine JL.gskip rfl rfl rfl rfl ?_ | refine JL.gskipU rfl rfl rfl rfl ?_)
            refine JC.ret ?_
            repeat (first | refine JL.q (by first | (apply OQ.move; exact rfl) | (apply OQ.assign; exact rfl) | (apply OQ.len; exact rfl; exact rfl) | (apply OQ.addN; exact rfl; exact rfl; exact (by (try simp only []); omega)) | (apply OQ.subN; exact rfl; exact rfl; exact (by (try simp only []); omega); exact (by (try simp only []); omega)) | (apply OQ.lssN; exact rfl; exact rfl) | (apply OQ.idxS0; exact rfl; exact rfl; exact rfl; exact rfl; exact (by (try simp only []); omega))) rfl ?_ | refine JC.seq ?_ | refine JC.region ?_ | refine JC.block ?_ | refine JC.skip ?_ | refine JC.exit ?_ | refine JL.nil ?_ | refine JE.next ?_ | refine JE.blk_normal ?_ | refine JE.then_exit ?_ | refine JE.blk_hit ?_ | refine JE.blk_miss rfl ?_ | refine JE.then_ret ?_ | refine JE.blk_ret ?_ | refine JC.label ?_ | refine JL.gon rfl rfl ?_ | refine JL.gskip rfl rfl rfl rfl ?_ | refine JL.gskipU rfl rfl rfl rfl ?_)
            exact JE.ret2 rfl (RV.tmp rfl) (RV.tmp rfl) fun w' hw => ⟨rfl, hw.chg⟩
          · rw [hS, if_pos ⟨d1, d2⟩]
            rw [d1] at c1
            rw [d2] at c2
            have cL := fun w' => lower_any whe w' (by omega) (hlow d2)
            repeat (first | refine JL.q (by first | (apply OQ.callx (vs := [Z y, Z [64]]); exact goes_cutw; exact rfl; exact (fun w' _ => cC w')) | (apply OQ.extract; exact rfl; exact rfl) | (apply OQ.not; exact rfl) | (apply OQ.pick_t; exact rfl; exact rfl) | (apply OQ.pick_f; exact rfl; exact rfl) | (apply OQ.callx (vs := [Z who]); exact goes_dotted; exact rfl; exact (fun w' _ => c1 w')) | (apply OQ.callx (vs := [Z whe]); exact goes_dotted; exact rfl; exact (fun w' _ => c2 w')) | (apply OQ.move; exact rfl) | (apply OQ.assign; exact rfl) | (apply OQ.len; exact rfl; exact rfl) | (apply OQ.addN; exact rfl; exact rfl; exact (by (try simp only []); omega)) | (apply OQ.subN; exact rfl; exact rfl; exact (by (try simp only []); omega); exact (by (try simp only []); omega)) | (apply OQ.lssN; exact rfl; exact rfl) | (apply OQ.idxS0; exact rfl; exact rfl; exact rfl; exact rfl; exact (by (try simp only []); omega))) rfl ?_ | refine JC.seq ?_ | refine JC.region ?_ | refine JC.block ?_ | refine JC.skip ?_ | refine JC.exit ?_ | refine JL.nil ?_ | refine JE.next ?_ | refine JE.blk_normal ?_ | refine JE.then_exit ?_ | refine JE.blk_hit ?_ | refine JE.blk_miss rfl ?_ | refine JE.then_ret ?_ | refine JE.blk_ret ?_ | refine JC.label ?_ | refine JL.gon rfl rfl ?_ | refine JL.gskip rfl rfl rfl rfl ?_ | refine JL.gskipU rfl rfl rfl rfl ?_)
            refine JC.cond rfl (fun h => by cases h) (fun _ => ?_)
            repeat (first | refine JL.q (by first | (apply OQ.addS (l := who) (r := [64]); exact rfl; exact rfl; exact (by rw [List.length_singleton]; omega)) | (apply OQ.callx (vs := [Z whe]); exact goes_lower; exact rfl; exact (fun w' _ => cL w')) | (apply OQ.addS (l := who ++ [64]) (r := whe.map small); exact rfl; exact rfl; exact (by rw [List.length_append, List.length_map, List.length_singleton]; omega)) | (apply OQ.move; exact rfl) | (apply OQ.assign; exact rfl) | (apply OQ.len; exact rfl; exact rfl) | (apply OQ.addN; exact rfl; exact rfl; exact (by (try simp only []); omega)) | (apply OQ.subN; exact rfl; exact rfl; exact (by (try simp only []); omega); exact (by (try simp only []); omega)) | (apply OQ.lssN; exact rfl; exact rfl) | (apply OQ.idxS0; exact rfl; exact rfl; exact rfl; exact rfl; exact (by (try simp only []); omega))) rfl ?_ | refine JC.seq ?_ | refine JC.region ?_ | refine JC.block ?_ | refine JC.skip ?_ | refine JC.exit ?_ | refine JL.nil ?_ | refine JE.next ?_ | refine JE.blk_normal ?_ | refine JE.then_exit ?_ | refine JE.blk_hit ?_ | refine JE.blk_miss rfl ?_ | refine JE.then_ret ?_ | refine JE.blk_ret ?_ | refine JC.label ?_ | refine JL.gon rfl rfl ?_ | refine JL.gskip rfl rfl rfl rfl ?_ | refine JL.gskipU rfl rfl rfl rfl ?_)
            refine JC.ret ?_
            exact JE.ret2 rfl (RV.tmp rfl) (RV.tmp rfl) fun w' hw => ⟨rfl, hw.chg⟩
      · rw [if_neg hf] at cC
        rw [hS, if_neg (fun k => hf k.1)]
        repeat (first | refine JL.q (by first | (apply OQ.callx (vs := [Z y, Z [64]]); exact goes_cutw; exact rfl; exact (fun w' _ => cC w')) | (apply OQ.extract; exact rfl; exact rfl) | (apply OQ.not; exact rfl) | (apply OQ.pick_t; exact rfl; exact rfl) | (apply OQ.pick_f; exact rfl; exact rfl) | (apply OQ.move; exact rfl) | (apply OQ.assign; exact rfl) | (apply OQ.len; exact rfl; exact rfl) | (apply OQ.addN; exact rfl; exact rfl; exact (by (try simp only []); omega)) | (apply OQ.subN; exact rfl; exact rfl; exact (by (try simp only []); omega); exact (by (try simp only []); omega)) | (apply OQ.lssN; exact rfl; exact rfl) | (apply OQ.idxS0; exact rfl; exact rfl; exact rfl; exact rfl; exact (by (try simp only []); omega))) rfl ?_ | refine JC.seq ?_ | refine JC.region ?_ | refine JC.block ?_ | refine JC.skip ?_ | refine JC.exit ?_ | refine JL.nil ?_ | refine JE.next ?_ | refine JE.blk_normal ?_ | refine JE.then_exit ?_ | refine JE.blk_hit ?_ | refine JE.blk_miss rfl ?_ | refine JE.then_ret ?_ | refine JE.blk_ret ?_ | refine JC.label ?_ | refine JL.gon rfl rfl ?_ | refine JL.gskip rfl rfl rfl rfl ?_ | refine JL.gskipU rfl rfl rfl rfl ?_)
        refine JC.cond rfl (fun _ => ?_) (fun h => by cases h)
        repeat (first | refine JL.q (by first | (apply OQ.move; exact rfl) | (apply OQ.assign; exact rfl) | (apply OQ.len; exact rfl; exact rfl) | (apply OQ.addN; exact rfl; exact rfl; exact (by (try simp only []); omega)) | (apply OQ.subN; exact rfl; exact rfl; exact (by (try simp only []); omega); exact (by (try simp only []); omega)) | (apply OQ.lssN; exact rfl; exact rfl) | (apply OQ.idxS0; exact rfl; exact rfl; exact rfl; exact rfl; exact (by (try simp only []); omega))) rfl ?_ | refine JC.seq ?_ | refine JC.region ?_ | refine JC.block ?_ | refine JC.skip ?_ | refine JC.exit ?_ | refine JL.nil ?_ | refine JE.next ?_ | refine JE.blk_normal ?_ | refine JE.then_exit ?_ | refine JE.blk_hit ?_ | refine JE.blk_miss rfl ?_ | refine JE.then_ret ?_ | refine JE.blk_ret ?_ | refine JC.label ?_ | refine JL.gon rfl rfl ?_ | refine JL.gskip rfl rfl rfl rfl ?_ | refine JL.gskipU rfl rfl rfl rfl ?_)
        refine JC.ret ?_
        repeat (first | refine JL.q (by first | (apply OQ.move; exact rfl) | (apply OQ.assign; exact rfl) | (apply OQ.len; exact rfl; exact rfl) | (apply OQ.addN; exact rfl; exact rfl; exact (by (try simp only []); omega)) | (apply OQ.subN; exact rfl; exact rfl; exact (by (try simp only []); omega); exact (by (try simp only []); omega)) | (apply OQ.lssN; exact rfl; exact rfl) | (apply OQ.idxS0; exact rfl; exact rfl; exact rfl; exact rfl; exact (by (try simp only []); omega))) rfl ?_ | refine JC.seq ?_ | refine JC.region ?_ | refine JC.block ?_ | refine JC.skip ?_ | refine JC.exit ?_ | refine JL.nil ?_ | refine JE.next ?_ | refine JE.blk_normal ?_ | refine JE.then_exit ?_ | refine JE.blk_hit ?_ | refine JE.blk_miss rfl ?_ | refine JE.then_ret ?_ | refine JE.blk_ret ?_ | refine JC.label ?_ | refine JL.gon rfl rfl ?_ | refine JL.gskip rfl rfl rfl rfl ?_ | refine JL.gskipU rfl rfl rfl rfl ?_)
        exact JE.ret2 rfl (RV.tmp rfl) (RV.tmp rfl) fun w' hw => ⟨rfl, hw.chg⟩
end Go.Proofs.YtchoiikhepjdiaaDoor

/-
  Of no statement by itself: how the landed token reads parameters, from left to right, is what the reference's parts give; pure; no program stands here.
  Conditions: none but each lemma's own.
-/
namespace Go.Proofs.YtchoiikhepjdiaaDoor
namespace Tok
open Fld
/-! ### what stands between quotes -/
inductive Inn : List Fld.By → List Fld.By → Prop
  | nil : Inn [] []
  | esc (c : Fld.By) {i t : List Fld.By} (h : Inn i t) : Inn (92 :: c :: i) (c :: t)
  | chr {c : Fld.By} (h1 : ¬ c = 34) (h2 : ¬ c = 92) {i t : List Fld.By} (h : Inn i t) : Inn (c :: i) (c :: t)
theorem Inn.unq {i t : List Fld.By} (h : Inn i t) (r : List Fld.By) : ∀ o, unqR (i ++ 34 :: r) o = (o ++ t, 34 :: r) := by
  induction h with
  | nil => intro o; rw [List.nil_append, unq_34, List.append_nil]
  | esc c _ ih => intro o; rw [List.cons_append, List.cons_append, unq_92, ih, List.append_assoc]; rfl
  | chr h1 h2 _ ih => intro o; rw [List.cons_append, unq_c h1 h2, ih, List.append_assoc]; rfl
theorem Inn.quot {i t : List Fld.By} (h : Inn i t) (r : List Fld.By) : ∀ k, quotR (i ++ 34 :: r) k = k + i.length + 1 := by
  induction h with
  | nil => intro k; rw [List.nil_append, quot_34]; rfl
  | esc c _ ih => intro k; rw [List.cons_append, List.cons_append, quot_92, ih]; simp only [List.length_cons]; omega
  | chr h1 h2 _ ih => intro k; rw [List.cons_append, quot_c h1 h2, ih]; simp only [List.length_cons]; omega
theorem Inn.sem {i t : List Fld.By} (h : Inn i t) (r : List Fld.By) : ∀ x, semR (i ++ 34 :: r) true x = semR r false (x ++ i ++ [34]) := by
  induction h with
  | nil =>
    intro x
    rw [List.nil_append, sem_cons _ _ _ _ (by rintro ⟨_, k⟩; revert k; decide), if_pos rfl, List.append_nil]
    rfl
  | esc c _ ih =>
    intro x
    rw [List.cons_append, List.cons_append, sem_q92, ih]
    congr 1
    simp
  | chr h1 h2 _ ih =>
    intro x
    rw [List.cons_append, sem_cons _ _ _ _ (fun k => h2 k.2), if_neg h1, if_neg (by rintro ⟨_, k⟩; cases k), ih]
    congr 1
    simp
theorem Inn.sok {i t : List Fld.By} (h : Inn i t) : i.all Fld.sok = t.all Fld.sok := by
  induction h with
  | nil => rfl
  | esc c _ ih => rw [List.all_cons, List.all_cons, List.all_cons, ih, show Fld.sok 92 = true by decide, Bool.true_and]
  | chr _ _ _ ih => rw [List.all_cons, List.all_cons, ih]
theorem inn_of_unq : ∀ (n : Nat) (w o v : List Fld.By), w.length ≤ n → unqR w o = (v, [34]) → ∃ i t, w = i ++ [34] ∧ Inn i t ∧ v = o ++ t := by
  intro n
  induction n with
  | zero =>
    intro w o v hl h
    obtain rfl : w = [] := List.eq_nil_of_length_eq_zero (by omega)
    rw [unq_e] at h
    cases h
  | succ n ih =>
    intro w o v hl h
    match w, hl with
    | [], _ => rw [unq_e] at h; cases h
    | c :: r, hl =>
      simp only [List.length_cons] at hl
      by_cases h34 : c = 34
      · subst h34
        rw [unq_34] at h
        obtain ⟨rfl, h2⟩ := Prod.mk.inj h
        obtain ⟨_, rfl⟩ := List.cons.inj h2
        exact ⟨[], [], rfl, .nil, by simp⟩
      by_cases h92 : c = 92
      · subst h92
        match r, hl with
        | [], _ => rw [unq_92e] at h; cases h
        | c2 :: r, hl =>
          simp only [List.length_cons] at hl
          rw [unq_92] at h
          obtain ⟨i, t, rfl, h2, h3⟩ := ih r _ _ (by omega) h
          exact ⟨92 :: c2 :: i, c2 :: t, rfl, .esc c2 h2, by rw [h3]; simp⟩
      · rw [unq_c h34 h92] at h
        obtain ⟨i, t, rfl, h2, h3⟩ := ih r _ _ (by omega) h
        exact ⟨c :: i, c :: t, rfl, .chr h34 h92 h2, by rw [h3]; simp⟩
theorem inn_of_quot : ∀ (n : Nat) (w : List Fld.By) (k : Nat), w.length ≤ n → quotR w k ≠ 0 → ∃ i t r, w = i ++ 34 :: r ∧ Inn i t := by
  intro n
  induction n with
  | zero =>
    intro w k hl h
    obtain rfl : w = [] := List.eq_nil_of_length_eq_zero (by omega)
    exact absurd (quot_e k) h
  | succ n ih =>
    intro w k hl h
    match w, hl with
    | [], _ => exact absurd (quot_e k) h
    | c :: r, hl =>
      simp only [List.length_cons] at hl
      by_cases h34 : c = 34
      · subst h34
        exact ⟨[], [], r, rfl, .nil⟩
      by_cases h92 : c = 92
      · subst h92
        match r, hl with
        | [], _ => exact absurd (quot_92e k) h
        | c2 :: r, hl =>
          simp only [List.length_cons] at hl
          rw [quot_92] at h
          obtain ⟨i, t, r', rfl, h2⟩ := ih r _ (by omega) h
          exact ⟨92 :: c2 :: i, c2 :: t, r', rfl, .esc c2 h2⟩
      · rw [quot_c h34 h92] at h
        obtain ⟨i, t, r', rfl, h2⟩ := ih r _ (by omega) h
        exact ⟨c :: i, c :: t, r', rfl, .chr h34 h92 h2⟩
/-! ### from left to right -/
def partL (p : Fld.By → Bool) (s : List Fld.By) : List Fld.By × List Fld.By := ((trimL s).takeWhile p, trimL ((trimL s).dropWhile p))
def valL (s : List Fld.By) : List Fld.By × List Fld.By × Bool :=
  if (partL looseB s).1 ≠ [] then ((partL looseB s).1, (partL looseB s).2, true)
  else if (partL looseB s).2.head? = some 34 ∧ quotR (partL looseB s).2.tail 1 ≠ 0 then
    ((unqR (partL looseB s).2.tail []).1, trimL ((partL looseB s).2.drop (quotR (partL looseB s).2.tail 1)), ((unqR (partL looseB s).2.tail []).1).all sok)
  else ([], [], false)
def paramL (s : List Fld.By) : Option ((List Fld.By × List Fld.By) × List Fld.By) :=
  if s.head? = some 59 ∧ (partL plainB s.tail).1 ≠ [] ∧ (partL plainB s.tail).2.head? = some 61 ∧ (valL (partL plainB s.tail).2.tail).2.2 = true then
    some (((partL plainB s.tail).1.map small, (valL (partL plainB s.tail).2.tail).1), (valL (partL plainB s.tail).2.tail).2.1)
  else none
/-! ### what a part is -/
def VAL (V v : List Fld.By) : Prop := (simpleB V = true ∧ v = V) ∨ ∃ i, V = 34 :: (i ++ [34]) ∧ Inn i v ∧ v.all sok = true
def bls (b : List Fld.By) : Prop := ∀ c ∈ b, bl c = true
def Canon (x : List Fld.By) (p : List Fld.By × List Fld.By) : Prop :=
  ∃ b1 n b2 b3 V b4 v, x = b1 ++ (n ++ (b2 ++ 61 :: (b3 ++ (V ++ b4)))) ∧ bls b1 ∧ bls b2 ∧ bls b3 ∧ bls b4 ∧ atomB n = true ∧ VAL V v ∧ p = (n.map small, v)
theorem blank_no {c : Fld.By} (h : bl c = true) : ¬ c = 34 ∧ ¬ c = 59 ∧ ¬ c = 61 ∧ plainB c = false ∧ looseB c = false ∧ (plainB c || c == 47) = false := by
  have := byte_all (fun c => !bl c || (!decide (c = 34) && (!decide (c = 59) && (!decide (c = 61) && (!plainB c && (!looseB c && !(plainB c || c == 47))))))) (by decide +kernel) c
  rw [h] at this
  simpa using this
theorem bls_split (u : List Fld.By) : ∃ p, u = p ++ trimL u ∧ bls p := by
  refine ⟨u.takeWhile bl, (List.takeWhile_append_dropWhile).symm, fun c hc => ?_⟩
  exact List.all_eq_true.1 List.all_takeWhile c hc
theorem bls_trim (s : List Fld.By) : ∃ b1 b2, s = b1 ++ (trim s ++ b2) ∧ bls b1 ∧ bls b2 := by
  obtain ⟨p, h1, h2⟩ := bls_split s
  obtain ⟨q, h3, h4⟩ := bls_split (trimL s).reverse
  refine ⟨p, q.reverse, ?_, h2, fun c hc => h4 c (List.mem_reverse.1 hc)⟩
  have : trimL s = trim s ++ q.reverse := by
    unfold trim
    rw [← List.reverse_append, ← h3, List.reverse_reverse]
  rw [← this]
  exact h1
theorem val_ne {V v : List Fld.By} (h : VAL V v) : V ≠ [] := by
  rintro rfl
  rcases h with ⟨h, _⟩ | ⟨i, h, _⟩
  · revert h; decide
  · cases h
theorem val_hd {V v : List Fld.By} (h : VAL V v) : ∀ c ∈ V.head?, bl c = false := by
  intro c hc
  rcases h with ⟨h, _⟩ | ⟨i, rfl, _⟩
  · exact (loose_no (simple_all h c (List.mem_of_mem_head? hc))).2.2
  · cases hc; rfl
theorem val_last {V v : List Fld.By} (h : VAL V v) : ∀ c ∈ V.reverse.head?, bl c = false := by
  intro c hc
  rcases h with ⟨h, _⟩ | ⟨i, rfl, _⟩
  · exact (loose_no (simple_all h c (List.mem_reverse.1 (List.mem_of_mem_head? hc)))).2.2
  · simp at hc; subst hc; rfl
theorem atom_hd {n : List Fld.By} (h : atomB n = true) : n ≠ [] ∧ (∀ c ∈ n.head?, bl c = false) ∧ ∀ c ∈ n.reverse.head?, bl c = false :=
  ⟨by rintro rfl; revert h; decide, fun c hc => (plain_no (atom_all h c (List.mem_of_mem_head? hc))).2.2.2.2, fun c hc => (plain_no (atom_all h c (List.mem_reverse.1 (List.mem_of_mem_head? hc)))).2.2.2.2⟩
/-! ### A1 -/
theorem fst_split {c : Fld.By} {s : List Fld.By} (h : ¬ fst c s = s.length) : s = s.take (fst c s) ++ c :: s.drop (fst c s + 1) := by
  have hle : fst c s ≤ s.length := (List.takeWhile_sublist _).length_le
  have hat : ∀ s : List Fld.By, fst c s < s.length → s.drop (fst c s) = c :: s.drop (fst c s + 1) := by
    intro s
    induction s with
    | nil => intro h; simp at h
    | cons d r ih =>
      intro h
      by_cases e : d = c
      · have : fst c (d :: r) = 0 := by simp [fst, e]
        rw [this, e]; rfl
      · have : fst c (d :: r) = fst c r + 1 := by simp [fst, e]
        rw [this] at h ⊢
        simp only [List.length_cons, List.drop_succ_cons] at h ⊢
        exact ih (by omega)
  rw [← hat s (by omega), List.take_append_drop]
theorem canon_of {x : List Fld.By} {p : List Fld.By × List Fld.By} (h : partB x = some p) : Canon x p := by
  unfold partB at h
  split at h
  · cases h
  next h0 =>
  split at h
  · cases h
  next h1 =>
  have hx := fst_split h0
  obtain ⟨b1, b2, e1, k1, k2⟩ := bls_trim (x.take (fst 61 x))
  obtain ⟨b3, b4, e2, k3, k4⟩ := bls_trim (x.drop (fst 61 x + 1))
  generalize trim (x.take (fst 61 x)) = n at *
  generalize trim (x.drop (fst 61 x + 1)) = V at *
  have h1' : atomB n = true := by simpa using h1
  have hxx : x = b1 ++ (n ++ (b2 ++ 61 :: (b3 ++ (V ++ b4)))) := by
    rw [hx, e1, e2]
    simp
  split at h
  · next hs =>
    cases h
    exact ⟨b1, n, b2, b3, V, b4, V, hxx, k1, k2, k3, k4, h1', .inl ⟨hs, rfl⟩, rfl⟩
  split at h
  · cases h
  next h2 =>
  split at h
  · next h3 =>
    cases h
    match V, h2 with
    | [], h2 => exact absurd (.inl (by decide)) h2
    | c :: w, h2 =>
      have hc : c = 34 := by
        by_cases e : c = 34
        · exact e
        · exact absurd (.inr (by rw [List.getD_cons_zero]; exact e)) h2
      subst hc
      rw [List.tail_cons] at h3 ⊢
      obtain ⟨i, t, rfl, hi, hv⟩ := inn_of_unq _ w [] (unqR w []).1 (Nat.le_refl _) (Prod.ext rfl h3.1)
      rw [List.nil_append] at hv
      rw [hv] at h3 ⊢
      exact ⟨b1, n, b2, b3, _, b4, t, hxx, k1, k2, k3, k4, h1', .inr ⟨i, rfl, hi, h3.2⟩, rfl⟩
  · cases h
/-! ### A2 -/
theorem canon_part {x : List Fld.By} {p : List Fld.By × List Fld.By} (h : Canon x p) : partB x = some p := by
  obtain ⟨b1, n, b2, b3, V, b4, v, rfl, k1, k2, k3, k4, hn, hV, rfl⟩ := h
  have hx : b1 ++ (n ++ (b2 ++ 61 :: (b3 ++ (V ++ b4)))) = (b1 ++ n ++ b2) ++ 61 :: (b3 ++ V ++ b4) := by simp
  have h61 : ∀ d ∈ b1 ++ n ++ b2, ¬ d = 61 := by
    intro d hd
    rcases List.mem_append.1 hd with hd | hd
    · rcases List.mem_append.1 hd with hd | hd
      · exact (blank_no (k1 d hd)).2.2.1
      · exact (plain_no (atom_all hn d hd)).2.2.1
    · exact (blank_no (k2 d hd)).2.2.1
  have hf := fst_app (b1 ++ n ++ b2) (b3 ++ V ++ b4) h61
  have ht : ((b1 ++ n ++ b2) ++ 61 :: (b3 ++ V ++ b4)).take (b1 ++ n ++ b2).length = b1 ++ n ++ b2 := List.take_left
  have hd : ((b1 ++ n ++ b2) ++ 61 :: (b3 ++ V ++ b4)).drop ((b1 ++ n ++ b2).length + 1) = b3 ++ V ++ b4 := by
    rw [← List.drop_drop, List.drop_left]; rfl
  obtain ⟨n0, n1, n2⟩ := atom_hd hn
  have tn : trim (b1 ++ n ++ b2) = n := trim_mid k1 k2 n0 n1 n2
  have tV : trim (b3 ++ V ++ b4) = V := trim_mid k3 k4 (val_ne hV) (val_hd hV) (val_last hV)
  rw [hx]
  unfold partB
  rw [hf, ht, hd, tn, tV, if_neg (by simp only [List.length_append, List.length_cons]; omega), if_neg (by rw [hn]; decide)]
  rcases hV with ⟨hs, rfl⟩ | ⟨i, rfl, hi, hs⟩
  · rw [if_pos hs]
  · have hns : ¬ simpleB (34 :: (i ++ [34])) = true := by
      unfold simpleB
      rw [List.all_cons, show looseB 34 = false by decide, Bool.false_and, Bool.false_and]
      decide
    have hu := hi.unq [] []
    rw [if_neg hns, if_neg (fun k => k.elim (fun k => absurd k (by simp only [List.length_cons, List.length_append]; omega)) fun k => k rfl), List.tail_cons, hu, List.nil_append, if_pos ⟨rfl, hs⟩]
/-! ### A3 -/
theorem tw_app {q : Fld.By → Bool} {a b : List Fld.By} (ha : ∀ c ∈ a, q c = true) (hb : ∀ c ∈ b.head?, q c = false) : (a ++ b).takeWhile q = a ∧ (a ++ b).dropWhile q = b := by
  induction a with
  | nil =>
    cases b with
    | nil => exact ⟨rfl, rfl⟩
    | cons c r => rw [List.nil_append, List.takeWhile_cons, List.dropWhile_cons, if_neg (by rw [hb c rfl]; decide), if_neg (by rw [hb c rfl]; decide)]; exact ⟨rfl, rfl⟩
  | cons c r ih =>
    obtain ⟨i1, i2⟩ := ih fun d hd => ha d (by simp [hd])
    rw [List.cons_append, List.takeWhile_cons, List.dropWhile_cons, if_pos (ha c (by simp)), if_pos (ha c (by simp)), i1, i2]
    exact ⟨rfl, rfl⟩
theorem hd_app {q : Fld.By → Bool} {a b : List Fld.By} (ha : ∀ c ∈ a, q c = false) (hb : ∀ c ∈ b.head?, q c = false) : ∀ c ∈ (a ++ b).head?, q c = false := by
  cases a with
  | nil => exact hb
  | cons d r => intro c hc; cases hc; exact ha d (by simp)
theorem partL_app {q : Fld.By → Bool} {b n b2 z : List Fld.By} (k1 : bls b) (hn : ∀ c ∈ n, q c = true) (h0 : n ≠ []) (hh : ∀ c ∈ n.head?, bl c = false) (k2 : bls b2) (hq : ∀ c, bl c = true → q c = false) (hz : ∀ c ∈ z.head?, bl c = false) (hz2 : ∀ c ∈ z.head?, q c = false) : partL q (b ++ (n ++ (b2 ++ z))) = (n, z) := by
  have e1 : trimL (b ++ (n ++ (b2 ++ z))) = n ++ (b2 ++ z) := by
    rw [trimL_pre b _ k1, trimL_hd]
    intro c hc
    cases n with
    | nil => exact absurd rfl h0
    | cons d r => exact hh c hc
  obtain ⟨t1, t2⟩ := tw_app hn (hd_app (fun c hc => hq c (k2 c hc)) hz2)
  unfold partL
  rw [e1, t1, t2, trimL_pre b2 _ k2, trimL_hd hz]
theorem partL_none {q : Fld.By → Bool} {b z : List Fld.By} (k1 : bls b) (hz : ∀ c ∈ z.head?, bl c = false) (hz2 : ∀ c ∈ z.head?, q c = false) : partL q (b ++ z) = ([], z) := by
  obtain ⟨t1, t2⟩ := tw_app (a := []) (fun _ h => nomatch h) hz2
  unfold partL
  rw [trimL_pre b _ k1, trimL_hd hz]
  rw [List.nil_append] at t1 t2
  rw [t1, t2, trimL_hd hz]
/-- the end, or a ; -/
def tok (z : List Fld.By) : Prop := z = [] ∨ z.head? = some 59
theorem tok_hd {z : List Fld.By} (h : tok z) {q : Fld.By → Bool} (hq : q 59 = false) : ∀ c ∈ z.head?, q c = false := by
  intro c hc
  rcases h with rfl | h
  · cases hc
  · rw [h] at hc; cases hc; exact hq
theorem val_canon {V v b3 b4 z : List Fld.By} (hV : VAL V v) (k3 : bls b3) (k4 : bls b4) (hz : tok z) : valL (b3 ++ (V ++ (b4 ++ z))) = (v, z, true) := by
  have hz1 := tok_hd hz (q := bl) (by decide)
  have hz2 := tok_hd hz (q := looseB) (by decide)
  rcases hV with ⟨hs, rfl⟩ | ⟨i, rfl, hi, hs⟩
  · have hv : VAL v v := .inl ⟨hs, rfl⟩
    have e := partL_app (q := looseB) k3 (simple_all hs) (val_ne hv) (val_hd hv) k4 (fun c hc => (blank_no hc).2.2.2.2.1) hz1 hz2
    unfold valL
    rw [e, if_pos (val_ne hv)]
  · have e := partL_none (q := looseB) (b := b3) (z := 34 :: (i ++ 34 :: (b4 ++ z))) k3 (fun c hc => by cases hc; rfl) (fun c hc => by cases hc; decide)
    have ex : b3 ++ (34 :: (i ++ [34]) ++ (b4 ++ z)) = b3 ++ 34 :: (i ++ 34 :: (b4 ++ z)) := by simp
    have eq := hi.quot (b4 ++ z) 1
    have eu := hi.unq (b4 ++ z) []
    have ed : (34 :: (i ++ 34 :: (b4 ++ z))).drop (1 + i.length + 1) = b4 ++ z := by
      rw [show 1 + i.length + 1 = (i.length + 1) + 1 by omega, List.drop_succ_cons, ← List.drop_drop, List.drop_left]; rfl
    rw [ex]
    unfold valL
    rw [e, if_neg (by simp), List.head?_cons, List.tail_cons, eq, eu, ed, List.nil_append, if_pos ⟨rfl, by omega⟩, trimL_pre b4 _ k4, trimL_hd hz1, hs]
theorem canon_left {x z : List Fld.By} {p : List Fld.By × List Fld.By} (h : Canon x p) (hz : tok z) : paramL (59 :: (x ++ z)) = some (p, z) := by
  obtain ⟨b1, n, b2, b3, V, b4, v, rfl, k1, k2, k3, k4, hn, hV, rfl⟩ := h
  have ex : b1 ++ (n ++ (b2 ++ 61 :: (b3 ++ (V ++ b4)))) ++ z = b1 ++ (n ++ (b2 ++ 61 :: (b3 ++ (V ++ (b4 ++ z))))) := by simp
  obtain ⟨n0, n1, _⟩ := atom_hd hn
  have e := partL_app (q := plainB) (z := 61 :: (b3 ++ (V ++ (b4 ++ z)))) k1 (atom_all hn) n0 n1 k2 (fun c hc => (blank_no hc).2.2.2.1) (fun c hc => by cases hc; rfl) (fun c hc => by cases hc; decide)
  unfold paramL
  rw [List.tail_cons, ex, e, List.tail_cons, val_canon hV k3 k4 hz, if_pos ⟨rfl, n0, rfl, rfl⟩]
/-! ### A4 -/
theorem partL_split (q : Fld.By → Bool) (s : List Fld.By) : ∃ b1 b2, s = b1 ++ ((partL q s).1 ++ (b2 ++ (partL q s).2)) ∧ bls b1 ∧ bls b2 ∧ (∀ c ∈ (partL q s).1, q c = true) := by
  obtain ⟨b1, e1, k1⟩ := bls_split s
  obtain ⟨b2, e2, k2⟩ := bls_split ((trimL s).dropWhile q)
  refine ⟨b1, b2, ?_, k1, k2, fun c hc => List.all_eq_true.1 List.all_takeWhile c hc⟩
  show s = b1 ++ ((trimL s).takeWhile q ++ (b2 ++ trimL ((trimL s).dropWhile q)))
  rw [← e2, List.takeWhile_append_dropWhile, ← e1]
theorem val_of {s v z : List Fld.By} (h : valL s = (v, z, true)) : ∃ b3 V b4, s = b3 ++ (V ++ (b4 ++ z)) ∧ bls b3 ∧ bls b4 ∧ VAL V v := by
  obtain ⟨b1, b2, e1, k1, k2, hq⟩ := partL_split looseB s
  unfold valL at h
  generalize (partL looseB s).1 = V at *
  generalize (partL looseB s).2 = r at *
  split at h
  · next h0 =>
    obtain ⟨rfl, h2⟩ := Prod.mk.inj h
    obtain ⟨rfl, _⟩ := Prod.mk.inj h2
    refine ⟨b1, V, b2, e1, k1, k2, .inl ⟨?_, rfl⟩⟩
    unfold simpleB
    rw [Bool.and_eq_true, List.all_eq_true, decide_eq_true_eq]
    exact ⟨hq, List.length_pos_iff.2 h0⟩
  · next h0 =>
    obtain rfl : V = [] := Classical.not_not.1 h0
    split at h
    · next h1 =>
      obtain ⟨h34, hn⟩ := h1
      obtain ⟨w, rfl⟩ : ∃ w, r = 34 :: w := by
        cases r with
        | nil => cases h34
        | cons c w => cases h34; exact ⟨w, rfl⟩
      rw [List.tail_cons] at *
      obtain ⟨i, t, r', rfl, hi⟩ := inn_of_quot _ w 1 (Nat.le_refl _) hn
      have ed : (34 :: (i ++ 34 :: r')).drop (1 + i.length + 1) = r' := by
        rw [show 1 + i.length + 1 = (i.length + 1) + 1 by omega, List.drop_succ_cons, ← List.drop_drop, List.drop_left]; rfl
      rw [hi.unq, hi.quot, ed, List.nil_append] at h
      obtain ⟨rfl, h2⟩ := Prod.mk.inj h
      obtain ⟨rfl, h3⟩ := Prod.mk.inj h2
      obtain ⟨b5, e5, k5⟩ := bls_split r'
      refine ⟨b1 ++ b2, 34 :: (i ++ [34]), b5, ?_, fun c hc => (List.mem_append.1 hc).elim (k1 c) (k2 c), k5, .inr ⟨i, rfl, hi, h3⟩⟩
      rw [e1]
      conv => lhs; rw [e5]
      simp
    · cases h
theorem left_canon {s z : List Fld.By} {p : List Fld.By × List Fld.By} (h : paramL s = some (p, z)) : ∃ x, s = 59 :: (x ++ z) ∧ Canon x p := by
  unfold paramL at h
  split at h
  · next hc =>
    obtain ⟨h59, hn, h61, hv⟩ := hc
    obtain ⟨r, rfl⟩ : ∃ r, s = 59 :: r := by
      cases s with
      | nil => cases h59
      | cons c w => cases h59; exact ⟨w, rfl⟩
    rw [List.tail_cons] at *
    obtain ⟨b1, b2, e1, k1, k2, hq⟩ := partL_split plainB r
    generalize (partL plainB r).1 = n at *
    generalize (partL plainB r).2 = u at *
    obtain ⟨u, rfl⟩ : ∃ w, u = 61 :: w := by
      cases u with
      | nil => cases h61
      | cons c w => cases h61; exact ⟨w, rfl⟩
    rw [List.tail_cons] at *
    obtain ⟨v, rest, b, hvl⟩ : ∃ v rest b, valL u = (v, rest, b) := ⟨_, _, _, rfl⟩
    rw [hvl] at h hv
    dsimp only at h hv
    subst hv
    obtain ⟨b3, V, b4, e3, k3, k4, hV⟩ := val_of hvl
    obtain ⟨rfl, rfl⟩ := Prod.mk.inj (Option.some.inj h)
    refine ⟨b1 ++ (n ++ (b2 ++ 61 :: (b3 ++ (V ++ b4)))), ?_, b1, n, b2, b3, V, b4, v, rfl, k1, k2, k3, k4, ?_, hV, rfl⟩
    · rw [e1, e3]
      simp
    · unfold atomB
      rw [Bool.and_eq_true, List.all_eq_true, decide_eq_true_eq]
      exact ⟨hq, List.length_pos_iff.2 hn⟩
  · cases h
/-! ### A5, A6 -/
theorem canon_sem {x : List Fld.By} {p : List Fld.By × List Fld.By} (h : Canon x p) (r y : List Fld.By) : semR (x ++ r) false y = semR r false (y ++ x) := by
  obtain ⟨b1, n, b2, b3, V, b4, v, rfl, k1, k2, k3, k4, hn, hV, rfl⟩ := h
  have s1 : ∀ b, bls b → ∀ r y, semR (b ++ r) false y = semR r false (y ++ b) := fun b hb r y => sem_run b r y fun c hc => ⟨(blank_no (hb c hc)).1, (blank_no (hb c hc)).2.1⟩
  have s2 : ∀ r y, semR (V ++ r) false y = semR r false (y ++ V) := by
    intro r y
    rcases hV with ⟨hs, rfl⟩ | ⟨i, rfl, hi, hs⟩
    · exact sem_run _ r y fun c hc => ⟨(loose_no (simple_all hs c hc)).1, (loose_no (simple_all hs c hc)).2.1⟩
    · rw [List.cons_append, sem_cons _ _ _ _ (by rintro ⟨k, _⟩; cases k), if_pos rfl, List.append_assoc, List.singleton_append]
      show semR (i ++ 34 :: r) true _ = _
      rw [hi.sem]
      congr 1
      simp
  simp only [List.append_assoc, List.cons_append]
  rw [s1 b1 k1, sem_run n _ _ fun c hc => ⟨(plain_no (atom_all hn c hc)).1, (plain_no (atom_all hn c hc)).2.1⟩, s1 b2 k2, sem_cons _ _ _ _ (by rintro ⟨k, _⟩; cases k), if_neg (by decide), if_neg (by rintro ⟨k, _⟩; revert k; decide), s1 b3 k3, s2, s1 b4 k4]
  congr 1
  simp
theorem sem_parts : ∀ (n : Nat) (s : List Fld.By) (q : Bool) (y : List Fld.By), s.length ≤ n → ∃ a z L, semR s q y = (y ++ a) :: L ∧ s = a ++ z ∧ ((z = [] ∧ L = []) ∨ ∃ r, z = 59 :: r ∧ L = semR r false []) := by
  intro n
  induction n with
  | zero =>
    intro s q y hl
    obtain rfl : s = [] := List.eq_nil_of_length_eq_zero (by omega)
    exact ⟨[], [], [], by rw [semR.eq_def, List.append_nil], rfl, .inl ⟨rfl, rfl⟩⟩
  | succ n ih =>
    intro s q y hl
    match s, hl with
    | [], _ => exact ⟨[], [], [], by rw [semR.eq_def, List.append_nil], rfl, .inl ⟨rfl, rfl⟩⟩
    | c :: r, hl =>
      simp only [List.length_cons] at hl
      by_cases h92 : q = true ∧ c = 92
      · obtain ⟨rfl, rfl⟩ := h92
        match r, hl with
        | [], _ => exact ⟨[92], [], [], by rw [semR.eq_def]; rfl, rfl, .inl ⟨rfl, rfl⟩⟩
        | c2 :: r, hl =>
          simp only [List.length_cons] at hl
          obtain ⟨a, z, L, e1, e2, e3⟩ := ih r true (y ++ [92, c2]) (by omega)
          exact ⟨92 :: c2 :: a, z, L, by rw [sem_q92, e1]; simp, by rw [e2]; simp, e3⟩
      · rw [sem_cons _ _ _ _ h92]
        by_cases h34 : c = 34
        · obtain ⟨a, z, L, e1, e2, e3⟩ := ih r (!q) (y ++ [c]) (by omega)
          exact ⟨c :: a, z, L, by rw [if_pos h34, e1]; simp, by rw [e2]; simp, e3⟩
        · by_cases h59 : c = 59 ∧ q = false
          · obtain ⟨rfl, rfl⟩ := h59
            exact ⟨[], 59 :: r, _, by rw [if_neg h34, if_pos ⟨rfl, rfl⟩, List.append_nil], rfl, .inr ⟨r, rfl, rfl⟩⟩
          · obtain ⟨a, z, L, e1, e2, e3⟩ := ih r q (y ++ [c]) (by omega)
            exact ⟨c :: a, z, L, by rw [if_neg h34, if_neg h59, e1]; simp, by rw [e2]; simp, e3⟩
theorem semB_parts (s : List Fld.By) : ∃ a z L, semB s = a :: L ∧ s = a ++ z ∧ ((z = [] ∧ L = []) ∨ ∃ r, z = 59 :: r ∧ L = semB r) := by
  obtain ⟨a, z, L, e1, e2, e3⟩ := sem_parts _ s false [] (Nat.le_refl _)
  exact ⟨a, z, L, e1, e2, e3⟩
/-! ### all parameters -/
theorem paramL_len {s z : List Fld.By} {p : List Fld.By × List Fld.By} (h : paramL s = some (p, z)) : z.length < s.length := by
  obtain ⟨x, rfl, _⟩ := left_canon h
  simp only [List.length_cons, List.length_append]
  omega
def listL (s : List Fld.By) : Option (List (List Fld.By × List Fld.By)) :=
  if s = [] then some [] else
  match h : paramL s with
  | none => none
  | some (p, z) => (listL z).map (p :: ·)
termination_by s.length
decreasing_by exact paramL_len h
theorem listL_nil : listL [] = some [] := by rw [listL, if_pos rfl]
theorem listL_none {s : List Fld.By} (h0 : s ≠ []) (h : paramL s = none) : listL s = none := by
  rw [listL, if_neg h0]
  split
  · rfl
  · next h' => rw [h] at h'; cases h'
theorem listL_some {s z : List Fld.By} {p : List Fld.By × List Fld.By} (h : paramL s = some (p, z)) : listL s = (listL z).map (p :: ·) := by
  rw [listL, if_neg (by rintro rfl; have := paramL_len h; simp at this)]
  split
  · next h' => rw [h] at h'; cases h'
  · next h' =>
    rw [h] at h'
    cases h'
    rfl
theorem listL_bad {s : List Fld.By} (h : ¬ tok s) : listL s = none := by
  refine listL_none (fun k => h (.inl k)) ?_
  unfold paramL
  rw [if_neg]
  rintro ⟨k, _⟩
  exact h (.inr k)
theorem listL_is : ∀ (n : Nat) (r : List Fld.By), r.length ≤ n → listL (59 :: r) = (semB r).mapM partB := by
  intro n
  induction n with
  | zero =>
    intro r hl
    obtain rfl : r = [] := List.eq_nil_of_length_eq_zero (by omega)
    decide +kernel
  | succ n ih =>
    intro r hl
    obtain ⟨y, z, L, e1, e2, e3⟩ := semB_parts r
    have hz : tok z := by
      rcases e3 with ⟨rfl, _⟩ | ⟨r', rfl, _⟩
      · exact .inl rfl
      · exact .inr rfl
    rw [e1]
    cases hp : partB y with
    | none =>
      rw [List.mapM_cons, hp]
      show _ = none
      cases hq : paramL (59 :: r) with
      | none => exact listL_none (by simp) hq
      | some pz =>
        obtain ⟨p, z'⟩ := pz
        rw [listL_some hq]
        obtain ⟨x, ex, hx⟩ := left_canon hq
        obtain ⟨_, ex⟩ := List.cons.inj ex
        by_cases ht : tok z'
        · exfalso
          have hs : ∃ L', semB r = x :: L' := by
            unfold semB
            rw [ex, canon_sem hx, List.nil_append]
            rcases ht with rfl | ht
            · exact ⟨[], by rw [semR.eq_def]⟩
            · cases z' with
              | nil => cases ht
              | cons c w =>
                cases ht
                exact ⟨_, by rw [sem_cons _ _ _ _ (by rintro ⟨k, _⟩; cases k), if_neg (by decide), if_pos ⟨rfl, rfl⟩]⟩
          obtain ⟨L', hs⟩ := hs
          rw [e1] at hs
          obtain ⟨rfl, _⟩ := List.cons.inj hs
          rw [canon_part hx] at hp
          cases hp
        · rw [listL_bad ht]; rfl
    | some p =>
      have hc := canon_left (canon_of hp) hz
      rw [← e2] at hc
      rw [listL_some hc, List.mapM_cons, hp]
      rcases e3 with ⟨rfl, rfl⟩ | ⟨r', rfl, rfl⟩
      · rw [listL_nil]; rfl
      · have hl' : r'.length ≤ n := by
          have := congrArg List.length e2
          simp only [List.length_append, List.length_cons] at this
          omega
        rw [ih r' hl']
        cases (semB r').mapM partB <;> rfl
/-! ### kind and parameters -/
def kiB (c : Fld.By) : Bool := plainB c || c == 47
def paramsL (t : List Fld.By) : List Fld.By × List (List Fld.By × List Fld.By) × Nat :=
  if kindB (partL kiB t).1 = false then ([], [], 3)
  else match listL (partL kiB t).2 with
    | none => ([], [], 3)
    | some l => ((partL kiB t).1.map small, l, 0)
theorem kind_all {k : List Fld.By} (h : kindB k = true) : (∀ c ∈ k, kiB c = true) ∧ k ≠ [] := by
  obtain ⟨a, b, rfl, ha, hb⟩ := kind_is h
  refine ⟨fun c hc => ?_, by simp⟩
  unfold kiB
  rcases List.mem_append.1 hc with hc | hc
  · rw [atom_all ha c hc]; rfl
  · rcases List.mem_cons.1 hc with rfl | hc
    · simp
    · rw [atom_all hb c hc]; rfl
theorem ki_no {c : Fld.By} (h : kiB c = true) : ¬ c = 34 ∧ ¬ c = 59 ∧ bl c = false := by
  have := byte_all (fun c => !kiB c || (!decide (c = 34) && (!decide (c = 59) && !bl c))) (by decide +kernel) c
  rw [h] at this
  simpa using this
theorem kind_left {b1 k b2 z : List Fld.By} (hk : kindB k = true) (k1 : bls b1) (k2 : bls b2) (hz : tok z) : partL kiB (b1 ++ (k ++ (b2 ++ z))) = (k, z) := by
  obtain ⟨ka, k0⟩ := kind_all hk
  exact partL_app k1 ka k0 (fun c hc => (ki_no (ka c (List.mem_of_mem_head? hc))).2.2) k2 (fun c hc => (blank_no hc).2.2.2.2.2) (tok_hd hz (by decide)) (tok_hd hz (by decide))
theorem kind_sem {b1 k b2 : List Fld.By} (hk : kindB k = true) (k1 : bls b1) (k2 : bls b2) (r : List Fld.By) : semR (b1 ++ (k ++ (b2 ++ r))) false [] = semR r false (b1 ++ (k ++ b2)) := by
  obtain ⟨ka, _⟩ := kind_all hk
  have s1 : ∀ b, bls b → ∀ r y, semR (b ++ r) false y = semR r false (y ++ b) := fun b hb r y => sem_run b r y fun c hc => ⟨(blank_no (hb c hc)).1, (blank_no (hb c hc)).2.1⟩
  rw [s1 b1 k1, sem_run k _ _ fun c hc => ⟨(ki_no (ka c hc)).1, (ki_no (ka c hc)).2.1⟩, s1 b2 k2]
  congr 1
  simp
theorem kind_trim {b1 k b2 : List Fld.By} (hk : kindB k = true) (k1 : bls b1) (k2 : bls b2) : trim (b1 ++ (k ++ b2)) = k := by
  obtain ⟨ka, k0⟩ := kind_all hk
  rw [← List.append_assoc]
  exact trim_mid k1 k2 k0 (fun c hc => (ki_no (ka c (List.mem_of_mem_head? hc))).2.2) (fun c hc => (ki_no (ka c (List.mem_reverse.1 (List.mem_of_mem_head? hc)))).2.2)
theorem params_is (t : List Fld.By) : paramsT t = paramsL t := by
  obtain ⟨y, z, L, e1, e2, e3⟩ := semB_parts t
  have hz : tok z := by
    rcases e3 with ⟨rfl, _⟩ | ⟨r', rfl, _⟩
    · exact .inl rfl
    · exact .inr rfl
  unfold paramsT paramsL
  rw [e1, List.headD_cons, List.tail_cons]
  cases hk : kindB (trim y) with
  | true =>
    obtain ⟨b1, b2, ey, k1, k2⟩ := bls_trim y
    have et : t = b1 ++ (trim y ++ (b2 ++ z)) := by
      rw [e2]
      conv => lhs; rw [ey]
      simp
    have hl : partL kiB t = (trim y, z) := by
      conv => lhs; rw [et]
      exact kind_left hk k1 k2 hz
    have hL : listL z = L.mapM partB := by
      rcases e3 with ⟨rfl, rfl⟩ | ⟨r', rfl, rfl⟩
      · rw [listL_nil]; rfl
      · exact listL_is _ r' (Nat.le_refl _)
    rw [hl]
    dsimp only
    rw [hk, hL]
    cases L.mapM partB <;> rfl
  | false =>
    rw [if_pos rfl]
    cases hq : kindB (partL kiB t).1 with
    | false => rw [if_pos rfl]
    | true =>
      rw [if_neg (by decide)]
      have hb : ¬ tok (partL kiB t).2 := by
        intro ht
        obtain ⟨b1, b2, et, k1, k2, _⟩ := partL_split kiB t
        generalize (partL kiB t).1 = k at *
        generalize (partL kiB t).2 = w at *
        have hs : ∃ L', semB t = (b1 ++ (k ++ b2)) :: L' := by
          unfold semB
          rw [et, kind_sem hq k1 k2]
          rcases ht with rfl | ht
          · exact ⟨[], by rw [semR.eq_def]⟩
          · cases w with
            | nil => cases ht
            | cons c w =>
              cases ht
              exact ⟨_, by rw [sem_cons _ _ _ _ (by rintro ⟨k, _⟩; cases k), if_neg (by decide), if_pos ⟨rfl, rfl⟩]⟩
        obtain ⟨L', hs⟩ := hs
        rw [e1] at hs
        obtain ⟨rfl, _⟩ := List.cons.inj hs
        rw [kind_trim hq k1 k2, hq] at hk
        cases hk
      rw [listL_bad hb]
end Tok
end Go.Proofs.YtchoiikhepjdiaaDoor

/-
  Of no statement by itself: what the landed token's isKind, noBig, mayBeQuoted, part, unquoted and readValue give.
  Conditions: each theorem's own.
-/
namespace Go.Proofs.YtchoiikhepjdiaaDoor
set_option maxRecDepth 10000
open Sl Fld Tok
theorem goes_isKind : Goes Tryd.prog 70 := ⟨_, Tryd.func70, rfl, by kernel_rfl⟩
theorem goes_may : Goes Tryd.prog 72 := ⟨_, Tryd.func72, rfl, by kernel_rfl⟩
theorem goes_may1 : Goes Tryd.prog 103 := ⟨_, Tryd.func103, rfl, by kernel_rfl⟩
theorem goes_partA : Goes Tryd.prog 74 := ⟨_, Tryd.func74, rfl, by kernel_rfl⟩
theorem goes_unqA : Goes Tryd.prog 125 := ⟨_, Tryd.func125, rfl, by kernel_rfl⟩
theorem goes_readV : Goes Tryd.prog 104 := ⟨_, Tryd.func104, rfl, by kernel_rfl⟩
set_option maxHeartbeats 8000000 in
theorem isKind_any (s : List Bt) (w : World) (hl : s.length < 9223372036854775807) : Calls Tryd.prog 70 [Z s].toArray w fun e w' => e = .returned (.bool (kindB s)) ∧ Ext w w' := by
  refine enter (n := 21) Tryd.func70 rfl rfl rfl (Holds.start w []) ?_
  have cC := fun w' => cutw_any s 47 w' hl
  have hfl := fi_le 47 s
  have hk : kindB s = (decide (fi 47 s < s.length) && (atomB (s.take (fi 47 s)) && atomB (s.drop (fi 47 s + 1)))) := rfl
  rw [hk]
  unfold cutV at cC
  by_cases hf : fi 47 s < s.length
  · rw [if_pos hf] at cC
    rw [decide_eq_true hf, Bool.true_and]
    have h1 : (s.take (fi 47 s)).length ≤ s.length := by rw [List.length_take]; omega
    have h2 : (s.drop (fi 47 s + 1)).length ≤ s.length := by rw [List.length_drop]; omega
    generalize s.take (fi 47 s) = a at cC h1
    generalize s.drop (fi 47 s + 1) = b at cC h2
    have c1 := fun w' => atomA_any a w' (by omega)
    have c2 := fun w' => atomA_any b w' (by omega)
    cases d1 : atomB a <;> cases d2 : atomB b
    all_goals rw [d1] at c1
    all_goals rw [d2] at c2
    all_goals (repeat (first | refine JL.q (by first | (apply OQ.callx (vs := [Z s, Z [47]]); exact goes_cutw; exact rfl; exact (fun w' _ => cC w')) | (apply OQ.extract; exact rfl; exact rfl) | (apply OQ.pick_t; exact rfl; exact rfl) | (apply OQ.pick_f; exact rfl; exact rfl) | (apply OQ.callx (vs := [Z a]); exact goes_atomA; exact rfl; exact (fun w' _ => c1 w')) | (apply OQ.callx (vs := [Z b]); exact goes_atomA; exact rfl; exact (fun w' _ => c2 w')) | (apply OQ.move; exact rfl) | (apply OQ.assign; exact rfl) | (apply OQ.len; exact rfl; exact rfl) | (apply OQ.addN; exact rfl; exact rfl; exact (by (try simp only []); omega)) | (apply OQ.subN; exact rfl; exact rfl; exact (by (try simp only []); omega); exact (by (try simp only []); omega)) | (apply OQ.lssN; exact rfl; exact rfl) | (apply OQ.gtrN; exact rfl; exact rfl)) rfl ?_ | refine JC.seq ?_ | refine JC.region ?_ | refine JC.block ?_ | refine JC.skip ?_ | refine JC.exit ?_ | refine JL.nil ?_ | refine JE.next ?_ | refine JE.blk_normal ?_ | refine JE.then_exit ?_ | refine JE.blk_hit ?_ | refine JE.blk_miss rfl ?_ | refine JE.then_ret ?_ | refine JE.blk_ret ?_ | refine JC.label ?_ | refine JL.gon rfl rfl ?_ | refine JL.gskip rfl rfl rfl rfl ?_ | refine JL.gskipU rfl rfl rfl rfl ?_))
    all_goals exact JC.ret (JE.ret1 rfl (RV.tmp rfl) fun w' hw => ⟨rfl, hw.chg⟩)
  · rw [if_neg hf] at cC
    rw [decide_eq_false hf, Bool.false_and]
    repeat (first | refine JL.q (by first | (apply OQ.callx (vs := [Z s, Z [47]]); exact goes_cutw; exact rfl; exact (fun w' _ => cC w')) | (apply OQ.extract; exact rfl; exact rfl) | (apply OQ.pick_t; exact rfl; exact rfl) | (apply OQ.pick_f; exact rfl; exact rfl) | (apply OQ.move; exact rfl) | (apply OQ.assign; exact rfl) | (apply OQ.len; exact rfl; exact rfl) | (apply OQ.addN; exact rfl; exact rfl; exact (by (try simp only []); omega)) | (apply OQ.subN; exact rfl; exact rfl; exact (by (try simp only []); omega); exact (by (try simp only []); omega)) | (apply OQ.lssN; exact rfl; exact rfl) | (apply OQ.gtrN; exact rfl; exact rfl)) rfl ?_ | refine JC.seq ?_ | refine JC.region ?_ | refine JC.block ?_ | refine JC.skip ?_ | refine JC.exit ?_ | refine JL.nil ?_ | refine JE.next ?_ | refine JE.blk_normal ?_ | refine JE.then_exit ?_ | refine JE.blk_hit ?_ | refine JE.blk_miss rfl ?_ | refine JE.then_ret ?_ | refine JE.blk_ret ?_ | refine JC.label ?_ | refine JL.gon rfl rfl ?_ | refine JL.gskip rfl rfl rfl rfl ?_ | refine JL.gskipU rfl rfl rfl rfl ?_)
    exact JC.ret (JE.ret1 rfl (RV.tmp rfl) fun w' hw => ⟨rfl, hw.chg⟩)
theorem sok_parts (c : Fld.By) : sok c = ((decide ((32 : Int) ≤ (c.toNat : Int)) && decide ((c.toNat : Int) ≤ 126)) || decide (c = 9)) := by
  have h : ∀ c : Fin 256, sok (BitVec.ofNat 8 c.val) = ((decide ((32 : Int) ≤ ((BitVec.ofNat 8 c.val).toNat : Int)) && decide (((BitVec.ofNat 8 c.val).toNat : Int) ≤ 126)) || decide (BitVec.ofNat 8 c.val = 9)) := by decide +kernel
  simpa using h ⟨c.toNat, c.isLt⟩
set_option maxHeartbeats 4000000 in
theorem may1_any (c : Bt) (w : World) : Calls Tryd.prog 103 [U8 c].toArray w fun e w' => e = .returned (.bool (sok c)) ∧ Ext w w' := by
  refine enter (n := 13) Tryd.func103 rfl rfl rfl (Holds.start w []) ?_
  rw [sok_parts]
  cases h1 : decide ((32 : Int) ≤ (c.toNat : Int)) <;> cases h2 : decide ((c.toNat : Int) ≤ 126) <;> cases h3 : decide (c = 9)
  all_goals (repeat (first | refine JL.q (by first | (apply OQ.geqB (b := 32); exact rfl; exact rfl; exact h1) | (apply OQ.leqB (b := 126); exact rfl; exact rfl; exact h2) | (apply OQ.eq8T (b := 9); exact rfl; exact rfl; exact h3) | (apply OQ.pick_t; exact rfl; exact rfl) | (apply OQ.pick_f; exact rfl; exact rfl) | (apply OQ.move; exact rfl) | (apply OQ.assign; exact rfl) | (apply OQ.len; exact rfl; exact rfl) | (apply OQ.addN; exact rfl; exact rfl; exact (by (try simp only []); omega)) | (apply OQ.subN; exact rfl; exact rfl; exact (by (try simp only []); omega); exact (by (try simp only []); omega)) | (apply OQ.lssN; exact rfl; exact rfl) | (apply OQ.gtrN; exact rfl; exact rfl)) rfl ?_ | refine JC.seq ?_ | refine JC.region ?_ | refine JC.block ?_ | refine JC.skip ?_ | refine JC.exit ?_ | refine JL.nil ?_ | refine JE.next ?_ | refine JE.blk_normal ?_ | refine JE.then_exit ?_ | refine JE.blk_hit ?_ | refine JE.blk_miss rfl ?_ | refine JE.then_ret ?_ | refine JE.blk_ret ?_ | refine JC.label ?_ | refine JL.gon rfl rfl ?_ | refine JL.gskip rfl rfl rfl rfl ?_ | refine JL.gskipU rfl rfl rfl rfl ?_))
  all_goals exact JC.ret (JE.ret1 rfl (RV.tmp rfl) fun w' hw => ⟨rfl, hw.chg⟩)
@[reducible] def fnV (f : FuncId) : Value := .func (.func f) #[] #[]
theorem fun_may (w : World) : Fun8 Tryd.prog w (fnV 103) sok := ⟨_, [], rfl, goes_may1, fun c w' _ => may1_any c w'⟩
theorem run_all (p : Fld.By → Bool) (s : List Fld.By) : decide ((runB p s : Int) = (s.length : Int)) = s.all p := by
  rw [Bool.eq_iff_iff, decide_eq_true_eq, ← runB_all]
  omega
set_option maxHeartbeats 4000000 in
theorem may_any (s : List Bt) (w : World) (hl : s.length < 9223372036854775808) : Calls Tryd.prog 72 [Z s].toArray w fun e w' => e = .returned (.bool (s.all sok)) ∧ Ext w w' := by
  refine enter (n := 8) Tryd.func72 rfl rfl rfl (Holds.start w []) ?_
  have hr := run_all sok s
  generalize s.all sok = b at hr
  repeat (first | refine JL.q (by first | (apply OQ.callx (vs := [Z s, fnV 103]); exact goes_run; exact rfl; exact (fun w' _ => run_any s _ sok w' (fun_may w') hl)) | (apply OQ.lenS; exact Tryd.underlying9; exact rfl) | (apply OQ.eqB; exact rfl; exact rfl; exact hr) | (apply OQ.move; exact rfl) | (apply OQ.assign; exact rfl) | (apply OQ.len; exact rfl; exact rfl) | (apply OQ.addN; exact rfl; exact rfl; exact (by (try simp only []); omega)) | (apply OQ.subN; exact rfl; exact rfl; exact (by (try simp only []); omega); exact (by (try simp only []); omega)) | (apply OQ.lssN; exact rfl; exact rfl) | (apply OQ.gtrN; exact rfl; exact rfl)) rfl ?_ | refine JC.seq ?_ | refine JC.region ?_ | refine JC.block ?_ | refine JC.skip ?_ | refine JC.exit ?_ | refine JL.nil ?_ | refine JE.next ?_ | refine JE.blk_normal ?_ | refine JE.then_exit ?_ | refine JE.blk_hit ?_ | refine JE.blk_miss rfl ?_ | refine JE.then_ret ?_ | refine JE.blk_ret ?_ | refine JC.label ?_ | refine JL.gon rfl rfl ?_ | refine JL.gskip rfl rfl rfl rfl ?_ | refine JL.gskipU rfl rfl rfl rfl ?_)
  exact JC.ret (JE.ret1 rfl (RV.tmp rfl) fun w' hw => ⟨rfl, hw.chg⟩)
theorem goes_noBig : Goes Tryd.prog 71 := ⟨_, Tryd.func71, rfl, by kernel_rfl⟩
theorem goes_noBig1 : Goes Tryd.prog 102 := ⟨_, Tryd.func102, rfl, by kernel_rfl⟩
def lowB (c : Fld.By) : Bool := decide ((c.toNat : Int) < 65) || decide ((90 : Int) < (c.toNat : Int))
theorem low_small (c : Fld.By) : lowB c = decide (small c = c) := by
  have h : ∀ c : Fin 256, lowB (BitVec.ofNat 8 c.val) = decide (small (BitVec.ofNat 8 c.val) = BitVec.ofNat 8 c.val) := by decide +kernel
  simpa using h ⟨c.toNat, c.isLt⟩
theorem low_all : ∀ s : List Fld.By, s.all lowB = decide (s.map small = s)
  | [] => rfl
  | c :: s => by
    rw [List.all_cons, low_all s, low_small, List.map_cons, Bool.eq_iff_iff, Bool.and_eq_true, decide_eq_true_eq, decide_eq_true_eq, decide_eq_true_eq, List.cons.injEq]
set_option maxHeartbeats 4000000 in
theorem noBig1_any (c : Bt) (w : World) : Calls Tryd.prog 102 [U8 c].toArray w fun e w' => e = .returned (.bool (lowB c)) ∧ Ext w w' := by
  refine enter (n := 9) Tryd.func102 rfl rfl rfl (Holds.start w []) ?_
  unfold lowB
  cases h1 : decide ((c.toNat : Int) < 65) <;> cases h2 : decide ((90 : Int) < (c.toNat : Int))
  all_goals (repeat (first | refine JL.q (by first | (apply OQ.lssB (b := 65); exact rfl; exact rfl; exact h1) | (apply OQ.gtrB (b := 90); exact rfl; exact rfl; exact h2) | (apply OQ.pick_t; exact rfl; exact rfl) | (apply OQ.pick_f; exact rfl; exact rfl) | (apply OQ.move; exact rfl) | (apply OQ.assign; exact rfl) | (apply OQ.len; exact rfl; exact rfl) | (apply OQ.addN; exact rfl; exact rfl; exact (by (try simp only []); omega)) | (apply OQ.subN; exact rfl; exact rfl; exact (by (try simp only []); omega); exact (by (try simp only []); omega)) | (apply OQ.lssN; exact rfl; exact rfl) | (apply OQ.gtrN; exact rfl; exact rfl)) rfl ?_ | refine JC.seq ?_ | refine JC.region ?_ | refine JC.block ?_ | refine JC.skip ?_ | refine JC.exit ?_ | refine JL.nil ?_ | refine JE.next ?_ | refine JE.blk_normal ?_ | refine JE.then_exit ?_ | refine JE.blk_hit ?_ | refine JE.blk_miss rfl ?_ | refine JE.then_ret ?_ | refine JE.blk_ret ?_ | refine JC.label ?_ | refine JL.gon rfl rfl ?_ | refine JL.gskip rfl rfl rfl rfl ?_ | refine JL.gskipU rfl rfl rfl rfl ?_))
  all_goals exact JC.ret (JE.ret1 rfl (RV.tmp rfl) fun w' hw => ⟨rfl, hw.chg⟩)
theorem fun_noBig (w : World) : Fun8 Tryd.prog w (fnV 102) lowB := ⟨_, [], rfl, goes_noBig1, fun c w' _ => noBig1_any c w'⟩
set_option maxHeartbeats 4000000 in
theorem noBig_any (s : List Bt) (w : World) (hl : s.length < 9223372036854775808) : Calls Tryd.prog 71 [Z s].toArray w fun e w' => e = .returned (.bool (decide (s.map small = s))) ∧ Ext w w' := by
  refine enter (n := 8) Tryd.func71 rfl rfl rfl (Holds.start w []) ?_
  have hr := run_all lowB s
  rw [low_all] at hr
  generalize decide (s.map small = s) = b at hr
  repeat (first | refine JL.q (by first | (apply OQ.callx (vs := [Z s, fnV 102]); exact goes_run; exact rfl; exact (fun w' _ => run_any s _ lowB w' (fun_noBig w') hl)) | (apply OQ.lenS; exact Tryd.underlying9; exact rfl) | (apply OQ.eqB; exact rfl; exact rfl; exact hr) | (apply OQ.move; exact rfl) | (apply OQ.assign; exact rfl) | (apply OQ.len; exact rfl; exact rfl) | (apply OQ.addN; exact rfl; exact rfl; exact (by (try simp only []); omega)) | (apply OQ.subN; exact rfl; exact rfl; exact (by (try simp only []); omega); exact (by (try simp only []); omega)) | (apply OQ.lssN; exact rfl; exact rfl) | (apply OQ.gtrN; exact rfl; exact rfl)) rfl ?_ | refine JC.seq ?_ | refine JC.region ?_ | refine JC.block ?_ | refine JC.skip ?_ | refine JC.exit ?_ | refine JL.nil ?_ | refine JE.next ?_ | refine JE.blk_normal ?_ | refine JE.then_exit ?_ | refine JE.blk_hit ?_ | refine JE.blk_miss rfl ?_ | refine JE.then_ret ?_ | refine JE.blk_ret ?_ | refine JC.label ?_ | refine JL.gon rfl rfl ?_ | refine JL.gskip rfl rfl rfl rfl ?_ | refine JL.gskipU rfl rfl rfl rfl ?_)
  exact JC.ret (JE.ret1 rfl (RV.tmp rfl) fun w' hw => ⟨rfl, hw.chg⟩)
/-! ### a part -/
set_option maxHeartbeats 8000000 in
theorem partA_any (s : List Bt) (fv : Value) (p : Bt → Bool) (w : World) (hF : Fun8 Tryd.prog w fv p) (hl : s.length < 9223372036854775808) : Calls Tryd.prog 74 [Z s, fv].toArray w fun e w' => e = .returned (.tuple #[Z (partL p s).1, Z (partL p s).2]) ∧ Ext w w' := by
  refine enter (n := 19) Tryd.func74 rfl rfl rfl (Holds.start w []) ?_
  have c1 := fun w' => triml_any s w'
  unfold partL
  have htl := trimL_len s
  generalize trimL s = t at c1 htl ⊢
  have c2 := fun w' hF' => run_any t fv p w' hF' (by omega)
  have hn := runB_le p t
  rw [← runB_take, ← runB_drop]
  generalize runB p t = n at c2 hn
  have c3 := fun w' => triml_any (t.drop n) w'
  repeat (first | refine JL.q (by first | (apply OQ.callx (vs := [Z s, Z [32, 9]]); exact goes_triml; exact rfl; exact (fun w' _ => c1 w')) | (apply OQ.callx (vs := [Z t, fv]); exact goes_run; exact rfl; exact (fun w' hw' => c2 w' (hF.holds hw'))) | (apply OQ.move; exact rfl) | (apply OQ.assign; exact rfl) | (apply OQ.len; exact rfl; exact rfl) | (apply OQ.addN; exact rfl; exact rfl; exact (by (try simp only []); omega)) | (apply OQ.subN; exact rfl; exact rfl; exact (by (try simp only []); omega); exact (by (try simp only []); omega)) | (apply OQ.lssN; exact rfl; exact rfl) | (apply OQ.gtrN; exact rfl; exact rfl)) rfl ?_ | refine JC.seq ?_ | refine JC.region ?_ | refine JC.block ?_ | refine JC.skip ?_ | refine JC.exit ?_ | refine JL.nil ?_ | refine JE.next ?_ | refine JE.blk_normal ?_ | refine JE.then_exit ?_ | refine JE.blk_hit ?_ | refine JE.blk_miss rfl ?_ | refine JE.then_ret ?_ | refine JE.blk_ret ?_ | refine JC.label ?_ | refine JL.gon rfl rfl ?_ | refine JL.gskip rfl rfl rfl rfl ?_ | refine JL.gskipU rfl rfl rfl rfl ?_)
  refine JC.quiet mixT (by kernel_rfl) ?_
  repeat (first | refine JL.q (by first | (apply OQ.subS_hi; exact Tryd.underlying9; exact rfl; exact rfl; exact hn) | (apply OQ.subS_lo; exact Tryd.underlying9; exact rfl; exact rfl; exact hn) | (apply OQ.callx (vs := [Z (t.drop n), Z [32, 9]]); exact goes_triml; exact rfl; exact (fun w' _ => c3 w')) | (apply OQ.move; exact rfl) | (apply OQ.assign; exact rfl) | (apply OQ.len; exact rfl; exact rfl) | (apply OQ.addN; exact rfl; exact rfl; exact (by (try simp only []); omega)) | (apply OQ.subN; exact rfl; exact rfl; exact (by (try simp only []); omega); exact (by (try simp only []); omega)) | (apply OQ.lssN; exact rfl; exact rfl) | (apply OQ.gtrN; exact rfl; exact rfl)) rfl ?_ | refine JQ.q (by first | (apply OQ.subS_hi; exact Tryd.underlying9; exact rfl; exact rfl; exact hn) | (apply OQ.subS_lo; exact Tryd.underlying9; exact rfl; exact rfl; exact hn) | (apply OQ.callx (vs := [Z (t.drop n), Z [32, 9]]); exact goes_triml; exact rfl; exact (fun w' _ => c3 w')) | (apply OQ.move; exact rfl) | (apply OQ.assign; exact rfl) | (apply OQ.len; exact rfl; exact rfl) | (apply OQ.addN; exact rfl; exact rfl; exact (by (try simp only []); omega)) | (apply OQ.subN; exact rfl; exact rfl; exact (by (try simp only []); omega); exact (by (try simp only []); omega)) | (apply OQ.lssN; exact rfl; exact rfl) | (apply OQ.gtrN; exact rfl; exact rfl)) rfl ?_ | refine JC.seq ?_ | refine JC.region ?_ | refine JC.block ?_ | refine JC.skip ?_ | refine JC.exit ?_ | refine JL.nil ?_ | refine JQ.nil ?_ | refine JQ.nil_tail ?_ | refine JE.next ?_ | refine JE.blk_normal ?_ | refine JE.then_exit ?_ | refine JE.blk_hit ?_ | refine JE.blk_miss rfl ?_ | refine JE.then_ret ?_ | refine JE.blk_ret ?_ | refine JC.label ?_ | refine JL.gon rfl rfl ?_ | refine JQ.gon rfl rfl ?_ | refine JL.gskip rfl rfl rfl rfl ?_ | refine JQ.gskip rfl rfl rfl rfl ?_ | refine JL.gskipU rfl rfl rfl rfl ?_ | refine JQ.gskipU rfl rfl rfl rfl ?_)
  exact JC.ret (JE.ret2 rfl (RV.tmp rfl) (RV.tmp rfl) fun w' hw => ⟨rfl, hw.chg⟩)
end Go.Proofs.YtchoiikhepjdiaaDoor

/-
  Of no statement by itself: what the landed token's unquoted and readValue give.
  Conditions: each theorem's own.
-/
namespace Go.Proofs.YtchoiikhepjdiaaDoor
set_option maxRecDepth 10000
open Sl Fld Tok
structure UqS where
  k : Nat
  o : List Bt
  u : List Bt
  b : Nat
  cap : Nat
set_option maxHeartbeats 16000000 in
theorem unqA_any {i t : List Bt} (h : Inn i t) (w : World) (hl : i.length < 1000000000) : Calls Tryd.prog 125 [Z i].toArray w fun e w' => e = .returned (Z t) ∧ Ext w w' := by
  refine enter (n := 28) Tryd.func125 rfl rfl rfl (Holds.start w []) ?_
  repeat (first | refine JL.q (by first | (apply OQ.lenS; exact Tryd.underlying9; exact rfl) | (apply OQ.move; exact rfl) | (apply OQ.assign; exact rfl) | (apply OQ.len; exact rfl; exact rfl) | (apply OQ.addN; exact rfl; exact rfl; exact (by (try simp only []); omega)) | (apply OQ.subN; exact rfl; exact rfl; exact (by (try simp only []); omega); exact (by (try simp only []); omega)) | (apply OQ.lssN; exact rfl; exact rfl)) rfl ?_ | refine JC.seq ?_ | refine JC.region ?_ | refine JC.block ?_ | refine JC.skip ?_ | refine JC.exit ?_ | refine JL.nil ?_ | refine JE.next ?_ | refine JE.blk_normal ?_ | refine JE.then_exit ?_ | refine JE.blk_hit ?_ | refine JE.blk_miss rfl ?_ | refine JE.then_ret ?_ | refine JE.blk_ret ?_ | refine JC.label ?_ | refine JL.gon rfl rfl ?_ | refine JL.gskip rfl rfl rfl rfl ?_ | refine JL.gskipU rfl rfl rfl rfl ?_)
  refine JL.make0 (c := i.length) Tryd.underlying25 u8e rfl rfl (by omega) rfl fun b0 _ => ?_
  repeat (first | refine JL.q (by first | (apply OQ.move; exact rfl) | (apply OQ.assign; exact rfl) | (apply OQ.len; exact rfl; exact rfl) | (apply OQ.addN; exact rfl; exact rfl; exact (by (try simp only []); omega)) | (apply OQ.subN; exact rfl; exact rfl; exact (by (try simp only []); omega); exact (by (try simp only []); omega)) | (apply OQ.lssN; exact rfl; exact rfl)) rfl ?_ | refine JC.seq ?_ | refine JC.region ?_ | refine JC.block ?_ | refine JC.skip ?_ | refine JC.exit ?_ | refine JL.nil ?_ | refine JE.next ?_ | refine JE.blk_normal ?_ | refine JE.then_exit ?_ | refine JE.blk_hit ?_ | refine JE.blk_miss rfl ?_ | refine JE.then_ret ?_ | refine JE.blk_ret ?_ | refine JC.label ?_ | refine JL.gon rfl rfl ?_ | refine JL.gskip rfl rfl rfl rfl ?_ | refine JL.gskipU rfl rfl rfl rfl ?_)
  refine JC.loop (fun z : UqS => [(0, Z i), (3, .slice (some ⟨z.b, 0, none⟩) z.o.length z.cap), (4, N z.k)]) (fun z => [⟨z.b, Own 5 1 z.o.length z.cap (z.o.map U8), true⟩]) (fun z => i.length - z.k) (fun z => z.k ≤ i.length ∧ z.o.length ≤ z.k ∧ Inn (i.drop z.k) z.u ∧ t = z.o ++ z.u) ⟨0, [], t, b0, i.length⟩ ⟨Nat.zero_le _, Nat.zero_le _, h, rfl⟩ (by repeat (first | exact SubE.nil | refine SubE.cons _ _ _ rfl ?_)) (Less.refl _) ?_
  rintro ⟨k, o, u, b, cap⟩ ⟨hk, ho, hI, ht⟩
  dsimp only at hk ho hI ht ⊢
  clear h
  repeat (first | refine JL.q (by first | (apply OQ.lenS; exact Tryd.underlying9; exact rfl) | (apply OQ.move; exact rfl) | (apply OQ.assign; exact rfl) | (apply OQ.len; exact rfl; exact rfl) | (apply OQ.addN; exact rfl; exact rfl; exact (by (try simp only []); omega)) | (apply OQ.subN; exact rfl; exact rfl; exact (by (try simp only []); omega); exact (by (try simp only []); omega)) | (apply OQ.lssN; exact rfl; exact rfl)) rfl ?_ | refine JC.seq ?_ | refine JC.region ?_ | refine JC.block ?_ | refine JC.skip ?_ | refine JC.exit ?_ | refine JL.nil ?_ | refine JE.next ?_ | refine JE.blk_normal ?_ | refine JE.then_exit ?_ | refine JE.blk_hit ?_ | refine JE.blk_miss rfl ?_ | refine JE.then_ret ?_ | refine JE.blk_ret ?_ | refine JC.label ?_ | refine JL.gon rfl rfl ?_ | refine JL.gskip rfl rfl rfl rfl ?_ | refine JL.gskipU rfl rfl rfl rfl ?_)
  refine JC.cond rfl (fun h => ?_) (fun h => ?_)
  · have hk' : k < i.length := of_decide_eq_true h
    clear h hk
    have hdr : i.drop k = i.getD k 0 :: i.drop (k + 1) := by rw [List.drop_eq_getElem_cons hk', List.getD_eq_getElem?_getD, List.getElem?_eq_getElem hk']; rfl
    rw [hdr] at hI
    have i0 := fun {n : Nat} {E : Env} {C : World → Prop} {dst : Option Tmp} {ty : TypeId} {pos : String} {aft : Array Edge} {g : Option (Nat × Bool)} {x y : Operand} => idxAt10 hk' (n := n) (E := E) (C := C) (dst := dst) (ty := ty) (pos := pos) (aft := aft) (g := g) (x := x) (y := y)
    generalize i.getD k 0 = c at hI i0
    generalize hx : i.drop (k + 1) = x at hI
    cases h92 : decide (c = 92)
    · obtain ⟨u', rfl, hI'⟩ : ∃ u', u = c :: u' ∧ Inn x u' := by
        cases hI with
        | esc d h => exact absurd rfl (of_decide_eq_false h92)
        | chr h1 h2 h => exact ⟨_, rfl, h⟩
      repeat (first | refine JL.q (by first | (apply i0; exact rfl; exact rfl) | (apply OQ.eq8T (b := 92); exact rfl; exact rfl; exact h92) | (apply OQ.move; exact rfl) | (apply OQ.assign; exact rfl) | (apply OQ.len; exact rfl; exact rfl) | (apply OQ.addN; exact rfl; exact rfl; exact (by (try simp only []); omega)) | (apply OQ.subN; exact rfl; exact rfl; exact (by (try simp only []); omega); exact (by (try simp only []); omega)) | (apply OQ.lssN; exact rfl; exact rfl)) rfl ?_ | refine JC.seq ?_ | refine JC.region ?_ | refine JC.block ?_ | refine JC.skip ?_ | refine JC.exit ?_ | refine JL.nil ?_ | refine JE.next ?_ | refine JE.blk_normal ?_ | refine JE.then_exit ?_ | refine JE.blk_hit ?_ | refine JE.blk_miss rfl ?_ | refine JE.then_ret ?_ | refine JE.blk_ret ?_ | refine JC.label ?_ | refine JL.gon rfl rfl ?_ | refine JL.gskip rfl rfl rfl rfl ?_ | refine JL.gskipU rfl rfl rfl rfl ?_)
      refine JC.cond rfl (fun h => by cases h) (fun _ => ?_)
      repeat (first | refine JL.q (by first | (apply i0; exact rfl; exact rfl) | (apply OQ.move; exact rfl) | (apply OQ.assign; exact rfl) | (apply OQ.len; exact rfl; exact rfl) | (apply OQ.addN; exact rfl; exact rfl; exact (by (try simp only []); omega)) | (apply OQ.subN; exact rfl; exact rfl; exact (by (try simp only []); omega); exact (by (try simp only []); omega)) | (apply OQ.lssN; exact rfl; exact rfl)) rfl ?_ | refine JC.seq ?_ | refine JC.region ?_ | refine JC.block ?_ | refine JC.skip ?_ | refine JC.exit ?_ | refine JL.nil ?_ | refine JE.next ?_ | refine JE.blk_normal ?_ | refine JE.then_exit ?_ | refine JE.blk_hit ?_ | refine JE.blk_miss rfl ?_ | refine JE.then_ret ?_ | refine JE.blk_ret ?_ | refine JC.label ?_ | refine JL.gon rfl rfl ?_ | refine JL.gskip rfl rfl rfl rfl ?_ | refine JL.gskipU rfl rfl rfl rfl ?_)
      refine JL.push1 (xs := o.map U8) (fun b' cap' => [⟨b', Own 5 1 (o.length + 1) cap' (o.map U8 ++ [U8 c]), true⟩]) Tryd.underlying25 u8e rfl rfl rfl rfl (fun _ => rfl) (by intro _ _; repeat (first | exact Repl.here | apply Repl.there)) (by omega) (by omega) rfl rfl fun bl b' cap' => ?_
      repeat (first | refine JL.q (by first | (apply OQ.move; exact rfl) | (apply OQ.assign; exact rfl) | (apply OQ.len; exact rfl; exact rfl) | (apply OQ.addN; exact rfl; exact rfl; exact (by (try simp only []); omega)) | (apply OQ.subN; exact rfl; exact rfl; exact (by (try simp only []); omega); exact (by (try simp only []); omega)) | (apply OQ.lssN; exact rfl; exact rfl)) rfl ?_ | refine JC.seq ?_ | refine JC.region ?_ | refine JC.block ?_ | refine JC.skip ?_ | refine JC.exit ?_ | refine JL.nil ?_ | refine JE.next ?_ | refine JE.blk_normal ?_ | refine JE.then_exit ?_ | refine JE.blk_hit ?_ | refine JE.blk_miss rfl ?_ | refine JE.then_ret ?_ | refine JE.blk_ret ?_ | refine JC.label ?_ | refine JL.gon rfl rfl ?_ | refine JL.gskip rfl rfl rfl rfl ?_ | refine JL.gskipU rfl rfl rfl rfl ?_)
      refine JE.again (i := UqS.mk k o (c :: u') b cap) (UqS.mk (k + 1) (o ++ [c]) u' b' cap') ⟨hk', ?_, ?_, ?_⟩ (by dsimp only; omega) ?_ (.keep _ _ _ _ _ _ (fun o' h => ?_) (.nil _))
      · dsimp only; rw [List.length_append, List.length_singleton]; omega
      · dsimp only; rw [hx]; exact hI'
      · dsimp only; rw [ht]; simp
      · dsimp only; rw [List.length_append, List.length_singleton]; exact (by repeat (first | exact SubE.nil | refine SubE.cons _ _ _ rfl ?_))
      · dsimp only; rw [List.length_append, List.length_singleton, List.map_append]; exact h
    · obtain ⟨d, x', u', hx', rfl, hI'⟩ : ∃ d x' u', x = d :: x' ∧ u = d :: u' ∧ Inn x' u' := by
        cases hI with
        | esc d h => exact ⟨d, _, _, rfl, rfl, h⟩
        | chr h1 h2 h => exact absurd (of_decide_eq_true h92) h2
      have hk2 : k + 1 < i.length := by
        by_cases e : k + 1 < i.length
        · exact e
        · rw [List.drop_eq_nil_of_le (by omega)] at hx
          rw [← hx] at hx'
          cases hx'
      have hdr2 : i.drop (k + 1) = i.getD (k + 1) 0 :: i.drop (k + 2) := by rw [List.drop_eq_getElem_cons hk2, List.getD_eq_getElem?_getD, List.getElem?_eq_getElem hk2]; rfl
      have i1 := fun {n : Nat} {E : Env} {C : World → Prop} {dst : Option Tmp} {ty : TypeId} {pos : String} {aft : Array Edge} {g : Option (Nat × Bool)} {x y : Operand} => idxAt10 hk2 (n := n) (E := E) (C := C) (dst := dst) (ty := ty) (pos := pos) (aft := aft) (g := g) (x := x) (y := y)
      rw [hx, hx'] at hdr2
      obtain ⟨hd, hx2⟩ := List.cons.inj hdr2
      rw [← hd] at i1
      repeat (first | refine JL.q (by first | (apply i0; exact rfl; exact rfl) | (apply OQ.eq8T (b := 92); exact rfl; exact rfl; exact h92) | (apply OQ.move; exact rfl) | (apply OQ.assign; exact rfl) | (apply OQ.len; exact rfl; exact rfl) | (apply OQ.addN; exact rfl; exact rfl; exact (by (try simp only []); omega)) | (apply OQ.subN; exact rfl; exact rfl; exact (by (try simp only []); omega); exact (by (try simp only []); omega)) | (apply OQ.lssN; exact rfl; exact rfl)) rfl ?_ | refine JC.seq ?_ | refine JC.region ?_ | refine JC.block ?_ | refine JC.skip ?_ | refine JC.exit ?_ | refine JL.nil ?_ | refine JE.next ?_ | refine JE.blk_normal ?_ | refine JE.then_exit ?_ | refine JE.blk_hit ?_ | refine JE.blk_miss rfl ?_ | refine JE.then_ret ?_ | refine JE.blk_ret ?_ | refine JC.label ?_ | refine JL.gon rfl rfl ?_ | refine JL.gskip rfl rfl rfl rfl ?_ | refine JL.gskipU rfl rfl rfl rfl ?_)
      refine JC.cond rfl (fun _ => ?_) (fun h => by cases h)
      repeat (first | refine JL.q (by first | (apply i1; exact rfl; exact rfl) | (apply OQ.move; exact rfl) | (apply OQ.assign; exact rfl) | (apply OQ.len; exact rfl; exact rfl) | (apply OQ.addN; exact rfl; exact rfl; exact (by (try simp only []); omega)) | (apply OQ.subN; exact rfl; exact rfl; exact (by (try simp only []); omega); exact (by (try simp only []); omega)) | (apply OQ.lssN; exact rfl; exact rfl)) rfl ?_ | refine JC.seq ?_ | refine JC.region ?_ | refine JC.block ?_ | refine JC.skip ?_ | refine JC.exit ?_ | refine JL.nil ?_ | refine JE.next ?_ | refine JE.blk_normal ?_ | refine JE.then_exit ?_ | refine JE.blk_hit ?_ | refine JE.blk_miss rfl ?_ | refine JE.then_ret ?_ | refine JE.blk_ret ?_ | refine JC.label ?_ | refine JL.gon rfl rfl ?_ | refine JL.gskip rfl rfl rfl rfl ?_ | refine JL.gskipU rfl rfl rfl rfl ?_)
      refine JL.push1 (xs := o.map U8) (fun b' cap' => [⟨b', Own 5 1 (o.length + 1) cap' (o.map U8 ++ [U8 d]), true⟩]) Tryd.underlying25 u8e rfl rfl rfl rfl (fun _ => rfl) (by intro _ _; repeat (first | exact Repl.here | apply Repl.there)) (by omega) (by omega) rfl rfl fun bl b' cap' => ?_
      repeat (first | refine JL.q (by first | (apply OQ.move; exact rfl) | (apply OQ.assign; exact rfl) | (apply OQ.len; exact rfl; exact rfl) | (apply OQ.addN; exact rfl; exact rfl; exact (by (try simp only []); omega)) | (apply OQ.subN; exact rfl; exact rfl; exact (by (try simp only []); omega); exact (by (try simp only []); omega)) | (apply OQ.lssN; exact rfl; exact rfl)) rfl ?_ | refine JC.seq ?_ | refine JC.region ?_ | refine JC.block ?_ | refine JC.skip ?_ | refine JC.exit ?_ | refine JL.nil ?_ | refine JE.next ?_ | refine JE.blk_normal ?_ | refine JE.then_exit ?_ | refine JE.blk_hit ?_ | refine JE.blk_miss rfl ?_ | refine JE.then_ret ?_ | refine JE.blk_ret ?_ | refine JC.label ?_ | refine JL.gon rfl rfl ?_ | refine JL.gskip rfl rfl rfl rfl ?_ | refine JL.gskipU rfl rfl rfl rfl ?_)
      refine JE.again (i := UqS.mk k o (d :: u') b cap) (UqS.mk (k + 2) (o ++ [d]) u' b' cap') ⟨by dsimp only; omega, ?_, ?_, ?_⟩ (by dsimp only; omega) ?_ (.keep _ _ _ _ _ _ (fun o' h => ?_) (.nil _))
      · dsimp only; rw [List.length_append, List.length_singleton]; omega
      · dsimp only; rw [← hx2]; exact hI'
      · dsimp only; rw [ht]; simp
      · dsimp only; rw [List.length_append, List.length_singleton]; exact (by repeat (first | exact SubE.nil | refine SubE.cons _ _ _ rfl ?_))
      · dsimp only; rw [List.length_append, List.length_singleton, List.map_append]; exact h
  · have hk' : ¬ k < i.length := of_decide_eq_false h
    obtain rfl : k = i.length := by omega
    rw [List.drop_length] at hI
    cases hI
    rw [List.append_nil] at ht
    subst ht
    repeat (first | refine JL.q (by first | (apply OQ.b2s (s := ⟨some ⟨b, 0, none⟩, cap, t⟩); exact Tryd.underlying25; exact Tryd.underlying5; exact Tryd.underlying9; exact rfl; exact (fun w' hw' => ownb_ok hw' .here)) | (apply OQ.move; exact rfl) | (apply OQ.assign; exact rfl) | (apply OQ.len; exact rfl; exact rfl) | (apply OQ.addN; exact rfl; exact rfl; exact (by (try simp only []); omega)) | (apply OQ.subN; exact rfl; exact rfl; exact (by (try simp only []); omega); exact (by (try simp only []); omega)) | (apply OQ.lssN; exact rfl; exact rfl)) rfl ?_ | refine JC.seq ?_ | refine JC.region ?_ | refine JC.block ?_ | refine JC.skip ?_ | refine JC.exit ?_ | refine JL.nil ?_ | refine JE.next ?_ | refine JE.blk_normal ?_ | refine JE.then_exit ?_ | refine JE.blk_hit ?_ | refine JE.blk_miss rfl ?_ | refine JE.then_ret ?_ | refine JE.blk_ret ?_ | refine JC.label ?_ | refine JL.gon rfl rfl ?_ | refine JL.gskip rfl rfl rfl rfl ?_ | refine JL.gskipU rfl rfl rfl rfl ?_)
    exact JC.ret (JE.ret1 rfl (RV.tmp rfl) fun w' hw => ⟨rfl, hw.chg⟩)
theorem quotedN_any (r : List Bt) (w : World) (hl : r.length < 9223372036854770000) : Calls Tryd.prog 53 [Z r].toArray w fun e w' => e = .returned (N (quotR r.tail 1)) ∧ Ext w w' := by
  cases r with
  | cons c r => exact quoted_any c r w (by rw [List.length_cons] at hl; omega)
  | nil =>
    refine enter (n := 21) Tryd.func53 rfl rfl rfl (Holds.start w []) ?_
    repeat (first | refine JL.q (by first | (apply OQ.move; exact rfl) | (apply OQ.assign; exact rfl) | (apply OQ.len; exact rfl; exact rfl) | (apply OQ.addN; exact rfl; exact rfl; exact (by (try simp only []); omega)) | (apply OQ.subN; exact rfl; exact rfl; exact (by (try simp only []); omega); exact (by (try simp only []); omega)) | (apply OQ.lssN; exact rfl; exact rfl)) rfl ?_ | refine JC.seq ?_ | refine JC.region ?_ | refine JC.block ?_ | refine JC.skip ?_ | refine JC.exit ?_ | refine JL.nil ?_ | refine JE.next ?_ | refine JE.blk_normal ?_ | refine JE.then_exit ?_ | refine JE.blk_hit ?_ | refine JE.blk_miss rfl ?_ | refine JE.then_ret ?_ | refine JE.blk_ret ?_ | refine JC.label ?_ | refine JL.gon rfl rfl ?_ | refine JL.gskip rfl rfl rfl rfl ?_ | refine JL.gskipU rfl rfl rfl rfl ?_)
    refine JC.loop (fun k : Nat => [(0, Z []), (3, N 1)]) (fun _ => []) (fun _ => 0) (fun _ => True) 1 trivial (by repeat (first | exact SubE.nil | refine SubE.cons _ _ _ rfl ?_)) (Less.refl _) ?_
    intro _ _
    repeat (first | refine JL.q (by first | (apply OQ.lenS; exact Tryd.underlying9; exact rfl) | (apply OQ.move; exact rfl) | (apply OQ.assign; exact rfl) | (apply OQ.len; exact rfl; exact rfl) | (apply OQ.addN; exact rfl; exact rfl; exact (by (try simp only []); omega)) | (apply OQ.subN; exact rfl; exact rfl; exact (by (try simp only []); omega); exact (by (try simp only []); omega)) | (apply OQ.lssN; exact rfl; exact rfl)) rfl ?_ | refine JC.seq ?_ | refine JC.region ?_ | refine JC.block ?_ | refine JC.skip ?_ | refine JC.exit ?_ | refine JL.nil ?_ | refine JE.next ?_ | refine JE.blk_normal ?_ | refine JE.then_exit ?_ | refine JE.blk_hit ?_ | refine JE.blk_miss rfl ?_ | refine JE.then_ret ?_ | refine JE.blk_ret ?_ | refine JC.label ?_ | refine JL.gon rfl rfl ?_ | refine JL.gskip rfl rfl rfl rfl ?_ | refine JL.gskipU rfl rfl rfl rfl ?_)
    refine JC.cond rfl (fun h => absurd (of_decide_eq_true h) (by decide)) (fun _ => ?_)
    repeat (first | refine JL.q (by first | (apply OQ.move; exact rfl) | (apply OQ.assign; exact rfl) | (apply OQ.len; exact rfl; exact rfl) | (apply OQ.addN; exact rfl; exact rfl; exact (by (try simp only []); omega)) | (apply OQ.subN; exact rfl; exact rfl; exact (by (try simp only []); omega); exact (by (try simp only []); omega)) | (apply OQ.lssN; exact rfl; exact rfl)) rfl ?_ | refine JC.seq ?_ | refine JC.region ?_ | refine JC.block ?_ | refine JC.skip ?_ | refine JC.exit ?_ | refine JL.nil ?_ | refine JE.next ?_ | refine JE.blk_normal ?_ | refine JE.then_exit ?_ | refine JE.blk_hit ?_ | refine JE.blk_miss rfl ?_ | refine JE.then_ret ?_ | refine JE.blk_ret ?_ | refine JC.label ?_ | refine JL.gon rfl rfl ?_ | refine JL.gskip rfl rfl rfl rfl ?_ | refine JL.gskipU rfl rfl rfl rfl ?_)
    refine JC.ret ?_
    exact JE.ret1 rfl (RV.tmp rfl) fun w' hw => ⟨rfl, hw.chg⟩
set_option maxHeartbeats 16000000 in
theorem readV_any (s : List Bt) (w : World) (hl : s.length < 1000000000) : Calls Tryd.prog 104 [Z s].toArray w fun e w' => e = .returned (.tuple #[Z (valL s).1, Z (valL s).2.1, .bool (valL s).2.2]) ∧ Ext w w' := by
  refine enter (n := 38) Tryd.func104 rfl rfl rfl (Holds.start w []) ?_
  have cP : ∀ (b : Nat) (w0 w' : World) (M : List Ent), Holds w0 [] (⟨b, Row 9 [Z notWord], true⟩ :: M) w' → Calls Tryd.prog 74 [Z s, prF b].toArray w' fun e w'' => e = .returned (.tuple #[Z (partL looseB s).1, Z (partL looseB s).2]) ∧ Ext w' w'' := fun b w0 w' M hw' => by
    have := partA_any s (prF b) (prB notWord) w' (fun_printed hw' .here) (by omega)
    rw [prB_word] at this
    exact this
  obtain ⟨b1, b2, e1, k1, k2, _⟩ := partL_split looseB s
  have hrl : (partL looseB s).2.length ≤ s.length := by
    conv => rhs; rw [e1]
    simp only [List.length_append]
    omega
  clear e1 k1 k2 b1 b2
  unfold valL
  generalize (partL looseB s).1 = V at cP hrl ⊢
  generalize (partL looseB s).2 = r at cP hrl ⊢
  repeat (first | refine JL.q (by first | (apply OQ.move; exact rfl) | (apply OQ.assign; exact rfl) | (apply OQ.len; exact rfl; exact rfl) | (apply OQ.addN; exact rfl; exact rfl; exact (by (try simp only []); omega)) | (apply OQ.subN; exact rfl; exact rfl; exact (by (try simp only []); omega); exact (by (try simp only []); omega)) | (apply OQ.lssN; exact rfl; exact rfl)) rfl ?_ | refine JC.seq ?_ | refine JC.region ?_ | refine JC.block ?_ | refine JC.skip ?_ | refine JC.exit ?_ | refine JL.nil ?_ | refine JE.next ?_ | refine JE.blk_normal ?_ | refine JE.then_exit ?_ | refine JE.blk_hit ?_ | refine JE.blk_miss rfl ?_ | refine JE.then_ret ?_ | refine JE.blk_ret ?_ | refine JC.label ?_ | refine JL.gon rfl rfl ?_ | refine JL.gskip rfl rfl rfl rfl ?_ | refine JL.gskipU rfl rfl rfl rfl ?_)
  refine JL.callg (ι := Nat) (vs := [Z notWord]) prF (fun b => [⟨b, Row 9 [Z notWord], true⟩]) goes_printed rfl rfl (fun b e he => by rw [List.mem_singleton.1 he]) (fun w' _ => printed_any notWord w') fun b => ?_
  cases hV : decide (V = [])
  · rw [if_pos (of_decide_eq_false hV)]
    repeat (first | refine JL.q (by first | (apply OQ.callx (vs := [Z s, prF b]); exact goes_partA; exact rfl; exact (fun w' hw' => cP b _ w' _ hw')) | (apply OQ.extract; exact rfl; exact rfl) | (apply OQ.neSB (r := []); exact rfl; exact rfl; exact hV) | (apply OQ.move; exact rfl) | (apply OQ.assign; exact rfl) | (apply OQ.len; exact rfl; exact rfl) | (apply OQ.addN; exact rfl; exact rfl; exact (by (try simp only []); omega)) | (apply OQ.subN; exact rfl; exact rfl; exact (by (try simp only []); omega); exact (by (try simp only []); omega)) | (apply OQ.lssN; exact rfl; exact rfl)) rfl ?_ | refine JC.seq ?_ | refine JC.region ?_ | refine JC.block ?_ | refine JC.skip ?_ | refine JC.exit ?_ | refine JL.nil ?_ | refine JE.next ?_ | refine JE.blk_normal ?_ | refine JE.then_exit ?_ | refine JE.blk_hit ?_ | refine JE.blk_miss rfl ?_ | refine JE.then_ret ?_ | refine JE.blk_ret ?_ | refine JC.label ?_ | refine JL.gon rfl rfl ?_ | refine JL.gskip rfl rfl rfl rfl ?_ | refine JL.gskipU rfl rfl rfl rfl ?_)
    refine JC.cond rfl (fun _ => ?_) (fun h => by cases h)
    repeat (first | refine JL.q (by first | (apply OQ.move; exact rfl) | (apply OQ.assign; exact rfl) | (apply OQ.len; exact rfl; exact rfl) | (apply OQ.addN; exact rfl; exact rfl; exact (by (try simp only []); omega)) | (apply OQ.subN; exact rfl; exact rfl; exact (by (try simp only []); omega); exact (by (try simp only []); omega)) | (apply OQ.lssN; exact rfl; exact rfl)) rfl ?_ | refine JC.seq ?_ | refine JC.region ?_ | refine JC.block ?_ | refine JC.skip ?_ | refine JC.exit ?_ | refine JL.nil ?_ | refine JE.next ?_ | refine JE.blk_normal ?_ | refine JE.then_exit ?_ | refine JE.blk_hit ?_ | refine JE.blk_miss rfl ?_ | refine JE.then_ret ?_ | refine JE.blk_ret ?_ | refine JC.label ?_ | refine JL.gon rfl rfl ?_ | refine JL.gskip rfl rfl rfl rfl ?_ | refine JL.gskipU rfl rfl rfl rfl ?_)
    refine JC.ret ?_
    repeat (first | refine JL.q (by first | (apply OQ.move; exact rfl) | (apply OQ.assign; exact rfl) | (apply OQ.len; exact rfl; exact rfl) | (apply OQ.addN; exact rfl; exact rfl; exact (by (try simp only []); omega)) | (apply OQ.subN; exact rfl; exact rfl; exact (by (try simp only []); omega); exact (by (try simp only []); omega)) | (apply OQ.lssN; exact rfl; exact rfl)) rfl ?_ | refine JC.seq ?_ | refine JC.region ?_ | refine JC.block ?_ | refine JC.skip ?_ | refine JC.exit ?_ | refine JL.nil ?_ | refine JE.next ?_ | refine JE.blk_normal ?_ | refine JE.then_exit ?_ | refine JE.blk_hit ?_ | refine JE.blk_miss rfl ?_ | refine JE.then_ret ?_ | refine JE.blk_ret ?_ | refine JC.label ?_ | refine JL.gon rfl rfl ?_ | refine JL.gskip rfl rfl rfl rfl ?_ | refine JL.gskipU rfl rfl rfl rfl ?_)
    exact JE.ret3 rfl (RV.tmp rfl) (RV.tmp rfl) (RV.tmp rfl) fun w' hw => ⟨rfl, hw.chg⟩
  rw [if_neg (fun k => k (of_decide_eq_true hV))]
  have cQ := fun w' => quotedN_any r w' (by omega)
  cases hq : decide ((quotR r.tail 1 : Int) = 0)
  case true =>
    rw [if_neg (fun k => k.2 (by have := of_decide_eq_true hq; omega))]
    generalize quotR r.tail 1 = q at cQ hq
    repeat (first | refine JL.q (by first | (apply OQ.callx (vs := [Z s, prF b]); exact goes_partA; exact rfl; exact (fun w' hw' => cP b _ w' _ hw')) | (apply OQ.extract; exact rfl; exact rfl) | (apply OQ.neSB (r := []); exact rfl; exact rfl; exact hV) | (apply OQ.move; exact rfl) | (apply OQ.assign; exact rfl) | (apply OQ.len; exact rfl; exact rfl) | (apply OQ.addN; exact rfl; exact rfl; exact (by (try simp only []); omega)) | (apply OQ.subN; exact rfl; exact rfl; exact (by (try simp only []); omega); exact (by (try simp only []); omega)) | (apply OQ.lssN; exact rfl; exact rfl)) rfl ?_ | refine JC.seq ?_ | refine JC.region ?_ | refine JC.block ?_ | refine JC.skip ?_ | refine JC.exit ?_ | refine JL.nil ?_ | refine JE.next ?_ | refine JE.blk_normal ?_ | refine JE.then_exit ?_ | refine JE.blk_hit ?_ | refine JE.blk_miss rfl ?_ | refine JE.then_ret ?_ | refine JE.blk_ret ?_ | refine JC.label ?_ | refine JL.gon rfl rfl ?_ | refine JL.gskip rfl rfl rfl rfl ?_ | refine JL.gskipU rfl rfl rfl rfl ?_)
    refine JC.cond rfl (fun h => by cases h) (fun _ => ?_)
    repeat (first | refine JL.q (by first | (apply OQ.callx (vs := [Z r]); exact goes_quoted; exact rfl; exact (fun w' _ => cQ w')) | (apply OQ.eqB (b := 0); exact rfl; exact rfl; exact hq) | (apply OQ.pick_t; exact rfl; exact rfl) | (apply OQ.move; exact rfl) | (apply OQ.assign; exact rfl) | (apply OQ.len; exact rfl; exact rfl) | (apply OQ.addN; exact rfl; exact rfl; exact (by (try simp only []); omega)) | (apply OQ.subN; exact rfl; exact rfl; exact (by (try simp only []); omega); exact (by (try simp only []); omega)) | (apply OQ.lssN; exact rfl; exact rfl)) rfl ?_ | refine JC.seq ?_ | refine JC.region ?_ | refine JC.block ?_ | refine JC.skip ?_ | refine JC.exit ?_ | refine JL.nil ?_ | refine JE.next ?_ | refine JE.blk_normal ?_ | refine JE.then_exit ?_ | refine JE.blk_hit ?_ | refine JE.blk_miss rfl ?_ | refine JE.then_ret ?_ | refine JE.blk_ret ?_ | refine JC.label ?_ | refine JL.gon rfl rfl ?_ | refine JL.gskip rfl rfl rfl rfl ?_ | refine JL.gskipU rfl rfl rfl rfl ?_)
    refine JC.cond rfl (fun _ => ?_) (fun h => by cases h)
    repeat (first | refine JL.q (by first | (apply OQ.move; exact rfl) | (apply OQ.assign; exact rfl) | (apply OQ.len; exact rfl; exact rfl) | (apply OQ.addN; exact rfl; exact rfl; exact (by (try simp only []); omega)) | (apply OQ.subN; exact rfl; exact rfl; exact (by (try simp only []); omega); exact (by (try simp only []); omega)) | (apply OQ.lssN; exact rfl; exact rfl)) rfl ?_ | refine JC.seq ?_ | refine JC.region ?_ | refine JC.block ?_ | refine JC.skip ?_ | refine JC.exit ?_ | refine JL.nil ?_ | refine JE.next ?_ | refine JE.blk_normal ?_ | refine JE.then_exit ?_ | refine JE.blk_hit ?_ | refine JE.blk_miss rfl ?_ | refine JE.then_ret ?_ | refine JE.blk_ret ?_ | refine JC.label ?_ | refine JL.gon rfl rfl ?_ | refine JL.gskip rfl rfl rfl rfl ?_ | refine JL.gskipU rfl rfl rfl rfl ?_)
    refine JC.ret ?_
    repeat (first | refine JL.q (by first | (apply OQ.move; exact rfl) | (apply OQ.assign; exact rfl) | (apply OQ.len; exact rfl; exact rfl) | (apply OQ.addN; exact rfl; exact rfl; exact (by (try simp only []); omega)) | (apply OQ.subN; exact rfl; exact rfl; exact (by (try simp only []); omega); exact (by (try simp only []); omega)) | (apply OQ.lssN; exact rfl; exact rfl)) rfl ?_ | refine JC.seq ?_ | refine JC.region ?_ | refine JC.block ?_ | refine JC.skip ?_ | refine JC.exit ?_ | refine JL.nil ?_ | refine JE.next ?_ | refine JE.blk_normal ?_ | refine JE.then_exit ?_ | refine JE.blk_hit ?_ | refine JE.blk_miss rfl ?_ | refine JE.then_ret ?_ | refine JE.blk_ret ?_ | refine JC.label ?_ | refine JL.gon rfl rfl ?_ | refine JL.gskip rfl rfl rfl rfl ?_ | refine JL.gskipU rfl rfl rfl rfl ?_)
    exact JE.ret3 rfl (RV.tmp rfl) (RV.tmp rfl) (RV.tmp rfl) fun w' hw => ⟨rfl, hw.chg⟩
  have hqn : quotR r.tail 1 ≠ 0 := by have := of_decide_eq_false hq; omega
  obtain ⟨c, x, rfl⟩ : ∃ c x, r = c :: x := by
    cases r with
    | nil => exact absurd (quot_e 1) hqn
    | cons c x => exact ⟨c, x, rfl⟩
  rw [List.tail_cons] at *
  rw [List.head?_cons]
  have i0 := fun {n : Nat} {E : Env} {C : World → Prop} {dst : Option Tmp} {ty : TypeId} {pos : String} {aft : Array Edge} {g : Option (Nat × Bool)} {y z : Operand} => idxAt10 (s := c :: x) (i := 0) (Nat.succ_pos _) (n := n) (E := E) (C := C) (dst := dst) (ty := ty) (pos := pos) (aft := aft) (g := g) (x := y) (y := z)
  rw [List.getD_cons_zero] at i0
  cases h34 : decide (c = 34)
  · rw [if_neg (fun k => of_decide_eq_false h34 (Option.some.inj k.1))]
    generalize quotR x 1 = q at cQ hq
    repeat (first | refine JL.q (by first | (apply OQ.callx (vs := [Z s, prF b]); exact goes_partA; exact rfl; exact (fun w' hw' => cP b _ w' _ hw')) | (apply OQ.extract; exact rfl; exact rfl) | (apply OQ.neSB (r := []); exact rfl; exact rfl; exact hV) | (apply OQ.move; exact rfl) | (apply OQ.assign; exact rfl) | (apply OQ.len; exact rfl; exact rfl) | (apply OQ.addN; exact rfl; exact rfl; exact (by (try simp only []); omega)) | (apply OQ.subN; exact rfl; exact rfl; exact (by (try simp only []); omega); exact (by (try simp only []); omega)) | (apply OQ.lssN; exact rfl; exact rfl)) rfl ?_ | refine JC.seq ?_ | refine JC.region ?_ | refine JC.block ?_ | refine JC.skip ?_ | refine JC.exit ?_ | refine JL.nil ?_ | refine JE.next ?_ | refine JE.blk_normal ?_ | refine JE.then_exit ?_ | refine JE.blk_hit ?_ | refine JE.blk_miss rfl ?_ | refine JE.then_ret ?_ | refine JE.blk_ret ?_ | refine JC.label ?_ | refine JL.gon rfl rfl ?_ | refine JL.gskip rfl rfl rfl rfl ?_ | refine JL.gskipU rfl rfl rfl rfl ?_)
    refine JC.cond rfl (fun h => by cases h) (fun _ => ?_)
    repeat (first | refine JL.q (by first | (apply OQ.callx (vs := [Z (c :: x)]); exact goes_quoted; exact rfl; exact (fun w' _ => cQ w')) | (apply OQ.eqB (b := 0); exact rfl; exact rfl; exact hq) | (apply i0; exact rfl; exact rfl) | (apply OQ.ne8B (b := 34); exact rfl; exact rfl; exact h34) | (apply OQ.pick_f; exact rfl; exact rfl) | (apply OQ.move; exact rfl) | (apply OQ.assign; exact rfl) | (apply OQ.len; exact rfl; exact rfl) | (apply OQ.addN; exact rfl; exact rfl; exact (by (try simp only []); omega)) | (apply OQ.subN; exact rfl; exact rfl; exact (by (try simp only []); omega); exact (by (try simp only []); omega)) | (apply OQ.lssN; exact rfl; exact rfl)) rfl ?_ | refine JC.seq ?_ | refine JC.region ?_ | refine JC.block ?_ | refine JC.skip ?_ | refine JC.exit ?_ | refine JL.nil ?_ | refine JE.next ?_ | refine JE.blk_normal ?_ | refine JE.then_exit ?_ | refine JE.blk_hit ?_ | refine JE.blk_miss rfl ?_ | refine JE.then_ret ?_ | refine JE.blk_ret ?_ | refine JC.label ?_ | refine JL.gon rfl rfl ?_ | refine JL.gskip rfl rfl rfl rfl ?_ | refine JL.gskipU rfl rfl rfl rfl ?_)
    refine JC.cond rfl (fun _ => ?_) (fun h => by cases h)
    repeat (first | refine JL.q (by first | (apply OQ.move; exact rfl) | (apply OQ.assign; exact rfl) | (apply OQ.len; exact rfl; exact rfl) | (apply OQ.addN; exact rfl; exact rfl; exact (by (try simp only []); omega)) | (apply OQ.subN; exact rfl; exact rfl; exact (by (try simp only []); omega); exact (by (try simp only []); omega)) | (apply OQ.lssN; exact rfl; exact rfl)) rfl ?_ | refine JC.seq ?_ | refine JC.region ?_ | refine JC.block ?_ | refine JC.skip ?_ | refine JC.exit ?_ | refine JL.nil ?_ | refine JE.next ?_ | refine JE.blk_normal ?_ | refine JE.then_exit ?_ | refine JE.blk_hit ?_ | refine JE.blk_miss rfl ?_ | refine JE.then_ret ?_ | refine JE.blk_ret ?_ | refine JC.label ?_ | refine JL.gon rfl rfl ?_ | refine JL.gskip rfl rfl rfl rfl ?_ | refine JL.gskipU rfl rfl rfl rfl ?_)
    refine JC.ret ?_
    repeat (first | refine JL.q (by first | (apply OQ.move; exact rfl) | (apply OQ.assign; exact rfl) | (apply OQ.len; exact rfl; exact rfl) | (apply OQ.addN; exact rfl; exact rfl; exact (by (try simp only []); omega)) | (apply OQ.subN; exact rfl; exact rfl; exact (by (try simp only []); omega); exact (by (try simp only []); omega)) | (apply OQ.lssN; exact rfl; exact rfl)) rfl ?_ | refine JC.seq ?_ | refine JC.region ?_ | refine JC.block ?_ | refine JC.skip ?_ | refine JC.exit ?_ | refine JL.nil ?_ | refine JE.next ?_ | refine JE.blk_normal ?_ | refine JE.then_exit ?_ | refine JE.blk_hit ?_ | refine JE.blk_miss rfl ?_ | refine JE.then_ret ?_ | refine JE.blk_ret ?_ | refine JC.label ?_ | refine JL.gon rfl rfl ?_ | refine JL.gskip rfl rfl rfl rfl ?_ | refine JL.gskipU rfl rfl rfl rfl ?_)
    exact JE.ret3 rfl (RV.tmp rfl) (RV.tmp rfl) (RV.tmp rfl) fun w' hw => ⟨rfl, hw.chg⟩
  · obtain rfl : c = 34 := of_decide_eq_true h34
    rw [if_pos ⟨rfl, hqn⟩]
    obtain ⟨i, t, z, rfl, hI⟩ := inn_of_quot _ x 1 (Nat.le_refl _) hqn
    rw [hI.unq, List.nil_append]
    have hlen : (34 :: (i ++ 34 :: z)).length = i.length + z.length + 2 := by simp only [List.length_cons, List.length_append]; omega
    have cU := fun w' => unqA_any hI w' (by omega)
    have cM := fun w' => may_any i w' (by omega)
    rw [hI.sok] at cM
    have hins : ((34 :: (i ++ 34 :: z)).take (quotR (i ++ 34 :: z) 1 - 1)).drop 1 = i := by
      rw [hI.quot, show 1 + i.length + 1 - 1 = i.length + 1 by omega, List.take_succ_cons, List.drop_succ_cons, List.drop_zero, List.take_left]
    have hql : quotR (i ++ 34 :: z) 1 = i.length + 2 := by rw [hI.quot]; omega
    generalize quotR (i ++ 34 :: z) 1 = q at *
    have h1 : 1 ≤ q - 1 := by omega
    have h2 : q - 1 ≤ (34 :: (i ++ 34 :: z)).length := by omega
    have h3 : q ≤ (34 :: (i ++ 34 :: z)).length := by omega
    have cT := fun w' => triml_any ((34 :: (i ++ 34 :: z)).drop q) w'
    generalize 34 :: (i ++ 34 :: z) = r at *
    repeat (first | refine JL.q (by first | (apply OQ.callx (vs := [Z s, prF b]); exact goes_partA; exact rfl; exact (fun w' hw' => cP b _ w' _ hw')) | (apply OQ.extract; exact rfl; exact rfl) | (apply OQ.neSB (r := []); exact rfl; exact rfl; exact hV) | (apply OQ.move; exact rfl) | (apply OQ.assign; exact rfl) | (apply OQ.len; exact rfl; exact rfl) | (apply OQ.addN; exact rfl; exact rfl; exact (by (try simp only []); omega)) | (apply OQ.subN; exact rfl; exact rfl; exact (by (try simp only []); omega); exact (by (try simp only []); omega)) | (apply OQ.lssN; exact rfl; exact rfl)) rfl ?_ | refine JC.seq ?_ | refine JC.region ?_ | refine JC.block ?_ | refine JC.skip ?_ | refine JC.exit ?_ | refine JL.nil ?_ | refine JE.next ?_ | refine JE.blk_normal ?_ | refine JE.then_exit ?_ | refine JE.blk_hit ?_ | refine JE.blk_miss rfl ?_ | refine JE.then_ret ?_ | refine JE.blk_ret ?_ | refine JC.label ?_ | refine JL.gon rfl rfl ?_ | refine JL.gskip rfl rfl rfl rfl ?_ | refine JL.gskipU rfl rfl rfl rfl ?_)
    refine JC.cond rfl (fun h => by cases h) (fun _ => ?_)
    repeat (first | refine JL.q (by first | (apply OQ.callx (vs := [Z r]); exact goes_quoted; exact rfl; exact (fun w' _ => cQ w')) | (apply OQ.eqB (b := 0); exact rfl; exact rfl; exact hq) | (apply i0; exact rfl; exact rfl) | (apply OQ.ne8B (b := 34); exact rfl; exact rfl; exact h34) | (apply OQ.pick_f; exact rfl; exact rfl) | (apply OQ.move; exact rfl) | (apply OQ.assign; exact rfl) | (apply OQ.len; exact rfl; exact rfl) | (apply OQ.addN; exact rfl; exact rfl; exact (by (try simp only []); omega)) | (apply OQ.subN; exact rfl; exact rfl; exact (by (try simp only []); omega); exact (by (try simp only []); omega)) | (apply OQ.lssN; exact rfl; exact rfl)) rfl ?_ | refine JC.seq ?_ | refine JC.region ?_ | refine JC.block ?_ | refine JC.skip ?_ | refine JC.exit ?_ | refine JL.nil ?_ | refine JE.next ?_ | refine JE.blk_normal ?_ | refine JE.then_exit ?_ | refine JE.blk_hit ?_ | refine JE.blk_miss rfl ?_ | refine JE.then_ret ?_ | refine JE.blk_ret ?_ | refine JC.label ?_ | refine JL.gon rfl rfl ?_ | refine JL.gskip rfl rfl rfl rfl ?_ | refine JL.gskipU rfl rfl rfl rfl ?_)
    refine JC.cond rfl (fun h => by cases h) (fun _ => ?_)
    repeat (first | refine JL.q (by first | (apply OQ.to; exact (OQ.subS Tryd.underlying9 rfl rfl rfl h1 h2); exact (congrArg Z hins)) | (apply OQ.move; exact rfl) | (apply OQ.assign; exact rfl) | (apply OQ.len; exact rfl; exact rfl) | (apply OQ.addN; exact rfl; exact rfl; exact (by (try simp only []); omega)) | (apply OQ.subN; exact rfl; exact rfl; exact (by (try simp only []); omega); exact (by (try simp only []); omega)) | (apply OQ.lssN; exact rfl; exact rfl)) rfl ?_ | refine JC.seq ?_ | refine JC.region ?_ | refine JC.block ?_ | refine JC.skip ?_ | refine JC.exit ?_ | refine JL.nil ?_ | refine JE.next ?_ | refine JE.blk_normal ?_ | refine JE.then_exit ?_ | refine JE.blk_hit ?_ | refine JE.blk_miss rfl ?_ | refine JE.then_ret ?_ | refine JE.blk_ret ?_ | refine JC.label ?_ | refine JL.gon rfl rfl ?_ | refine JL.gskip rfl rfl rfl rfl ?_ | refine JL.gskipU rfl rfl rfl rfl ?_)
    refine JC.quiet mixT (by kernel_rfl) ?_
    repeat (first | refine JL.q (by first | (apply OQ.callx (vs := [Z i]); exact goes_unqA; exact rfl; exact (fun w' _ => cU w')) | (apply OQ.subS_lo; exact Tryd.underlying9; exact rfl; exact rfl; exact h3) | (apply OQ.callx (vs := [Z (r.drop q), Z [32, 9]]); exact goes_triml; exact rfl; exact (fun w' _ => cT w')) | (apply OQ.callx (vs := [Z i]); exact goes_may; exact rfl; exact (fun w' _ => cM w')) | (apply OQ.move; exact rfl) | (apply OQ.assign; exact rfl) | (apply OQ.len; exact rfl; exact rfl) | (apply OQ.addN; exact rfl; exact rfl; exact (by (try simp only []); omega)) | (apply OQ.subN; exact rfl; exact rfl; exact (by (try simp only []); omega); exact (by (try simp only []); omega)) | (apply OQ.lssN; exact rfl; exact rfl)) rfl ?_ | refine JQ.q (by first | (apply OQ.callx (vs := [Z i]); exact goes_unqA; exact rfl; exact (fun w' _ => cU w')) | (apply OQ.subS_lo; exact Tryd.underlying9; exact rfl; exact rfl; exact h3) | (apply OQ.callx (vs := [Z (r.drop q), Z [32, 9]]); exact goes_triml; exact rfl; exact (fun w' _ => cT w')) | (apply OQ.callx (vs := [Z i]); exact goes_may; exact rfl; exact (fun w' _ => cM w')) | (apply OQ.move; exact rfl) | (apply OQ.assign; exact rfl) | (apply OQ.len; exact rfl; exact rfl) | (apply OQ.addN; exact rfl; exact rfl; exact (by (try simp only []); omega)) | (apply OQ.subN; exact rfl; exact rfl; exact (by (try simp only []); omega); exact (by (try simp only []); omega)) | (apply OQ.lssN; exact rfl; exact rfl)) rfl ?_ | refine JC.seq ?_ | refine JC.region ?_ | refine JC.block ?_ | refine JC.skip ?_ | refine JC.exit ?_ | refine JL.nil ?_ | refine JQ.nil ?_ | refine JQ.nil_tail ?_ | refine JE.next ?_ | refine JE.blk_normal ?_ | refine JE.then_exit ?_ | refine JE.blk_hit ?_ | refine JE.blk_miss rfl ?_ | refine JE.then_ret ?_ | refine JE.blk_ret ?_ | refine JC.label ?_ | refine JL.gon rfl rfl ?_ | refine JQ.gon rfl rfl ?_ | refine JL.gskip rfl rfl rfl rfl ?_ | refine JQ.gskip rfl rfl rfl rfl ?_ | refine JL.gskipU rfl rfl rfl rfl ?_ | refine JQ.gskipU rfl rfl rfl rfl ?_)
    exact JC.ret (JE.ret3 rfl (RV.tmp rfl) (RV.tmp rfl) (RV.tmp rfl) fun w' hw => ⟨rfl, hw.chg⟩)
end Go.Proofs.YtchoiikhepjdiaaDoor

/-
  Of no statement by itself: what the landed token's Ids gives.
  Conditions: each theorem's own.
-/
namespace Go.Proofs.YtchoiikhepjdiaaDoor
set_option maxRecDepth 10000
open Sl Fld Tok
theorem goes_idsA : Goes Tryd.prog 33 := ⟨_, Tryd.func33, rfl, by kernel_rfl⟩
theorem cpV_parts (c : Bt) (t : List Bt) : ∃ (x : List Bt) (b : Bool), cpV c t = .tuple #[Z x, .bool b] ∧ x.length ≤ t.length ∧ (b = true → t.head? = some c ∧ x = t.tail) ∧ (b = false → ¬ t.head? = some c ∧ x = t) := by
  unfold cpV
  by_cases h : t.head? = some c
  · rw [if_pos h]
    exact ⟨_, _, rfl, by rw [List.length_tail]; omega, fun _ => ⟨h, rfl⟩, fun k => by cases k⟩
  · rw [if_neg h]
    exact ⟨_, _, rfl, Nat.le_refl _, (fun k => by cases k), fun _ => ⟨h, rfl⟩⟩
theorem accZ_ok {w0 w : World} {S : List Nat} {M : List Ent} {e : TypeId} {q : Acc} {L : List (List Bt)} (hw : Holds w0 S (accE e q (L.map Z) ++ M) w) (hq : q = none → L = []) : ∃ y : SlZ, y.v = accV q L.length ∧ y.ok w ∧ y.l = L := by
  cases q with
  | none =>
    obtain rfl := hq rfl
    exact ⟨nilZ, rfl, nilZ_ok w, rfl⟩
  | some p =>
    have hw : Holds w0 S (⟨p.1, Sl.Own e 1 (L.map Z).length p.2 (L.map Z), true⟩ :: M) w := hw
    exact ⟨⟨some ⟨p.1, 0, none⟩, p.2, L⟩, rfl, slZ_own hw .here (List.length_map _).symm, rfl⟩
theorem trimL_head (s : List Fld.By) : ∀ c ∈ (trimL s).head?, bl c = false := by
  intro c hc
  have := List.head?_dropWhile_not bl s
  unfold trimL at hc
  rw [hc] at this
  simpa using this
structure IdS where
  t : List Bt
  q : Acc
  L : List (List Bt)
set_option maxHeartbeats 32000000 in
theorem idsA_any (s : List Bt) (w : World) (hl : s.length < 1000000) : Calls Tryd.prog 33 [Z s].toArray w fun e w' => ∃ y : SlZ, e = .returned (.tuple #[y.v, N (idsB s).2]) ∧ Ext w w' ∧ y.ok w' ∧ y.l = (idsB s).1 := by
  refine enter (n := 59) Tryd.func33 rfl rfl rfl (Holds.start w []) ?_
  have cB := fun w' => bareA_any s w' (by omega)
  have hbl := bareB_len s
  unfold idsB
  generalize (bareB s).1 = x at cB hbl ⊢
  generalize (bareB s).2 = k at cB ⊢
  cases hk : decide ((k : Int) = 0)
  · rw [if_neg (by have := of_decide_eq_false hk; omega)]
    repeat (first | refine JL.q (by first | (apply OQ.callx (vs := [Z s]); exact goes_bareA; exact rfl; exact (fun w' _ => cB w')) | (apply OQ.extract; exact rfl; exact rfl) | (apply OQ.neB (b := 0); exact rfl; exact rfl; exact hk) | (apply OQ.move; exact rfl) | (apply OQ.assign; exact rfl) | (apply OQ.len; exact rfl; exact rfl) | (apply OQ.addN; exact rfl; exact rfl; exact (by (try simp only []); omega)) | (apply OQ.subN; exact rfl; exact rfl; exact (by (try simp only []); omega); exact (by (try simp only []); omega)) | (apply OQ.lssN; exact rfl; exact rfl)) rfl ?_ | refine JC.seq ?_ | refine JC.region ?_ | refine JC.block ?_ | refine JC.skip ?_ | refine JC.exit ?_ | refine JL.nil ?_ | refine JE.next ?_ | refine JE.blk_normal ?_ | refine JE.then_exit ?_ | refine JE.blk_hit ?_ | refine JE.blk_miss rfl ?_ | refine JE.then_ret ?_ | refine JE.blk_ret ?_ | refine JC.label ?_ | refine JL.gon rfl rfl ?_ | refine JL.gskip rfl rfl rfl rfl ?_ | refine JL.gskipU rfl rfl rfl rfl ?_)
    refine JC.cond rfl (fun _ => ?_) (fun h => by cases h)
    repeat (first | refine JL.q (by first | (apply OQ.move; exact rfl) | (apply OQ.assign; exact rfl) | (apply OQ.len; exact rfl; exact rfl) | (apply OQ.addN; exact rfl; exact rfl; exact (by (try simp only []); omega)) | (apply OQ.subN; exact rfl; exact rfl; exact (by (try simp only []); omega); exact (by (try simp only []); omega)) | (apply OQ.lssN; exact rfl; exact rfl)) rfl ?_ | refine JC.seq ?_ | refine JC.region ?_ | refine JC.block ?_ | refine JC.skip ?_ | refine JC.exit ?_ | refine JL.nil ?_ | refine JE.next ?_ | refine JE.blk_normal ?_ | refine JE.then_exit ?_ | refine JE.blk_hit ?_ | refine JE.blk_miss rfl ?_ | refine JE.then_ret ?_ | refine JE.blk_ret ?_ | refine JC.label ?_ | refine JL.gon rfl rfl ?_ | refine JL.gskip rfl rfl rfl rfl ?_ | refine JL.gskipU rfl rfl rfl rfl ?_)
    refine JC.ret ?_
    repeat (first | refine JL.q (by first | (apply OQ.move; exact rfl) | (apply OQ.assign; exact rfl) | (apply OQ.len; exact rfl; exact rfl) | (apply OQ.addN; exact rfl; exact rfl; exact (by (try simp only []); omega)) | (apply OQ.subN; exact rfl; exact rfl; exact (by (try simp only []); omega); exact (by (try simp only []); omega)) | (apply OQ.lssN; exact rfl; exact rfl)) rfl ?_ | refine JC.seq ?_ | refine JC.region ?_ | refine JC.block ?_ | refine JC.skip ?_ | refine JC.exit ?_ | refine JL.nil ?_ | refine JE.next ?_ | refine JE.blk_normal ?_ | refine JE.then_exit ?_ | refine JE.blk_hit ?_ | refine JE.blk_miss rfl ?_ | refine JE.then_ret ?_ | refine JE.blk_ret ?_ | refine JC.label ?_ | refine JL.gon rfl rfl ?_ | refine JL.gskip rfl rfl rfl rfl ?_ | refine JL.gskipU rfl rfl rfl rfl ?_)
    refine JE.ret2 rfl (RV.tmp rfl) (RV.tmp rfl) ?_
    exact fun w' hw => ⟨nilZ, rfl, hw.chg, nilZ_ok _, rfl⟩
  rw [if_pos (by have := of_decide_eq_true hk; omega)]
  have cT := fun w' => triml_any x w'
  have htl := trimL_len x
  have hth := trimL_head x
  rw [ids_trimL]
  generalize trimL x = t0 at cT htl hth ⊢
  repeat (first | refine JL.q (by first | (apply OQ.callx (vs := [Z s]); exact goes_bareA; exact rfl; exact (fun w' _ => cB w')) | (apply OQ.extract; exact rfl; exact rfl) | (apply OQ.neB (b := 0); exact rfl; exact rfl; exact hk) | (apply OQ.move; exact rfl) | (apply OQ.assign; exact rfl) | (apply OQ.len; exact rfl; exact rfl) | (apply OQ.addN; exact rfl; exact rfl; exact (by (try simp only []); omega)) | (apply OQ.subN; exact rfl; exact rfl; exact (by (try simp only []); omega); exact (by (try simp only []); omega)) | (apply OQ.lssN; exact rfl; exact rfl)) rfl ?_ | refine JC.seq ?_ | refine JC.region ?_ | refine JC.block ?_ | refine JC.skip ?_ | refine JC.exit ?_ | refine JL.nil ?_ | refine JE.next ?_ | refine JE.blk_normal ?_ | refine JE.then_exit ?_ | refine JE.blk_hit ?_ | refine JE.blk_miss rfl ?_ | refine JE.then_ret ?_ | refine JE.blk_ret ?_ | refine JC.label ?_ | refine JL.gon rfl rfl ?_ | refine JL.gskip rfl rfl rfl rfl ?_ | refine JL.gskipU rfl rfl rfl rfl ?_)
  refine JC.cond rfl (fun h => by cases h) (fun _ => ?_)
  repeat (first | refine JL.q (by first | (apply OQ.callx (vs := [Z x, Z [32, 9]]); exact goes_triml; exact rfl; exact (fun w' _ => cT w')) | (apply OQ.move; exact rfl) | (apply OQ.assign; exact rfl) | (apply OQ.len; exact rfl; exact rfl) | (apply OQ.addN; exact rfl; exact rfl; exact (by (try simp only []); omega)) | (apply OQ.subN; exact rfl; exact rfl; exact (by (try simp only []); omega); exact (by (try simp only []); omega)) | (apply OQ.lssN; exact rfl; exact rfl)) rfl ?_ | refine JC.seq ?_ | refine JC.region ?_ | refine JC.block ?_ | refine JC.skip ?_ | refine JC.exit ?_ | refine JL.nil ?_ | refine JE.next ?_ | refine JE.blk_normal ?_ | refine JE.then_exit ?_ | refine JE.blk_hit ?_ | refine JE.blk_miss rfl ?_ | refine JE.then_ret ?_ | refine JE.blk_ret ?_ | refine JC.label ?_ | refine JL.gon rfl rfl ?_ | refine JL.gskip rfl rfl rfl rfl ?_ | refine JL.gskipU rfl rfl rfl rfl ?_)
  refine JC.loop (fun z : IdS => [(6, accV z.q z.L.length), (7, Z z.t)]) (fun z => accE 9 z.q (z.L.map Z)) (fun z => z.t.length) (fun z => z.t.length + z.L.length ≤ s.length ∧ (z.q = none → z.L = []) ∧ (∀ c ∈ z.t.head?, bl c = false) ∧ idsR t0 [] none = idsR z.t z.L none) ⟨t0, none, []⟩ ⟨by dsimp only; rw [List.length_nil]; omega, fun _ => rfl, hth, rfl⟩ (by repeat (first | exact SubE.nil | refine SubE.cons _ _ _ rfl ?_)) (Less.refl _) ?_
  rintro ⟨t, q, L⟩ ⟨hlen, hq, hh, hc⟩
  dsimp only at hlen hq hh hc ⊢
  rw [hc]
  clear hc cT htl hth cB
  cases ht : decide (t = [])
  · have ht' : t ≠ [] := of_decide_eq_false ht
    have htp : 0 < t.length := List.length_pos_iff.2 ht'
    rw [ids_round t ht' hh L]
    obtain ⟨ins, bg, e1, l1, b1, b2⟩ := cpV_parts 60 t
    have c1 := fun w' => cpw_any t 60 w'
    rw [e1] at c1
    have hnl := runB_le idq ins
    have hdl : (ins.drop (runB idq ins)).length ≤ ins.length := by rw [List.length_drop]; omega
    obtain ⟨beh, en, e2, l2, n1, n2⟩ := cpV_parts 62 (ins.drop (runB idq ins))
    have c2 := fun w' => cpw_any (ins.drop (runB idq ins)) 62 w'
    rw [e2] at c2
    have cR : ∀ (b : Nat) (w0 w' : World) (M : List Ent), Holds w0 [] (⟨b, Row 9 [Z [60, 62]], true⟩ :: M) w' → Calls Tryd.prog 67 [Z ins, prF b].toArray w' fun e w'' => e = .returned (N (runB idq ins)) ∧ Ext w' w'' := fun b w0 w' M hw' => by
      have := run_any ins (prF b) (prB [60, 62]) w' (fun_printed hw' .here) (by omega)
      rw [prB_id] at this
      exact this
    repeat (first | refine JL.q (by first | (apply OQ.neSB (r := []); exact rfl; exact rfl; exact ht) | (apply OQ.move; exact rfl) | (apply OQ.assign; exact rfl) | (apply OQ.len; exact rfl; exact rfl) | (apply OQ.addN; exact rfl; exact rfl; exact (by (try simp only []); omega)) | (apply OQ.subN; exact rfl; exact rfl; exact (by (try simp only []); omega); exact (by (try simp only []); omega)) | (apply OQ.lssN; exact rfl; exact rfl)) rfl ?_ | refine JC.seq ?_ | refine JC.region ?_ | refine JC.block ?_ | refine JC.skip ?_ | refine JC.exit ?_ | refine JL.nil ?_ | refine JE.next ?_ | refine JE.blk_normal ?_ | refine JE.then_exit ?_ | refine JE.blk_hit ?_ | refine JE.blk_miss rfl ?_ | refine JE.then_ret ?_ | refine JE.blk_ret ?_ | refine JC.label ?_ | refine JL.gon rfl rfl ?_ | refine JL.gskip rfl rfl rfl rfl ?_ | refine JL.gskipU rfl rfl rfl rfl ?_)
    refine JC.cond rfl (fun _ => ?_) (fun h => by cases h)
    repeat (first | refine JL.q (by first | (apply OQ.callx (vs := [Z t, Z [60]]); exact goes_cpw; exact rfl; exact (fun w' _ => c1 w')) | (apply OQ.extract; exact rfl; exact rfl) | (apply OQ.move; exact rfl) | (apply OQ.assign; exact rfl) | (apply OQ.len; exact rfl; exact rfl) | (apply OQ.addN; exact rfl; exact rfl; exact (by (try simp only []); omega)) | (apply OQ.subN; exact rfl; exact rfl; exact (by (try simp only []); omega); exact (by (try simp only []); omega)) | (apply OQ.lssN; exact rfl; exact rfl)) rfl ?_ | refine JC.seq ?_ | refine JC.region ?_ | refine JC.block ?_ | refine JC.skip ?_ | refine JC.exit ?_ | refine JL.nil ?_ | refine JE.next ?_ | refine JE.blk_normal ?_ | refine JE.then_exit ?_ | refine JE.blk_hit ?_ | refine JE.blk_miss rfl ?_ | refine JE.then_ret ?_ | refine JE.blk_ret ?_ | refine JC.label ?_ | refine JL.gon rfl rfl ?_ | refine JL.gskip rfl rfl rfl rfl ?_ | refine JL.gskipU rfl rfl rfl rfl ?_)
    refine JL.callg (ι := Nat) (vs := [Z [60, 62]]) prF (fun b => [⟨b, Row 9 [Z [60, 62]], true⟩]) goes_printed rfl rfl (fun b e he => by rw [List.mem_singleton.1 he]) (fun w' _ => printed_any [60, 62] w') fun b => ?_
    obtain ⟨n, hn⟩ : ∃ n, n = runB idq ins := ⟨_, rfl⟩
    rw [← hn] at hnl hdl n1 n2 c2 cR
    cases bg
    · obtain ⟨h1, rfl⟩ := b2 rfl
      rw [if_neg (fun k => h1 k.1)]
      have g0 : decide ((n : Int) = 0) = decide ((n : Int) = 0) := rfl
      repeat (first | refine JL.q (by first | (apply OQ.callx (vs := [Z ins, prF b]); exact goes_run; exact rfl; exact (fun w' hw' => cR b _ w' _ hw')) | (apply OQ.subS_lo; exact Tryd.underlying9; exact rfl; exact rfl; exact hnl) | (apply OQ.callx (vs := [Z (ins.drop n), Z [62]]); exact goes_cpw; exact rfl; exact (fun w' _ => c2 w')) | (apply OQ.extract; exact rfl; exact rfl) | (apply OQ.not; exact rfl) | (apply OQ.pick_t; exact rfl; exact rfl) | (apply OQ.pick_f; exact rfl; exact rfl) | (apply OQ.eqB (b := 0); exact rfl; exact rfl; exact g0) | (apply OQ.move; exact rfl) | (apply OQ.assign; exact rfl) | (apply OQ.len; exact rfl; exact rfl) | (apply OQ.addN; exact rfl; exact rfl; exact (by (try simp only []); omega)) | (apply OQ.subN; exact rfl; exact rfl; exact (by (try simp only []); omega); exact (by (try simp only []); omega)) | (apply OQ.lssN; exact rfl; exact rfl)) rfl ?_ | refine JC.seq ?_ | refine JC.region ?_ | refine JC.block ?_ | refine JC.skip ?_ | refine JC.exit ?_ | refine JL.nil ?_ | refine JE.next ?_ | refine JE.blk_normal ?_ | refine JE.then_exit ?_ | refine JE.blk_hit ?_ | refine JE.blk_miss rfl ?_ | refine JE.then_ret ?_ | refine JE.blk_ret ?_ | refine JC.label ?_ | refine JL.gon rfl rfl ?_ | refine JL.gskip rfl rfl rfl rfl ?_ | refine JL.gskipU rfl rfl rfl rfl ?_)
      refine JC.cond rfl (fun _ => ?_) (fun h => by cases h)
      repeat (first | refine JL.q (by first | (apply OQ.move; exact rfl) | (apply OQ.assign; exact rfl) | (apply OQ.len; exact rfl; exact rfl) | (apply OQ.addN; exact rfl; exact rfl; exact (by (try simp only []); omega)) | (apply OQ.subN; exact rfl; exact rfl; exact (by (try simp only []); omega); exact (by (try simp only []); omega)) | (apply OQ.lssN; exact rfl; exact rfl)) rfl ?_ | refine JC.seq ?_ | refine JC.region ?_ | refine JC.block ?_ | refine JC.skip ?_ | refine JC.exit ?_ | refine JL.nil ?_ | refine JE.next ?_ | refine JE.blk_normal ?_ | refine JE.then_exit ?_ | refine JE.blk_hit ?_ | refine JE.blk_miss rfl ?_ | refine JE.then_ret ?_ | refine JE.blk_ret ?_ | refine JC.label ?_ | refine JL.gon rfl rfl ?_ | refine JL.gskip rfl rfl rfl rfl ?_ | refine JL.gskipU rfl rfl rfl rfl ?_)
      refine JC.ret ?_
      repeat (first | refine JL.q (by first | (apply OQ.move; exact rfl) | (apply OQ.assign; exact rfl) | (apply OQ.len; exact rfl; exact rfl) | (apply OQ.addN; exact rfl; exact rfl; exact (by (try simp only []); omega)) | (apply OQ.subN; exact rfl; exact rfl; exact (by (try simp only []); omega); exact (by (try simp only []); omega)) | (apply OQ.lssN; exact rfl; exact rfl)) rfl ?_ | refine JC.seq ?_ | refine JC.region ?_ | refine JC.block ?_ | refine JC.skip ?_ | refine JC.exit ?_ | refine JL.nil ?_ | refine JE.next ?_ | refine JE.blk_normal ?_ | refine JE.then_exit ?_ | refine JE.blk_hit ?_ | refine JE.blk_miss rfl ?_ | refine JE.then_ret ?_ | refine JE.blk_ret ?_ | refine JC.label ?_ | refine JL.gon rfl rfl ?_ | refine JL.gskip rfl rfl rfl rfl ?_ | refine JL.gskipU rfl rfl rfl rfl ?_)
      refine JE.ret2 rfl (RV.tmp rfl) (RV.tmp rfl) ?_
      exact fun w' hw => ⟨nilZ, rfl, hw.chg, nilZ_ok _, rfl⟩
    obtain ⟨h60, rfl⟩ := b1 rfl
    rw [← hn]
    cases g0 : decide ((n : Int) = 0)
    case true =>
      rw [if_neg (fun k => k.2.1 (by have := of_decide_eq_true g0; omega))]
      repeat (first | refine JL.q (by first | (apply OQ.callx (vs := [Z t.tail, prF b]); exact goes_run; exact rfl; exact (fun w' hw' => cR b _ w' _ hw')) | (apply OQ.subS_lo; exact Tryd.underlying9; exact rfl; exact rfl; exact hnl) | (apply OQ.callx (vs := [Z (t.tail.drop n), Z [62]]); exact goes_cpw; exact rfl; exact (fun w' _ => c2 w')) | (apply OQ.extract; exact rfl; exact rfl) | (apply OQ.not; exact rfl) | (apply OQ.pick_t; exact rfl; exact rfl) | (apply OQ.pick_f; exact rfl; exact rfl) | (apply OQ.eqB (b := 0); exact rfl; exact rfl; exact g0) | (apply OQ.move; exact rfl) | (apply OQ.assign; exact rfl) | (apply OQ.len; exact rfl; exact rfl) | (apply OQ.addN; exact rfl; exact rfl; exact (by (try simp only []); omega)) | (apply OQ.subN; exact rfl; exact rfl; exact (by (try simp only []); omega); exact (by (try simp only []); omega)) | (apply OQ.lssN; exact rfl; exact rfl)) rfl ?_ | refine JC.seq ?_ | refine JC.region ?_ | refine JC.block ?_ | refine JC.skip ?_ | refine JC.exit ?_ | refine JL.nil ?_ | refine JE.next ?_ | refine JE.blk_normal ?_ | refine JE.then_exit ?_ | refine JE.blk_hit ?_ | refine JE.blk_miss rfl ?_ | refine JE.then_ret ?_ | refine JE.blk_ret ?_ | refine JC.label ?_ | refine JL.gon rfl rfl ?_ | refine JL.gskip rfl rfl rfl rfl ?_ | refine JL.gskipU rfl rfl rfl rfl ?_)
      refine JC.cond rfl (fun _ => ?_) (fun h => by cases h)
      repeat (first | refine JL.q (by first | (apply OQ.move; exact rfl) | (apply OQ.assign; exact rfl) | (apply OQ.len; exact rfl; exact rfl) | (apply OQ.addN; exact rfl; exact rfl; exact (by (try simp only []); omega)) | (apply OQ.subN; exact rfl; exact rfl; exact (by (try simp only []); omega); exact (by (try simp only []); omega)) | (apply OQ.lssN; exact rfl; exact rfl)) rfl ?_ | refine JC.seq ?_ | refine JC.region ?_ | refine JC.block ?_ | refine JC.skip ?_ | refine JC.exit ?_ | refine JL.nil ?_ | refine JE.next ?_ | refine JE.blk_normal ?_ | refine JE.then_exit ?_ | refine JE.blk_hit ?_ | refine JE.blk_miss rfl ?_ | refine JE.then_ret ?_ | refine JE.blk_ret ?_ | refine JC.label ?_ | refine JL.gon rfl rfl ?_ | refine JL.gskip rfl rfl rfl rfl ?_ | refine JL.gskipU rfl rfl rfl rfl ?_)
      refine JC.ret ?_
      repeat (first | refine JL.q (by first | (apply OQ.move; exact rfl) | (apply OQ.assign; exact rfl) | (apply OQ.len; exact rfl; exact rfl) | (apply OQ.addN; exact rfl; exact rfl; exact (by (try simp only []); omega)) | (apply OQ.subN; exact rfl; exact rfl; exact (by (try simp only []); omega); exact (by (try simp only []); omega)) | (apply OQ.lssN; exact rfl; exact rfl)) rfl ?_ | refine JC.seq ?_ | refine JC.region ?_ | refine JC.block ?_ | refine JC.skip ?_ | refine JC.exit ?_ | refine JL.nil ?_ | refine JE.next ?_ | refine JE.blk_normal ?_ | refine JE.then_exit ?_ | refine JE.blk_hit ?_ | refine JE.blk_miss rfl ?_ | refine JE.then_ret ?_ | refine JE.blk_ret ?_ | refine JC.label ?_ | refine JL.gon rfl rfl ?_ | refine JL.gskip rfl rfl rfl rfl ?_ | refine JL.gskipU rfl rfl rfl rfl ?_)
      refine JE.ret2 rfl (RV.tmp rfl) (RV.tmp rfl) ?_
      exact fun w' hw => ⟨nilZ, rfl, hw.chg, nilZ_ok _, rfl⟩
    have hn0 : n ≠ 0 := by have := of_decide_eq_false g0; omega
    cases en
    · obtain ⟨h1, h2⟩ := n2 rfl
      rw [if_neg (fun k => h1 k.2.2)]
      repeat (first | refine JL.q (by first | (apply OQ.callx (vs := [Z t.tail, prF b]); exact goes_run; exact rfl; exact (fun w' hw' => cR b _ w' _ hw')) | (apply OQ.subS_lo; exact Tryd.underlying9; exact rfl; exact rfl; exact hnl) | (apply OQ.callx (vs := [Z (t.tail.drop n), Z [62]]); exact goes_cpw; exact rfl; exact (fun w' _ => c2 w')) | (apply OQ.extract; exact rfl; exact rfl) | (apply OQ.not; exact rfl) | (apply OQ.pick_t; exact rfl; exact rfl) | (apply OQ.pick_f; exact rfl; exact rfl) | (apply OQ.eqB (b := 0); exact rfl; exact rfl; exact g0) | (apply OQ.move; exact rfl) | (apply OQ.assign; exact rfl) | (apply OQ.len; exact rfl; exact rfl) | (apply OQ.addN; exact rfl; exact rfl; exact (by (try simp only []); omega)) | (apply OQ.subN; exact rfl; exact rfl; exact (by (try simp only []); omega); exact (by (try simp only []); omega)) | (apply OQ.lssN; exact rfl; exact rfl)) rfl ?_ | refine JC.seq ?_ | refine JC.region ?_ | refine JC.block ?_ | refine JC.skip ?_ | refine JC.exit ?_ | refine JL.nil ?_ | refine JE.next ?_ | refine JE.blk_normal ?_ | refine JE.then_exit ?_ | refine JE.blk_hit ?_ | refine JE.blk_miss rfl ?_ | refine JE.then_ret ?_ | refine JE.blk_ret ?_ | refine JC.label ?_ | refine JL.gon rfl rfl ?_ | refine JL.gskip rfl rfl rfl rfl ?_ | refine JL.gskipU rfl rfl rfl rfl ?_)
      refine JC.cond rfl (fun _ => ?_) (fun h => by cases h)
      repeat (first | refine JL.q (by first | (apply OQ.move; exact rfl) | (apply OQ.assign; exact rfl) | (apply OQ.len; exact rfl; exact rfl) | (apply OQ.addN; exact rfl; exact rfl; exact (by (try simp only []); omega)) | (apply OQ.subN; exact rfl; exact rfl; exact (by (try simp only []); omega); exact (by (try simp only []); omega)) | (apply OQ.lssN; exact rfl; exact rfl)) rfl ?_ | refine JC.seq ?_ | refine JC.region ?_ | refine JC.block ?_ | refine JC.skip ?_ | refine JC.exit ?_ | refine JL.nil ?_ | refine JE.next ?_ | refine JE.blk_normal ?_ | refine JE.then_exit ?_ | refine JE.blk_hit ?_ | refine JE.blk_miss rfl ?_ | refine JE.then_ret ?_ | refine JE.blk_ret ?_ | refine JC.label ?_ | refine JL.gon rfl rfl ?_ | refine JL.gskip rfl rfl rfl rfl ?_ | refine JL.gskipU rfl rfl rfl rfl ?_)
      refine JC.ret ?_
      repeat (first | refine JL.q (by first | (apply OQ.move; exact rfl) | (apply OQ.assign; exact rfl) | (apply OQ.len; exact rfl; exact rfl) | (apply OQ.addN; exact rfl; exact rfl; exact (by (try simp only []); omega)) | (apply OQ.subN; exact rfl; exact rfl; exact (by (try simp only []); omega); exact (by (try simp only []); omega)) | (apply OQ.lssN; exact rfl; exact rfl)) rfl ?_ | refine JC.seq ?_ | refine JC.region ?_ | refine JC.block ?_ | refine JC.skip ?_ | refine JC.exit ?_ | refine JL.nil ?_ | refine JE.next ?_ | refine JE.blk_normal ?_ | refine JE.then_exit ?_ | refine JE.blk_hit ?_ | refine JE.blk_miss rfl ?_ | refine JE.then_ret ?_ | refine JE.blk_ret ?_ | refine JC.label ?_ | refine JL.gon rfl rfl ?_ | refine JL.gskip rfl rfl rfl rfl ?_ | refine JL.gskipU rfl rfl rfl rfl ?_)
      refine JE.ret2 rfl (RV.tmp rfl) (RV.tmp rfl) ?_
      exact fun w' hw => ⟨nilZ, rfl, hw.chg, nilZ_ok _, rfl⟩
    obtain ⟨h62, rfl⟩ := n1 rfl
    rw [if_pos ⟨h60, hn0, h62⟩]
    repeat (first | refine JL.q (by first | (apply OQ.callx (vs := [Z t.tail, prF b]); exact goes_run; exact rfl; exact (fun w' hw' => cR b _ w' _ hw')) | (apply OQ.subS_lo; exact Tryd.underlying9; exact rfl; exact rfl; exact hnl) | (apply OQ.callx (vs := [Z (t.tail.drop n), Z [62]]); exact goes_cpw; exact rfl; exact (fun w' _ => c2 w')) | (apply OQ.extract; exact rfl; exact rfl) | (apply OQ.not; exact rfl) | (apply OQ.pick_t; exact rfl; exact rfl) | (apply OQ.pick_f; exact rfl; exact rfl) | (apply OQ.eqB (b := 0); exact rfl; exact rfl; exact g0) | (apply OQ.move; exact rfl) | (apply OQ.assign; exact rfl) | (apply OQ.len; exact rfl; exact rfl) | (apply OQ.addN; exact rfl; exact rfl; exact (by (try simp only []); omega)) | (apply OQ.subN; exact rfl; exact rfl; exact (by (try simp only []); omega); exact (by (try simp only []); omega)) | (apply OQ.lssN; exact rfl; exact rfl)) rfl ?_ | refine JC.seq ?_ | refine JC.region ?_ | refine JC.block ?_ | refine JC.skip ?_ | refine JC.exit ?_ | refine JL.nil ?_ | refine JE.next ?_ | refine JE.blk_normal ?_ | refine JE.then_exit ?_ | refine JE.blk_hit ?_ | refine JE.blk_miss rfl ?_ | refine JE.then_ret ?_ | refine JE.blk_ret ?_ | refine JC.label ?_ | refine JL.gon rfl rfl ?_ | refine JL.gskip rfl rfl rfl rfl ?_ | refine JL.gskipU rfl rfl rfl rfl ?_)
    refine JC.cond rfl (fun h => by cases h) (fun _ => ?_)
    have cT := fun w' => triml_any (t.tail.drop n).tail w'
    have htl := trimL_len (t.tail.drop n).tail
    have hth := trimL_head (t.tail.drop n).tail
    have htt : t.tail.length + 1 = t.length := by rw [List.length_tail]; omega
    have hdd : (t.tail.drop n).tail.length ≤ t.tail.length - n := by rw [List.length_tail, List.length_drop]; omega
    repeat (first | refine JL.q (by first | (apply OQ.subS_hi; exact Tryd.underlying9; exact rfl; exact rfl; exact hnl) | (apply OQ.move; exact rfl) | (apply OQ.assign; exact rfl) | (apply OQ.len; exact rfl; exact rfl) | (apply OQ.addN; exact rfl; exact rfl; exact (by (try simp only []); omega)) | (apply OQ.subN; exact rfl; exact rfl; exact (by (try simp only []); omega); exact (by (try simp only []); omega)) | (apply OQ.lssN; exact rfl; exact rfl)) rfl ?_ | refine JC.seq ?_ | refine JC.region ?_ | refine JC.block ?_ | refine JC.skip ?_ | refine JC.exit ?_ | refine JL.nil ?_ | refine JE.next ?_ | refine JE.blk_normal ?_ | refine JE.then_exit ?_ | refine JE.blk_hit ?_ | refine JE.blk_miss rfl ?_ | refine JE.then_ret ?_ | refine JE.blk_ret ?_ | refine JC.label ?_ | refine JL.gon rfl rfl ?_ | refine JL.gskip rfl rfl rfl rfl ?_ | refine JL.gskipU rfl rfl rfl rfl ?_)
    refine JL.lit1 Tryd.underlying48 strE rfl rfl rfl rfl fun bl _ => ?_
    refine JL.lessM (M' := ⟨bl, Row 9 [Z (t.tail.take n)], true⟩ :: (accE 9 q (L.map Z) ++ [])) ?_ (.keep _ _ _ _ _ _ (fun o h => h) (.drop _ _ _ (by rw [List.append_nil]; exact Less.refl _)))
    refine JL.appendT (p := t.tail.take n) (L := L) (M0 := []) q Tryd.underlying48 strE hq rfl rfl rfl (by omega) (by omega) rfl fun b' cap' => ?_
    repeat (first | refine JL.q (by first | (apply OQ.callx (vs := [Z (t.tail.drop n).tail, Z [32, 9]]); exact goes_triml; exact rfl; exact (fun w' _ => cT w')) | (apply OQ.move; exact rfl) | (apply OQ.assign; exact rfl) | (apply OQ.len; exact rfl; exact rfl) | (apply OQ.addN; exact rfl; exact rfl; exact (by (try simp only []); omega)) | (apply OQ.subN; exact rfl; exact rfl; exact (by (try simp only []); omega); exact (by (try simp only []); omega)) | (apply OQ.lssN; exact rfl; exact rfl)) rfl ?_ | refine JC.seq ?_ | refine JC.region ?_ | refine JC.block ?_ | refine JC.skip ?_ | refine JC.exit ?_ | refine JL.nil ?_ | refine JE.next ?_ | refine JE.blk_normal ?_ | refine JE.then_exit ?_ | refine JE.blk_hit ?_ | refine JE.blk_miss rfl ?_ | refine JE.then_ret ?_ | refine JE.blk_ret ?_ | refine JC.label ?_ | refine JL.gon rfl rfl ?_ | refine JL.gskip rfl rfl rfl rfl ?_ | refine JL.gskipU rfl rfl rfl rfl ?_)
    refine JE.again (i := IdS.mk t q L) (IdS.mk (trimL (t.tail.drop n).tail) (some (b', cap')) (L ++ [t.tail.take n])) ⟨?_, fun h => (by cases h), hth, rfl⟩ (by dsimp only; omega) (by repeat (first | exact SubE.nil | refine SubE.cons _ _ _ rfl ?_)) (by dsimp only; rw [List.append_nil]; exact Less.refl _)
    dsimp only
    rw [List.length_append, List.length_singleton]
    omega
  · obtain rfl : t = [] := of_decide_eq_true ht
    repeat (first | refine JL.q (by first | (apply OQ.neSB (r := []); exact rfl; exact rfl; exact ht) | (apply OQ.move; exact rfl) | (apply OQ.assign; exact rfl) | (apply OQ.len; exact rfl; exact rfl) | (apply OQ.addN; exact rfl; exact rfl; exact (by (try simp only []); omega)) | (apply OQ.subN; exact rfl; exact rfl; exact (by (try simp only []); omega); exact (by (try simp only []); omega)) | (apply OQ.lssN; exact rfl; exact rfl)) rfl ?_ | refine JC.seq ?_ | refine JC.region ?_ | refine JC.block ?_ | refine JC.skip ?_ | refine JC.exit ?_ | refine JL.nil ?_ | refine JE.next ?_ | refine JE.blk_normal ?_ | refine JE.then_exit ?_ | refine JE.blk_hit ?_ | refine JE.blk_miss rfl ?_ | refine JE.then_ret ?_ | refine JE.blk_ret ?_ | refine JC.label ?_ | refine JL.gon rfl rfl ?_ | refine JL.gskip rfl rfl rfl rfl ?_ | refine JL.gskipU rfl rfl rfl rfl ?_)
    refine JC.cond rfl (fun h => by cases h) (fun _ => ?_)
    repeat (first | refine JL.q (by first | (apply OQ.move; exact rfl) | (apply OQ.assign; exact rfl) | (apply OQ.len; exact rfl; exact rfl) | (apply OQ.addN; exact rfl; exact rfl; exact (by (try simp only []); omega)) | (apply OQ.subN; exact rfl; exact rfl; exact (by (try simp only []); omega); exact (by (try simp only []); omega)) | (apply OQ.lssN; exact rfl; exact rfl)) rfl ?_ | refine JC.seq ?_ | refine JC.region ?_ | refine JC.block ?_ | refine JC.skip ?_ | refine JC.exit ?_ | refine JL.nil ?_ | refine JE.next ?_ | refine JE.blk_normal ?_ | refine JE.then_exit ?_ | refine JE.blk_hit ?_ | refine JE.blk_miss rfl ?_ | refine JE.then_ret ?_ | refine JE.blk_ret ?_ | refine JC.label ?_ | refine JL.gon rfl rfl ?_ | refine JL.gskip rfl rfl rfl rfl ?_ | refine JL.gskipU rfl rfl rfl rfl ?_)
    refine JC.ret ?_
    refine JE.ret2 rfl (RV.tmp rfl) (RV.tmp rfl) fun w' hw => ?_
    obtain ⟨y, y1, y2, y3⟩ := accZ_ok (M := []) (by rw [List.append_nil]; exact hw) hq
    exact ⟨y, by rw [y1]; rfl, hw.chg, y2, y3⟩
end Go.Proofs.YtchoiikhepjdiaaDoor
