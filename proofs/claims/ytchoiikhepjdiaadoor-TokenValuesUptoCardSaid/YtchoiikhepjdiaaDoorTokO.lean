/-
  Of no statement by itself: what despatchlaw10's TokenBack gives, over what token's functions owe (TokenOk).
  Conditions: TokenOk, and the theorem's own.
-/
import Derived.Test.YtchoiikhepjdiaaDoorTokN
import Derived.Test.YtchoiikhepjdiaaDoorBf
import Derived.Test.YtchoiikhepjdiaaDoorSlwb
namespace Go.Proofs.YtchoiikhepjdiaaDoor
set_option maxRecDepth 10000
open Sl Fld Tok
theorem bare_note : ∀ (n : List Fld.By) (r : List Fld.By) (d : Nat) (o : List Fld.By), (∀ c ∈ n, ¬ c = 40 ∧ ¬ c = 41 ∧ ¬ c = 92) → ¬ d = 0 → bareR (n ++ r) d false o = bareR r d false o
  | [], _, _, _, _, _ => rfl
  | c :: n, r, d, o, h, hd => by
    obtain ⟨h1, h2, h3⟩ := h c (by simp)
    rw [List.cons_append, bare_s h3 h1 h2 hd]
    exact bare_note n r d o (fun x hx => h x (by simp [hx])) hd
def noteB (n w : List Fld.By) : List Fld.By := [32, 40] ++ n ++ [41] ++ w ++ [9, 40] ++ n ++ [40] ++ n ++ [41, 41]
theorem bare_noted {k : List Fld.By} {l : List (List Fld.By × List Fld.By)} (h : rightP k l = true) {n : List Fld.By} (hn : ∀ c ∈ n, ¬ c = 40 ∧ ¬ c = 41 ∧ ¬ c = 92) : bareB (noteB n (writeB k l)) = ([32, 32] ++ writeB k l ++ [9, 32], 0) := by
  have e : noteB n (writeB k l) = 32 :: 40 :: (n ++ 41 :: (writeB k l ++ 9 :: 40 :: (n ++ 40 :: (n ++ [41, 41])))) := by
    unfold noteB
    simp only [List.append_assoc, List.cons_append, List.nil_append]
  rw [e]
  unfold bareB
  rw [bare_0 (by decide) (by decide), show ((32 : Fld.By) == 34) = false by decide, bare_40, if_neg (by decide), bare_note n _ _ _ hn (by decide), bare_41, if_neg (by decide)]
  rw [show (if 0 + 1 - 1 = 0 then [] ++ [32] ++ [32] else [] ++ [32] : List Fld.By) = [32, 32] from rfl, bare_write h]
  rw [bare_0 (by decide) (by decide), show ((9 : Fld.By) == 34) = false by decide, bare_40, if_neg (by decide), bare_note n _ _ _ hn (by decide), bare_40, if_neg (by decide), bare_note n _ _ _ hn (by decide), bare_41, if_neg (by decide), bare_41, if_neg (by decide)]
  rw [bare_end]
  simp
theorem params_noted {k : List Fld.By} {l : List (List Fld.By × List Fld.By)} (h : rightP k l = true) {n : List Fld.By} (hn : ∀ c ∈ n, ¬ c = 40 ∧ ¬ c = 41 ∧ ¬ c = 92) : paramsB (noteB n (writeB k l)) = (k, l, 0) := by
  unfold paramsB
  rw [bare_noted h hn, if_pos rfl]
  exact params_write h (by decide) (by decide)
theorem params_plain {k : List Fld.By} {l : List (List Fld.By × List Fld.By)} (h : rightP k l = true) : paramsB (writeB k l) = (k, l, 0) := by
  unfold paramsB
  rw [bare_written h, if_pos rfl]
  have := params_write h (pre := []) (post := []) (by simp) (by simp)
  simpa using this
theorem esc_len : ∀ v : List Fld.By, (esc v).length ≤ 2 * v.length
  | [] => Nat.le_refl _
  | c :: v => by
    have := esc_len v
    show ((if c = 34 ∨ c = 92 then [92, c] else [c]) ++ esc v : List Fld.By).length ≤ _
    rw [List.length_append, List.length_cons]
    split <;> simp only [List.length_cons, List.length_nil] <;> omega
theorem parW_len (p : List Fld.By × List Fld.By) : (parW p).length ≤ p.1.length + 2 * p.2.length + 5 := by
  have := esc_len p.2
  unfold parW
  split <;> simp only [List.length_append, List.length_cons, List.length_nil] <;> omega
theorem pars_len (b : Nat) : ∀ l : List (List Fld.By × List Fld.By), (∀ p ∈ l, p.1.length ≤ b ∧ p.2.length ≤ b) → (l.flatMap parW).length ≤ (3 * b + 5) * l.length
  | [], _ => Nat.le_refl _
  | p :: l, h => by
    have h1 := parW_len p
    have h2 := h p (by simp)
    have h3 := pars_len b l fun q hq => h q (by simp [hq])
    rw [List.flatMap_cons, List.length_append, List.length_cons, Nat.mul_succ]
    omega
theorem writeB_len {k : List Fld.By} {l : List (List Fld.By × List Fld.By)} (h : ∀ p ∈ l, p.1.length ≤ 200 ∧ p.2.length ≤ 200) (hk : k.length ≤ 200) (hl : l.length ≤ 20) : (writeB k l).length ≤ 20000 := by
  have := pars_len 200 l h
  unfold writeB
  rw [List.length_append]
  omega
set_option maxHeartbeats 32000000 in
theorem law_tokenBack (hT : TokenOk) (k : List Bt) (a : Sl2) (nt : List Bt) (w : World) (ha : a.ok w) (hz : ∀ p ∈ a.l, p.1.length < 140737488351233 ∧ p.2.length < 140737488351233) : Calls Tryd.prog 10 [Z k, a.v, Z nt].toArray w fun e w' => e = .returned (.bool true) ∧ Ext w w' := by
  refine enter (n := 124) Tryd.func10 rfl rfl rfl (Holds.start w []) ?_
  have cs := fun w' => speaks10_any hT w'
  repeat (first | refine JL.q (by first | (apply OQ.callx (vs := []); exact goes_speaks10; exact rfl; exact (fun w' _ => cs w')) | (apply OQ.not; exact rfl) | (apply OQ.move; exact rfl) | (apply OQ.assign; exact rfl) | (apply OQ.len; exact rfl; exact rfl) | (apply OQ.addN; exact rfl; exact rfl; exact (by (try simp only []); omega)) | (apply OQ.lssN; exact rfl; exact rfl) | (apply OQ.fld; exact rfl; exact rfl; exact rfl; exact (by decide); exact rfl)) rfl ?_ | refine JC.seq ?_ | refine JC.region ?_ | refine JC.block ?_ | refine JC.skip ?_ | refine JC.exit ?_ | refine JL.nil ?_ | refine JE.next ?_ | refine JE.blk_normal ?_ | refine JE.then_exit ?_ | refine JE.blk_hit ?_ | refine JE.blk_miss rfl ?_ | refine JE.then_ret ?_ | refine JE.blk_ret ?_ | refine JC.label ?_ | refine JL.gon rfl rfl ?_ | refine JL.gskip rfl rfl rfl rfl ?_ | refine JL.gskipU rfl rfl rfl rfl ?_)
  refine JC.cond rfl (fun h => by cases h) (fun _ => ?_)
  cases g0 : decide ((200 : Int) < (k.length : Int)) <;> cases g1 : decide ((20 : Int) < (a.l.length : Int)) <;> cases g2 : decide ((50 : Int) < (nt.length : Int))
  case false.false.false =>
    have hkl : k.length ≤ 200 := by have := of_decide_eq_false g0; omega
    have hal : a.l.length ≤ 20 := by have := of_decide_eq_false g1; omega
    have hnl : nt.length ≤ 50 := by have := of_decide_eq_false g2; omega
    have cR : ∀ w', Holds w [] [] w' → Calls Tryd.prog 35 [Z k, a.v].toArray w' fun e w'' => e = .returned (.bool (rightP k a.l)) ∧ Ext w' w'' := fun w' hw' =>
      rrightp_any k a w' (ha.holds hw' rfl) hz (by omega) (by omega)
    cases hr : rightP k a.l
    · rw [hr] at cR
      repeat (first | refine JL.q (by first | (apply OQ.lenS; exact Tryd.underlying9; exact rfl) | (apply OQ.len; exact Tryd.underlying53; exact rfl) | (apply OQ.gtrB (b := 200); exact rfl; exact rfl; exact g0) | (apply OQ.gtrB (b := 20); exact rfl; exact rfl; exact g1) | (apply OQ.gtrB (b := 50); exact rfl; exact rfl; exact g2) | (apply OQ.callx (vs := [Z k, a.v]); exact goes_rrightp; exact rfl; exact cR) | (apply OQ.not; exact rfl) | (apply OQ.pick_t; exact rfl; exact rfl) | (apply OQ.pick_f; exact rfl; exact rfl) | (apply OQ.move; exact rfl) | (apply OQ.assign; exact rfl) | (apply OQ.len; exact rfl; exact rfl) | (apply OQ.addN; exact rfl; exact rfl; exact (by (try simp only []); omega)) | (apply OQ.lssN; exact rfl; exact rfl) | (apply OQ.fld; exact rfl; exact rfl; exact rfl; exact (by decide); exact rfl)) rfl ?_ | refine JC.seq ?_ | refine JC.region ?_ | refine JC.block ?_ | refine JC.skip ?_ | refine JC.exit ?_ | refine JL.nil ?_ | refine JE.next ?_ | refine JE.blk_normal ?_ | refine JE.then_exit ?_ | refine JE.blk_hit ?_ | refine JE.blk_miss rfl ?_ | refine JE.then_ret ?_ | refine JE.blk_ret ?_ | refine JC.label ?_ | refine JL.gon rfl rfl ?_ | refine JL.gskip rfl rfl rfl rfl ?_ | refine JL.gskipU rfl rfl rfl rfl ?_)
      refine JC.cond rfl (fun _ => ?_) (fun h => by cases h)
      repeat (first | refine JL.q (by first | (apply OQ.move; exact rfl) | (apply OQ.assign; exact rfl) | (apply OQ.len; exact rfl; exact rfl) | (apply OQ.addN; exact rfl; exact rfl; exact (by (try simp only []); omega)) | (apply OQ.lssN; exact rfl; exact rfl) | (apply OQ.fld; exact rfl; exact rfl; exact rfl; exact (by decide); exact rfl)) rfl ?_ | refine JC.seq ?_ | refine JC.region ?_ | refine JC.block ?_ | refine JC.skip ?_ | refine JC.exit ?_ | refine JL.nil ?_ | refine JE.next ?_ | refine JE.blk_normal ?_ | refine JE.then_exit ?_ | refine JE.blk_hit ?_ | refine JE.blk_miss rfl ?_ | refine JE.then_ret ?_ | refine JE.blk_ret ?_ | refine JC.label ?_ | refine JL.gon rfl rfl ?_ | refine JL.gskip rfl rfl rfl rfl ?_ | refine JL.gskipU rfl rfl rfl rfl ?_)
      refine JC.ret ?_
      repeat (first | refine JL.q (by first | (apply OQ.move; exact rfl) | (apply OQ.assign; exact rfl) | (apply OQ.len; exact rfl; exact rfl) | (apply OQ.addN; exact rfl; exact rfl; exact (by (try simp only []); omega)) | (apply OQ.lssN; exact rfl; exact rfl) | (apply OQ.fld; exact rfl; exact rfl; exact rfl; exact (by decide); exact rfl)) rfl ?_ | refine JC.seq ?_ | refine JC.region ?_ | refine JC.block ?_ | refine JC.skip ?_ | refine JC.exit ?_ | refine JL.nil ?_ | refine JE.next ?_ | refine JE.blk_normal ?_ | refine JE.then_exit ?_ | refine JE.blk_hit ?_ | refine JE.blk_miss rfl ?_ | refine JE.then_ret ?_ | refine JE.blk_ret ?_ | refine JC.label ?_ | refine JL.gon rfl rfl ?_ | refine JL.gskip rfl rfl rfl rfl ?_ | refine JL.gskipU rfl rfl rfl rfl ?_)
      exact JE.ret1 rfl (RV.tmp rfl) fun w' hw => ⟨rfl, hw.chg⟩
    rw [hr] at cR
    repeat (first | refine JL.q (by first | (apply OQ.lenS; exact Tryd.underlying9; exact rfl) | (apply OQ.len; exact Tryd.underlying53; exact rfl) | (apply OQ.gtrB (b := 200); exact rfl; exact rfl; exact g0) | (apply OQ.gtrB (b := 20); exact rfl; exact rfl; exact g1) | (apply OQ.gtrB (b := 50); exact rfl; exact rfl; exact g2) | (apply OQ.callx (vs := [Z k, a.v]); exact goes_rrightp; exact rfl; exact cR) | (apply OQ.not; exact rfl) | (apply OQ.pick_t; exact rfl; exact rfl) | (apply OQ.pick_f; exact rfl; exact rfl) | (apply OQ.move; exact rfl) | (apply OQ.assign; exact rfl) | (apply OQ.len; exact rfl; exact rfl) | (apply OQ.addN; exact rfl; exact rfl; exact (by (try simp only []); omega)) | (apply OQ.lssN; exact rfl; exact rfl) | (apply OQ.fld; exact rfl; exact rfl; exact rfl; exact (by decide); exact rfl)) rfl ?_ | refine JC.seq ?_ | refine JC.region ?_ | refine JC.block ?_ | refine JC.skip ?_ | refine JC.exit ?_ | refine JL.nil ?_ | refine JE.next ?_ | refine JE.blk_normal ?_ | refine JE.then_exit ?_ | refine JE.blk_hit ?_ | refine JE.blk_miss rfl ?_ | refine JE.then_ret ?_ | refine JE.blk_ret ?_ | refine JC.label ?_ | refine JL.gon rfl rfl ?_ | refine JL.gskip rfl rfl rfl rfl ?_ | refine JL.gskipU rfl rfl rfl rfl ?_)
    refine JC.cond rfl (fun h => by cases h) (fun _ => ?_)
    repeat (first | refine JL.q (by first | (apply OQ.move; exact rfl) | (apply OQ.assign; exact rfl) | (apply OQ.len; exact rfl; exact rfl) | (apply OQ.addN; exact rfl; exact rfl; exact (by (try simp only []); omega)) | (apply OQ.lssN; exact rfl; exact rfl) | (apply OQ.fld; exact rfl; exact rfl; exact rfl; exact (by decide); exact rfl)) rfl ?_ | refine JC.seq ?_ | refine JC.region ?_ | refine JC.block ?_ | refine JC.skip ?_ | refine JC.exit ?_ | refine JL.nil ?_ | refine JE.next ?_ | refine JE.blk_normal ?_ | refine JE.then_exit ?_ | refine JE.blk_hit ?_ | refine JE.blk_miss rfl ?_ | refine JE.then_ret ?_ | refine JE.blk_ret ?_ | refine JC.label ?_ | refine JL.gon rfl rfl ?_ | refine JL.gskip rfl rfl rfl rfl ?_ | refine JL.gskipU rfl rfl rfl rfl ?_)
    refine JC.joinB (ι := Unit) (fun _ => [(0, Z k), (1, a.v), (2, Z nt)]) (fun _ => []) (fun _ => ∀ c ∈ nt, ¬ c = 40 ∧ ¬ c = 41 ∧ ¬ c = 92) ?_ ?_
    · refine JC.loop (fun i : Nat => [(0, Z k), (1, a.v), (2, Z nt), (7, N i)]) (fun _ => []) (fun i => nt.length - i) (fun i => i ≤ nt.length ∧ ∀ j, j < i → ¬ nt.getD j 0 = 40 ∧ ¬ nt.getD j 0 = 41 ∧ ¬ nt.getD j 0 = 92) 0 ⟨Nat.zero_le _, fun j h => by omega⟩ (by repeat (first | exact SubE.nil | refine SubE.cons _ _ _ rfl ?_)) (Less.refl _) ?_
      rintro i ⟨hi, hsh⟩
      repeat (first | refine JL.q (by first | (apply OQ.lenS; exact Tryd.underlying9; exact rfl) | (apply OQ.move; exact rfl) | (apply OQ.assign; exact rfl) | (apply OQ.len; exact rfl; exact rfl) | (apply OQ.addN; exact rfl; exact rfl; exact (by (try simp only []); omega)) | (apply OQ.lssN; exact rfl; exact rfl) | (apply OQ.fld; exact rfl; exact rfl; exact rfl; exact (by decide); exact rfl)) rfl ?_ | refine JC.seq ?_ | refine JC.region ?_ | refine JC.block ?_ | refine JC.skip ?_ | refine JC.exit ?_ | refine JL.nil ?_ | refine JE.next ?_ | refine JE.blk_normal ?_ | refine JE.then_exit ?_ | refine JE.blk_hit ?_ | refine JE.blk_miss rfl ?_ | refine JE.then_ret ?_ | refine JE.blk_ret ?_ | refine JC.label ?_ | refine JL.gon rfl rfl ?_ | refine JL.gskip rfl rfl rfl rfl ?_ | refine JL.gskipU rfl rfl rfl rfl ?_)
      refine JC.cond rfl (fun h => ?_) (fun h => ?_)
      · have hi' : i < nt.length := of_decide_eq_true h
        clear h hi
        have hnext : ¬ nt.getD i 0 = 40 ∧ ¬ nt.getD i 0 = 41 ∧ ¬ nt.getD i 0 = 92 → ∀ j, j < i + 1 → ¬ nt.getD j 0 = 40 ∧ ¬ nt.getD j 0 = 41 ∧ ¬ nt.getD j 0 = 92 := by
          intro h j hj
          by_cases e : j = i
          · rw [e]; exact h
          · exact hsh j (by omega)
        have hidx := fun {n : Nat} {E : Env} {C : World → Prop} {dst : Option Tmp} {ty : TypeId} {pos : String} {aft : Array Edge} {g : Option (Nat × Bool)} {x y : Operand} => idxAt10 hi' (n := n) (E := E) (C := C) (dst := dst) (ty := ty) (pos := pos) (aft := aft) (g := g) (x := x) (y := y)
        generalize nt.getD i 0 = c at hidx hnext
        cases h1 : decide ((c.toNat : Int) = 40) <;> cases h2 : decide ((c.toNat : Int) = 41) <;> cases h3 : decide ((c.toNat : Int) = 92)
        all_goals (repeat (first | refine JL.q (by first | (apply hidx; exact rfl; exact rfl) | (apply OQ.eqB (b := 40); exact rfl; exact rfl; exact h1) | (apply OQ.eqB (b := 41); exact rfl; exact rfl; exact h2) | (apply OQ.eqB (b := 92); exact rfl; exact rfl; exact h3) | (apply OQ.pick_t; exact rfl; exact rfl) | (apply OQ.pick_f; exact rfl; exact rfl) | (apply OQ.move; exact rfl) | (apply OQ.assign; exact rfl) | (apply OQ.len; exact rfl; exact rfl) | (apply OQ.addN; exact rfl; exact rfl; exact (by (try simp only []); omega)) | (apply OQ.lssN; exact rfl; exact rfl) | (apply OQ.fld; exact rfl; exact rfl; exact rfl; exact (by decide); exact rfl)) rfl ?_ | refine JC.seq ?_ | refine JC.region ?_ | refine JC.block ?_ | refine JC.skip ?_ | refine JC.exit ?_ | refine JL.nil ?_ | refine JE.next ?_ | refine JE.blk_normal ?_ | refine JE.then_exit ?_ | refine JE.blk_hit ?_ | refine JE.blk_miss rfl ?_ | refine JE.then_ret ?_ | refine JE.blk_ret ?_ | refine JC.label ?_ | refine JL.gon rfl rfl ?_ | refine JL.gskip rfl rfl rfl rfl ?_ | refine JL.gskipU rfl rfl rfl rfl ?_))
        all_goals refine JC.cond rfl (fun h => ?_) (fun h => ?_)
        all_goals first | (exfalso; revert h; decide) | skip
        all_goals clear h
        all_goals first
          | ((repeat (first | refine JL.q (by first | (apply OQ.move; exact rfl) | (apply OQ.assign; exact rfl) | (apply OQ.len; exact rfl; exact rfl) | (apply OQ.addN; exact rfl; exact rfl; exact (by (try simp only []); omega)) | (apply OQ.lssN; exact rfl; exact rfl) | (apply OQ.fld; exact rfl; exact rfl; exact rfl; exact (by decide); exact rfl)) rfl ?_ | refine JC.seq ?_ | refine JC.region ?_ | refine JC.block ?_ | refine JC.skip ?_ | refine JC.exit ?_ | refine JL.nil ?_ | refine JE.next ?_ | refine JE.blk_normal ?_ | refine JE.then_exit ?_ | refine JE.blk_hit ?_ | refine JE.blk_miss rfl ?_ | refine JE.then_ret ?_ | refine JE.blk_ret ?_ | refine JC.label ?_ | refine JL.gon rfl rfl ?_ | refine JL.gskip rfl rfl rfl rfl ?_ | refine JL.gskipU rfl rfl rfl rfl ?_))
             refine JC.ret ?_
             (repeat (first | refine JL.q (by first | (apply OQ.move; exact rfl) | (apply OQ.assign; exact rfl) | (apply OQ.len; exact rfl; exact rfl) | (apply OQ.addN; exact rfl; exact rfl; exact (by (try simp only []); omega)) | (apply OQ.lssN; exact rfl; exact rfl) | (apply OQ.fld; exact rfl; exact rfl; exact rfl; exact (by decide); exact rfl)) rfl ?_ | refine JC.seq ?_ | refine JC.region ?_ | refine JC.block ?_ | refine JC.skip ?_ | refine JC.exit ?_ | refine JL.nil ?_ | refine JE.next ?_ | refine JE.blk_normal ?_ | refine JE.then_exit ?_ | refine JE.blk_hit ?_ | refine JE.blk_miss rfl ?_ | refine JE.then_ret ?_ | refine JE.blk_ret ?_ | refine JC.label ?_ | refine JL.gon rfl rfl ?_ | refine JL.gskip rfl rfl rfl rfl ?_ | refine JL.gskipU rfl rfl rfl rfl ?_))
             exact JE.ret1 rfl (RV.tmp rfl) fun w' hw => ⟨rfl, hw.chg⟩)
          | skip
        repeat (first | refine JL.q (by first | (apply OQ.move; exact rfl) | (apply OQ.assign; exact rfl) | (apply OQ.len; exact rfl; exact rfl) | (apply OQ.addN; exact rfl; exact rfl; exact (by (try simp only []); omega)) | (apply OQ.lssN; exact rfl; exact rfl) | (apply OQ.fld; exact rfl; exact rfl; exact rfl; exact (by decide); exact rfl)) rfl ?_ | refine JC.seq ?_ | refine JC.region ?_ | refine JC.block ?_ | refine JC.skip ?_ | refine JC.exit ?_ | refine JL.nil ?_ | refine JE.next ?_ | refine JE.blk_normal ?_ | refine JE.then_exit ?_ | refine JE.blk_hit ?_ | refine JE.blk_miss rfl ?_ | refine JE.then_ret ?_ | refine JE.blk_ret ?_ | refine JC.label ?_ | refine JL.gon rfl rfl ?_ | refine JL.gskip rfl rfl rfl rfl ?_ | refine JL.gskipU rfl rfl rfl rfl ?_)
        exact JE.again (i := i) (i + 1) ⟨hi', hnext ⟨not_of 40 h1, not_of 41 h2, not_of 92 h3⟩⟩ (by omega) (by repeat (first | exact SubE.nil | refine SubE.cons _ _ _ rfl ?_)) (Less.refl _)
      · have hi' : ¬ i < nt.length := of_decide_eq_false h
        clear h
        repeat (first | refine JL.q (by first | (apply OQ.move; exact rfl) | (apply OQ.assign; exact rfl) | (apply OQ.len; exact rfl; exact rfl) | (apply OQ.addN; exact rfl; exact rfl; exact (by (try simp only []); omega)) | (apply OQ.lssN; exact rfl; exact rfl) | (apply OQ.fld; exact rfl; exact rfl; exact rfl; exact (by decide); exact rfl)) rfl ?_ | refine JC.seq ?_ | refine JC.region ?_ | refine JC.block ?_ | refine JC.skip ?_ | refine JC.exit ?_ | refine JL.nil ?_ | refine JE.next ?_ | refine JE.blk_normal ?_ | refine JE.then_exit ?_ | refine JE.blk_hit ?_ | refine JE.blk_miss rfl ?_ | refine JE.then_ret ?_ | refine JE.blk_ret ?_ | refine JC.label ?_ | refine JL.gon rfl rfl ?_ | refine JL.gskip rfl rfl rfl rfl ?_ | refine JL.gskipU rfl rfl rfl rfl ?_)
        refine JE.mid () (fun c hc => ?_) (by repeat (first | exact SubE.nil | refine SubE.cons _ _ _ rfl ?_)) (Less.refl _)
        obtain ⟨j, hj, rfl⟩ := List.mem_iff_getElem.1 hc
        have := hsh j (by omega)
        rwa [List.getD_eq_getElem?_getD, List.getElem?_eq_getElem hj] at this
    rintro ⟨⟩ hno
    repeat (first | refine JL.q (by first | (apply OQ.len; exact Tryd.underlying53; exact rfl) | (apply OQ.move; exact rfl) | (apply OQ.assign; exact rfl) | (apply OQ.len; exact rfl; exact rfl) | (apply OQ.addN; exact rfl; exact rfl; exact (by (try simp only []); omega)) | (apply OQ.lssN; exact rfl; exact rfl) | (apply OQ.fld; exact rfl; exact rfl; exact rfl; exact (by decide); exact rfl)) rfl ?_ | refine JC.seq ?_ | refine JC.region ?_ | refine JC.block ?_ | refine JC.skip ?_ | refine JC.exit ?_ | refine JL.nil ?_ | refine JE.next ?_ | refine JE.blk_normal ?_ | refine JE.then_exit ?_ | refine JE.blk_hit ?_ | refine JE.blk_miss rfl ?_ | refine JE.then_ret ?_ | refine JE.blk_ret ?_ | refine JC.label ?_ | refine JL.gon rfl rfl ?_ | refine JL.gskip rfl rfl rfl rfl ?_ | refine JL.gskipU rfl rfl rfl rfl ?_)
    refine JC.joinB (ι := Unit) (fun _ => [(0, Z k), (1, a.v), (2, Z nt)]) (fun _ => []) (fun _ => short2 a) ?_ ?_
    · refine JC.loop (fun i : Nat => [(0, Z k), (1, a.v), (2, Z nt), (60, a.v), (61, N a.l.length), (62, N i)]) (fun _ => []) (fun i => a.l.length - i) (fun i => i ≤ a.l.length ∧ ∀ j, j < i → (a.l.getD j ([], [])).1.length ≤ 200 ∧ (a.l.getD j ([], [])).2.length ≤ 200) 0 ⟨Nat.zero_le _, fun j h => by omega⟩ (by repeat (first | exact SubE.nil | refine SubE.cons _ _ _ rfl ?_)) (Less.refl _) ?_
      rintro i ⟨hi, hsh⟩
      repeat (first | refine JL.q (by first | (apply OQ.move; exact rfl) | (apply OQ.assign; exact rfl) | (apply OQ.len; exact rfl; exact rfl) | (apply OQ.addN; exact rfl; exact rfl; exact (by (try simp only []); omega)) | (apply OQ.lssN; exact rfl; exact rfl) | (apply OQ.fld; exact rfl; exact rfl; exact rfl; exact (by decide); exact rfl)) rfl ?_ | refine JC.seq ?_ | refine JC.region ?_ | refine JC.block ?_ | refine JC.skip ?_ | refine JC.exit ?_ | refine JL.nil ?_ | refine JE.next ?_ | refine JE.blk_normal ?_ | refine JE.then_exit ?_ | refine JE.blk_hit ?_ | refine JE.blk_miss rfl ?_ | refine JE.then_ret ?_ | refine JE.blk_ret ?_ | refine JC.label ?_ | refine JL.gon rfl rfl ?_ | refine JL.gskip rfl rfl rfl rfl ?_ | refine JL.gskipU rfl rfl rfl rfl ?_)
      refine JC.cond rfl (fun h => ?_) (fun h => ?_)
      · have hi' : i < a.l.length := of_decide_eq_true h
        clear h hi
        obtain ⟨ba, ja, eA, la, ca1, ca2⟩ := ha.at hi'
        have vA : a.v = .slice (some ⟨ba, ja, none⟩) a.l.length a.cap := by rw [← eA]; rfl
        have cA := pair_cells ca1 ca2
        have hnext : (a.l.getD i ([], [])).1.length ≤ 200 → (a.l.getD i ([], [])).2.length ≤ 200 → ∀ j, j < i + 1 → (a.l.getD j ([], [])).1.length ≤ 200 ∧ (a.l.getD j ([], [])).2.length ≤ 200 := by
          intro h1 h2 j hj
          by_cases e : j = i
          · rw [e]; exact ⟨h1, h2⟩
          · exact hsh j (by omega)
        generalize a.l.getD i ([], []) = p at cA hnext
        rw [vA]
        repeat (first | refine JL.q (by first | (apply OQ.idxS; exact Tryd.underlying53; exact parS; exact rfl; exact rfl; exact hi') | (apply OQ.load_agg_old (cs := pc p); exact parA; exact rfl; exact parS; exact la; exact (by simp); exact cA) | (apply OQ.move; exact rfl) | (apply OQ.assign; exact rfl) | (apply OQ.len; exact rfl; exact rfl) | (apply OQ.addN; exact rfl; exact rfl; exact (by (try simp only []); omega)) | (apply OQ.lssN; exact rfl; exact rfl) | (apply OQ.fld; exact rfl; exact rfl; exact rfl; exact (by decide); exact rfl)) rfl ?_ | refine JC.seq ?_ | refine JC.region ?_ | refine JC.block ?_ | refine JC.skip ?_ | refine JC.exit ?_ | refine JL.nil ?_ | refine JE.next ?_ | refine JE.blk_normal ?_ | refine JE.then_exit ?_ | refine JE.blk_hit ?_ | refine JE.blk_miss rfl ?_ | refine JE.then_ret ?_ | refine JE.blk_ret ?_ | refine JC.label ?_ | refine JL.gon rfl rfl ?_ | refine JL.gskip rfl rfl rfl rfl ?_ | refine JL.gskipU rfl rfl rfl rfl ?_)
        refine JL.alloc parZ rfl fun bb _ => ?_
        refine JL.store_all (cs := pc p) parS rfl rfl rfl rfl .here rfl ?_
        cases h1 : decide ((200 : Int) < (p.1.length : Int)) <;> cases h2 : decide ((200 : Int) < (p.2.length : Int))
        all_goals (repeat (first | refine JL.q (by first | (apply OQ.load; exact strC; exact rfl; exact .here; exact (Row.cell rfl)) | (apply OQ.lenS; exact Tryd.underlying9; exact rfl) | (apply OQ.gtrB (b := 200); exact rfl; exact rfl; exact h1) | (apply OQ.gtrB (b := 200); exact rfl; exact rfl; exact h2) | (apply OQ.pick_t; exact rfl; exact rfl) | (apply OQ.pick_f; exact rfl; exact rfl) | (apply OQ.move; exact rfl) | (apply OQ.assign; exact rfl) | (apply OQ.len; exact rfl; exact rfl) | (apply OQ.addN; exact rfl; exact rfl; exact (by (try simp only []); omega)) | (apply OQ.lssN; exact rfl; exact rfl) | (apply OQ.fld; exact rfl; exact rfl; exact rfl; exact (by decide); exact rfl)) rfl ?_ | refine JC.seq ?_ | refine JC.region ?_ | refine JC.block ?_ | refine JC.skip ?_ | refine JC.exit ?_ | refine JL.nil ?_ | refine JE.next ?_ | refine JE.blk_normal ?_ | refine JE.then_exit ?_ | refine JE.blk_hit ?_ | refine JE.blk_miss rfl ?_ | refine JE.then_ret ?_ | refine JE.blk_ret ?_ | refine JC.label ?_ | refine JL.gon rfl rfl ?_ | refine JL.gskip rfl rfl rfl rfl ?_ | refine JL.gskipU rfl rfl rfl rfl ?_))
        all_goals refine JC.cond rfl (fun h => ?_) (fun h => ?_)
        all_goals first | (exfalso; revert h; decide) | skip
        all_goals clear h
        all_goals first
          | ((repeat (first | refine JL.q (by first | (apply OQ.move; exact rfl) | (apply OQ.assign; exact rfl) | (apply OQ.len; exact rfl; exact rfl) | (apply OQ.addN; exact rfl; exact rfl; exact (by (try simp only []); omega)) | (apply OQ.lssN; exact rfl; exact rfl) | (apply OQ.fld; exact rfl; exact rfl; exact rfl; exact (by decide); exact rfl)) rfl ?_ | refine JC.seq ?_ | refine JC.region ?_ | refine JC.block ?_ | refine JC.skip ?_ | refine JC.exit ?_ | refine JL.nil ?_ | refine JE.next ?_ | refine JE.blk_normal ?_ | refine JE.then_exit ?_ | refine JE.blk_hit ?_ | refine JE.blk_miss rfl ?_ | refine JE.then_ret ?_ | refine JE.blk_ret ?_ | refine JC.label ?_ | refine JL.gon rfl rfl ?_ | refine JL.gskip rfl rfl rfl rfl ?_ | refine JL.gskipU rfl rfl rfl rfl ?_))
             refine JC.ret ?_
             (repeat (first | refine JL.q (by first | (apply OQ.move; exact rfl) | (apply OQ.assign; exact rfl) | (apply OQ.len; exact rfl; exact rfl) | (apply OQ.addN; exact rfl; exact rfl; exact (by (try simp only []); omega)) | (apply OQ.lssN; exact rfl; exact rfl) | (apply OQ.fld; exact rfl; exact rfl; exact rfl; exact (by decide); exact rfl)) rfl ?_ | refine JC.seq ?_ | refine JC.region ?_ | refine JC.block ?_ | refine JC.skip ?_ | refine JC.exit ?_ | refine JL.nil ?_ | refine JE.next ?_ | refine JE.blk_normal ?_ | refine JE.then_exit ?_ | refine JE.blk_hit ?_ | refine JE.blk_miss rfl ?_ | refine JE.then_ret ?_ | refine JE.blk_ret ?_ | refine JC.label ?_ | refine JL.gon rfl rfl ?_ | refine JL.gskip rfl rfl rfl rfl ?_ | refine JL.gskipU rfl rfl rfl rfl ?_))
             exact JE.ret1 rfl (RV.tmp rfl) fun w' hw => ⟨rfl, hw.chg⟩)
          | skip
        rw [← vA]
        repeat (first | refine JL.q (by first | (apply OQ.move; exact rfl) | (apply OQ.assign; exact rfl) | (apply OQ.len; exact rfl; exact rfl) | (apply OQ.addN; exact rfl; exact rfl; exact (by (try simp only []); omega)) | (apply OQ.lssN; exact rfl; exact rfl) | (apply OQ.fld; exact rfl; exact rfl; exact rfl; exact (by decide); exact rfl)) rfl ?_ | refine JC.seq ?_ | refine JC.region ?_ | refine JC.block ?_ | refine JC.skip ?_ | refine JC.exit ?_ | refine JL.nil ?_ | refine JE.next ?_ | refine JE.blk_normal ?_ | refine JE.then_exit ?_ | refine JE.blk_hit ?_ | refine JE.blk_miss rfl ?_ | refine JE.then_ret ?_ | refine JE.blk_ret ?_ | refine JC.label ?_ | refine JL.gon rfl rfl ?_ | refine JL.gskip rfl rfl rfl rfl ?_ | refine JL.gskipU rfl rfl rfl rfl ?_)
        exact JE.again (i := i) (i + 1) ⟨hi', hnext (by have := of_decide_eq_false h1; omega) (by have := of_decide_eq_false h2; omega)⟩ (by omega) (by repeat (first | exact SubE.nil | refine SubE.cons _ _ _ rfl ?_)) (.nil _)
      · have hi' : ¬ i < a.l.length := of_decide_eq_false h
        clear h
        repeat (first | refine JL.q (by first | (apply OQ.move; exact rfl) | (apply OQ.assign; exact rfl) | (apply OQ.len; exact rfl; exact rfl) | (apply OQ.addN; exact rfl; exact rfl; exact (by (try simp only []); omega)) | (apply OQ.lssN; exact rfl; exact rfl) | (apply OQ.fld; exact rfl; exact rfl; exact rfl; exact (by decide); exact rfl)) rfl ?_ | refine JC.seq ?_ | refine JC.region ?_ | refine JC.block ?_ | refine JC.skip ?_ | refine JC.exit ?_ | refine JL.nil ?_ | refine JE.next ?_ | refine JE.blk_normal ?_ | refine JE.then_exit ?_ | refine JE.blk_hit ?_ | refine JE.blk_miss rfl ?_ | refine JE.then_ret ?_ | refine JE.blk_ret ?_ | refine JC.label ?_ | refine JL.gon rfl rfl ?_ | refine JL.gskip rfl rfl rfl rfl ?_ | refine JL.gskipU rfl rfl rfl rfl ?_)
        exact JE.mid () (short_all fun j hj => hsh j (by omega)) (by repeat (first | exact SubE.nil | refine SubE.cons _ _ _ rfl ?_)) (Less.refl _)
    rintro ⟨⟩ hsh
    have hWl := writeB_len hsh hkl hal
    have p1 := params_plain hr
    have p2 := params_noted hr hno
    have cW : ∀ w', Holds w [] [] w' → Calls Tryd.prog 36 [Z k, a.v].toArray w' fun e w'' => e = .returned (.tuple #[Z (if rightP k a.l then writeB k a.l else []), N (if rightP k a.l then 0 else 3)]) ∧ Ext w' w'' := fun w' hw' =>
      hT.write k a w' (ha.holds hw' rfl) (by omega) hal (fun p hp => by have := hsh p hp; omega)
    rw [hr] at cW
    generalize writeB k a.l = W at cW hWl p1 p2
    repeat (first | refine JL.q (by first | (apply OQ.callx (vs := [Z k, a.v]); exact goes_twrite; exact rfl; exact cW) | (apply OQ.extract; exact rfl; exact rfl) | (apply OQ.neB (b := 0); exact rfl; exact rfl; exact rfl) | (apply OQ.move; exact rfl) | (apply OQ.assign; exact rfl) | (apply OQ.len; exact rfl; exact rfl) | (apply OQ.addN; exact rfl; exact rfl; exact (by (try simp only []); omega)) | (apply OQ.lssN; exact rfl; exact rfl) | (apply OQ.fld; exact rfl; exact rfl; exact rfl; exact (by decide); exact rfl)) rfl ?_ | refine JC.seq ?_ | refine JC.region ?_ | refine JC.block ?_ | refine JC.skip ?_ | refine JC.exit ?_ | refine JL.nil ?_ | refine JE.next ?_ | refine JE.blk_normal ?_ | refine JE.then_exit ?_ | refine JE.blk_hit ?_ | refine JE.blk_miss rfl ?_ | refine JE.then_ret ?_ | refine JE.blk_ret ?_ | refine JC.label ?_ | refine JL.gon rfl rfl ?_ | refine JL.gskip rfl rfl rfl rfl ?_ | refine JL.gskipU rfl rfl rfl rfl ?_)
    refine JC.cond rfl (fun h => by cases h) (fun _ => ?_)
    have hN : noteB nt W = [32, 40] ++ nt ++ [41] ++ W ++ [9, 40] ++ nt ++ [40] ++ nt ++ [41, 41] := rfl
    have hNl : (noteB nt W).length ≤ 30000 := by rw [hN]; simp only [List.length_append, List.length_cons, List.length_nil]; omega
    repeat (first | refine JL.q (by first | (apply OQ.addS (l := [32, 40]) (r := nt); exact rfl; exact rfl; exact (by simp only [List.length_append, List.length_cons, List.length_nil]; omega)) | (apply OQ.addS (r := nt); exact rfl; exact rfl; exact (by simp only [List.length_append, List.length_cons, List.length_nil]; omega)) | (apply OQ.addS (r := W); exact rfl; exact rfl; exact (by simp only [List.length_append, List.length_cons, List.length_nil]; omega)) | (apply OQ.addS (r := [41]); exact rfl; exact rfl; exact (by simp only [List.length_append, List.length_cons, List.length_nil]; omega)) | (apply OQ.addS (r := [9, 40]); exact rfl; exact rfl; exact (by simp only [List.length_append, List.length_cons, List.length_nil]; omega)) | (apply OQ.addS (r := [40]); exact rfl; exact rfl; exact (by simp only [List.length_append, List.length_cons, List.length_nil]; omega)) | (apply OQ.addS (r := [41, 41]); exact rfl; exact rfl; exact (by simp only [List.length_append, List.length_cons, List.length_nil]; omega)) | (apply OQ.move; exact rfl) | (apply OQ.assign; exact rfl) | (apply OQ.len; exact rfl; exact rfl) | (apply OQ.addN; exact rfl; exact rfl; exact (by (try simp only []); omega)) | (apply OQ.lssN; exact rfl; exact rfl) | (apply OQ.fld; exact rfl; exact rfl; exact rfl; exact (by decide); exact rfl)) rfl ?_ | refine JC.seq ?_ | refine JC.region ?_ | refine JC.block ?_ | refine JC.skip ?_ | refine JC.exit ?_ | refine JL.nil ?_ | refine JE.next ?_ | refine JE.blk_normal ?_ | refine JE.then_exit ?_ | refine JE.blk_hit ?_ | refine JE.blk_miss rfl ?_ | refine JE.then_ret ?_ | refine JE.blk_ret ?_ | refine JC.label ?_ | refine JL.gon rfl rfl ?_ | refine JL.gskip rfl rfl rfl rfl ?_ | refine JL.gskipU rfl rfl rfl rfl ?_)
    refine JL.litL (xs := [.tmp 85, .tmp 97]) (vs := [Z W, Z (noteB nt W)]) Tryd.underlying48 strE rfl rfl rfl rfl (by intro v hv; simp only [List.mem_cons, List.not_mem_nil, or_false] at hv; rcases hv with rfl | rfl <;> rfl) rfl (show 0 < 2 by decide) (show 2 ≤ 16777216 by decide) rfl fun bt _ => ?_
    repeat (first | refine JL.q (by first | (apply OQ.len; exact Tryd.underlying48; exact rfl) | (apply OQ.move; exact rfl) | (apply OQ.assign; exact rfl) | (apply OQ.len; exact rfl; exact rfl) | (apply OQ.addN; exact rfl; exact rfl; exact (by (try simp only []); omega)) | (apply OQ.lssN; exact rfl; exact rfl) | (apply OQ.fld; exact rfl; exact rfl; exact rfl; exact (by decide); exact rfl)) rfl ?_ | refine JC.seq ?_ | refine JC.region ?_ | refine JC.block ?_ | refine JC.skip ?_ | refine JC.exit ?_ | refine JL.nil ?_ | refine JE.next ?_ | refine JE.blk_normal ?_ | refine JE.then_exit ?_ | refine JE.blk_hit ?_ | refine JE.blk_miss rfl ?_ | refine JE.then_ret ?_ | refine JE.blk_ret ?_ | refine JC.label ?_ | refine JL.gon rfl rfl ?_ | refine JL.gskip rfl rfl rfl rfl ?_ | refine JL.gskipU rfl rfl rfl rfl ?_)
    refine JC.reb (S' := []) (M' := []) (fun w1 hw1 => Holds.start w1 []) fun w1 hw1 => ?_
    have yok : SlZ.ok w1 ⟨some ⟨bt, 0, none⟩, 2, [W, noteB nt W]⟩ := by
      obtain ⟨o, ho, hA⟩ := hw1.get (b := bt) (A := Row 9 [Z W, Z (noteB nt W)]) (wr := true) .here
      exact ⟨Nat.le_refl _, Reads.block ho (Row.all _ hA)⟩
    have hx : ∀ i, i < 2 → (([W, noteB nt W] : List (List Fld.By)).getD i []).length < 1000000 ∧ paramsB (([W, noteB nt W] : List (List Fld.By)).getD i []) = (k, a.l, 0) := by
      intro i hi
      match i, hi with
      | 0, _ => exact ⟨by show W.length < _; omega, p1⟩
      | 1, _ => exact ⟨by show (noteB nt W).length < _; omega, p2⟩
    have htx : ([W, noteB nt W] : List (List Fld.By)).length = 2 := rfl
    generalize ([W, noteB nt W] : List (List Fld.By)) = tx at yok hx htx
    replace ha := ha.holds hw1 rfl
    refine JC.loopb (ι := Nat × World) (fun i => i.2) (fun i => [(0, Z k), (1, a.v), (98, .slice (some ⟨bt, 0, none⟩) 2 2), (99, N 2), (100, N i.1)]) (fun _ => []) (fun i => 2 - i.1) (fun i => i.1 ≤ 2 ∧ Ext w i.2 ∧ a.ok i.2 ∧ SlZ.ok i.2 ⟨some ⟨bt, 0, none⟩, 2, tx⟩) (0, w1) ⟨show 0 ≤ 2 by decide, hw1.chg, ha, yok⟩ (by repeat (first | exact SubE.nil | refine SubE.cons _ _ _ rfl ?_)) (fun _ h => h) ?_
    rintro ⟨i, wb⟩ ⟨hi, hE, hab, hyb⟩
    dsimp only at hi hE hab hyb ⊢
    repeat (first | refine JL.q (by first | (apply OQ.move; exact rfl) | (apply OQ.assign; exact rfl) | (apply OQ.len; exact rfl; exact rfl) | (apply OQ.addN; exact rfl; exact rfl; exact (by (try simp only []); omega)) | (apply OQ.lssN; exact rfl; exact rfl) | (apply OQ.fld; exact rfl; exact rfl; exact rfl; exact (by decide); exact rfl)) rfl ?_ | refine JC.seq ?_ | refine JC.region ?_ | refine JC.block ?_ | refine JC.skip ?_ | refine JC.exit ?_ | refine JL.nil ?_ | refine JE.next ?_ | refine JE.blk_normal ?_ | refine JE.then_exit ?_ | refine JE.blk_hit ?_ | refine JE.blk_miss rfl ?_ | refine JE.then_ret ?_ | refine JE.blk_ret ?_ | refine JC.label ?_ | refine JL.gon rfl rfl ?_ | refine JL.gskip rfl rfl rfl rfl ?_ | refine JL.gskipU rfl rfl rfl rfl ?_)
    refine JC.cond rfl (fun h => ?_) (fun h => ?_)
    · have hi' : i < 2 := of_decide_eq_true h
      clear h
      obtain ⟨hxl, hxp⟩ := hx i hi'
      obtain ⟨bx, jx, eX, lx, cx⟩ := hyb.at (show 0 < (SlZ.l ⟨some ⟨bt, 0, none⟩, 2, tx⟩).length by show 0 < tx.length; omega)
      cases eX
      have cxi : wb.cell? ⟨bt, 0 + i, none⟩ = some (Z (tx.getD i [])) := cx i (by show i < tx.length; omega)
      generalize tx.getD i [] = x at cxi hxl hxp
      have cP := fun w' => hT.params x w' hxl
      rw [hxp] at cP
      repeat (first | refine JL.q (by first | (apply OQ.idxS1; exact Tryd.underlying48; exact strS; exact rfl; exact rfl; exact hi') | (apply OQ.load_old; exact strC; exact rfl; exact lx; exact (by simp); exact cxi) | (apply OQ.move; exact rfl) | (apply OQ.assign; exact rfl) | (apply OQ.len; exact rfl; exact rfl) | (apply OQ.addN; exact rfl; exact rfl; exact (by (try simp only []); omega)) | (apply OQ.lssN; exact rfl; exact rfl) | (apply OQ.fld; exact rfl; exact rfl; exact rfl; exact (by decide); exact rfl)) rfl ?_ | refine JC.seq ?_ | refine JC.region ?_ | refine JC.block ?_ | refine JC.skip ?_ | refine JC.exit ?_ | refine JL.nil ?_ | refine JE.next ?_ | refine JE.blk_normal ?_ | refine JE.then_exit ?_ | refine JE.blk_hit ?_ | refine JE.blk_miss rfl ?_ | refine JE.then_ret ?_ | refine JE.blk_ret ?_ | refine JC.label ?_ | refine JL.gon rfl rfl ?_ | refine JL.gskip rfl rfl rfl rfl ?_ | refine JL.gskipU rfl rfl rfl rfl ?_)
      refine JL.callw (vs := [Z x]) (S' := []) (ι := { y : Sl2 // y.l = a.l }) (fun y => .tuple #[Z k, y.1.v, N 0]) (fun y w2 => y.1.ok w2) [] goes_tparams rfl rfl (fun w' _ => (cP w').mono fun e w2 ⟨y, h1, h2, h3, h4⟩ => ⟨⟨y, h4⟩, h1, h2, h3⟩) (.nil _) (by simp) ?_
      rintro ⟨y, hy⟩ w2 hw2 oky
      dsimp only at hy oky ⊢
      have hab2 := hab.holds hw2 rfl
      have hyb2 := hyb.holds hw2 rfl
      have hE2 := hE.trans hw2.chg
      have hkk : decide (k = k) = true := decide_eq_true rfl
      have csp : ∀ w', Holds w2 [] [] w' → Calls Tryd.prog 38 [y.v, a.v].toArray w' fun e w'' => e = .returned (.bool true) ∧ Ext w' w'' := fun w' hw' => by
        have := rsamep_any y a w' (oky.holds hw' rfl) (hab2.holds hw' rfl) (by rw [hy]; omega) (by omega)
        rwa [hy, decide_eq_true rfl] at this
      repeat (first | refine JL.q (by first | (apply OQ.extract; exact rfl; exact rfl) | (apply OQ.neB (b := 0); exact rfl; exact rfl; exact rfl) | (apply OQ.neSB; exact rfl; exact rfl; exact hkk) | (apply OQ.callx (vs := [y.v, a.v]); exact goes_rsamep; exact rfl; exact csp) | (apply OQ.not; exact rfl) | (apply OQ.pick_f; exact rfl; exact rfl) | (apply OQ.move; exact rfl) | (apply OQ.assign; exact rfl) | (apply OQ.len; exact rfl; exact rfl) | (apply OQ.addN; exact rfl; exact rfl; exact (by (try simp only []); omega)) | (apply OQ.lssN; exact rfl; exact rfl) | (apply OQ.fld; exact rfl; exact rfl; exact rfl; exact (by decide); exact rfl)) rfl ?_ | refine JC.seq ?_ | refine JC.region ?_ | refine JC.block ?_ | refine JC.skip ?_ | refine JC.exit ?_ | refine JL.nil ?_ | refine JE.next ?_ | refine JE.blk_normal ?_ | refine JE.then_exit ?_ | refine JE.blk_hit ?_ | refine JE.blk_miss rfl ?_ | refine JE.then_ret ?_ | refine JE.blk_ret ?_ | refine JC.label ?_ | refine JL.gon rfl rfl ?_ | refine JL.gskip rfl rfl rfl rfl ?_ | refine JL.gskipU rfl rfl rfl rfl ?_)
      refine JC.cond rfl (fun h => by cases h) (fun _ => ?_)
      repeat (first | refine JL.q (by first | (apply OQ.move; exact rfl) | (apply OQ.assign; exact rfl) | (apply OQ.len; exact rfl; exact rfl) | (apply OQ.addN; exact rfl; exact rfl; exact (by (try simp only []); omega)) | (apply OQ.lssN; exact rfl; exact rfl) | (apply OQ.fld; exact rfl; exact rfl; exact rfl; exact (by decide); exact rfl)) rfl ?_ | refine JC.seq ?_ | refine JC.region ?_ | refine JC.block ?_ | refine JC.skip ?_ | refine JC.exit ?_ | refine JL.nil ?_ | refine JE.next ?_ | refine JE.blk_normal ?_ | refine JE.then_exit ?_ | refine JE.blk_hit ?_ | refine JE.blk_miss rfl ?_ | refine JE.then_ret ?_ | refine JE.blk_ret ?_ | refine JC.label ?_ | refine JL.gon rfl rfl ?_ | refine JL.gskip rfl rfl rfl rfl ?_ | refine JL.gskipU rfl rfl rfl rfl ?_)
      exact JE.againb (i := (i, wb)) (fun w' => (i + 1, w')) (fun w' hw' => ⟨⟨hi', hE2.trans hw'.chg, hab2.holds hw' rfl, hyb2.holds hw' rfl⟩, by dsimp only; omega, Holds.start w' []⟩) (fun w' => (by repeat (first | exact SubE.nil | refine SubE.cons _ _ _ rfl ?_)))
    · repeat (first | refine JL.q (by first | (apply OQ.move; exact rfl) | (apply OQ.assign; exact rfl) | (apply OQ.len; exact rfl; exact rfl) | (apply OQ.addN; exact rfl; exact rfl; exact (by (try simp only []); omega)) | (apply OQ.lssN; exact rfl; exact rfl) | (apply OQ.fld; exact rfl; exact rfl; exact rfl; exact (by decide); exact rfl)) rfl ?_ | refine JC.seq ?_ | refine JC.region ?_ | refine JC.block ?_ | refine JC.skip ?_ | refine JC.exit ?_ | refine JL.nil ?_ | refine JE.next ?_ | refine JE.blk_normal ?_ | refine JE.then_exit ?_ | refine JE.blk_hit ?_ | refine JE.blk_miss rfl ?_ | refine JE.then_ret ?_ | refine JE.blk_ret ?_ | refine JC.label ?_ | refine JL.gon rfl rfl ?_ | refine JL.gskip rfl rfl rfl rfl ?_ | refine JL.gskipU rfl rfl rfl rfl ?_)
      refine JC.ret ?_
      exact JE.ret1 rfl (RV.tmp rfl) fun w' hw => ⟨rfl, hE.trans hw.chg⟩
  all_goals (repeat (first | refine JL.q (by first | (apply OQ.lenS; exact Tryd.underlying9; exact rfl) | (apply OQ.len; exact Tryd.underlying53; exact rfl) | (apply OQ.gtrB (b := 200); exact rfl; exact rfl; exact g0) | (apply OQ.gtrB (b := 20); exact rfl; exact rfl; exact g1) | (apply OQ.gtrB (b := 50); exact rfl; exact rfl; exact g2) | (apply OQ.pick_t; exact rfl; exact rfl) | (apply OQ.pick_f; exact rfl; exact rfl) | (apply OQ.move; exact rfl) | (apply OQ.assign; exact rfl) | (apply OQ.len; exact rfl; exact rfl) | (apply OQ.addN; exact rfl; exact rfl; exact (by (try simp only []); omega)) | (apply OQ.lssN; exact rfl; exact rfl) | (apply OQ.fld; exact rfl; exact rfl; exact rfl; exact (by decide); exact rfl)) rfl ?_ | refine JC.seq ?_ | refine JC.region ?_ | refine JC.block ?_ | refine JC.skip ?_ | refine JC.exit ?_ | refine JL.nil ?_ | refine JE.next ?_ | refine JE.blk_normal ?_ | refine JE.then_exit ?_ | refine JE.blk_hit ?_ | refine JE.blk_miss rfl ?_ | refine JE.then_ret ?_ | refine JE.blk_ret ?_ | refine JC.label ?_ | refine JL.gon rfl rfl ?_ | refine JL.gskip rfl rfl rfl rfl ?_ | refine JL.gskipU rfl rfl rfl rfl ?_))
  all_goals refine JC.cond rfl (fun _ => ?_) (fun h => by cases h)
  all_goals (repeat (first | refine JL.q (by first | (apply OQ.move; exact rfl) | (apply OQ.assign; exact rfl) | (apply OQ.len; exact rfl; exact rfl) | (apply OQ.addN; exact rfl; exact rfl; exact (by (try simp only []); omega)) | (apply OQ.lssN; exact rfl; exact rfl) | (apply OQ.fld; exact rfl; exact rfl; exact rfl; exact (by decide); exact rfl)) rfl ?_ | refine JC.seq ?_ | refine JC.region ?_ | refine JC.block ?_ | refine JC.skip ?_ | refine JC.exit ?_ | refine JL.nil ?_ | refine JE.next ?_ | refine JE.blk_normal ?_ | refine JE.then_exit ?_ | refine JE.blk_hit ?_ | refine JE.blk_miss rfl ?_ | refine JE.then_ret ?_ | refine JE.blk_ret ?_ | refine JC.label ?_ | refine JL.gon rfl rfl ?_ | refine JL.gskip rfl rfl rfl rfl ?_ | refine JL.gskipU rfl rfl rfl rfl ?_))
  all_goals refine JC.ret ?_
  all_goals (repeat (first | refine JL.q (by first | (apply OQ.move; exact rfl) | (apply OQ.assign; exact rfl) | (apply OQ.len; exact rfl; exact rfl) | (apply OQ.addN; exact rfl; exact rfl; exact (by (try simp only []); omega)) | (apply OQ.lssN; exact rfl; exact rfl) | (apply OQ.fld; exact rfl; exact rfl; exact rfl; exact (by decide); exact rfl)) rfl ?_ | refine JC.seq ?_ | refine JC.region ?_ | refine JC.block ?_ | refine JC.skip ?_ | refine JC.exit ?_ | refine JL.nil ?_ | refine JE.next ?_ | refine JE.blk_normal ?_ | refine JE.then_exit ?_ | refine JE.blk_hit ?_ | refine JE.blk_miss rfl ?_ | refine JE.then_ret ?_ | refine JE.blk_ret ?_ | refine JC.label ?_ | refine JL.gon rfl rfl ?_ | refine JL.gskip rfl rfl rfl rfl ?_ | refine JL.gskipU rfl rfl rfl rfl ?_))
  all_goals exact JE.ret1 rfl (RV.tmp rfl) fun w' hw => ⟨rfl, hw.chg⟩
end Go.Proofs.YtchoiikhepjdiaaDoor
