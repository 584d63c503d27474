/-
  Of no statement by itself: what the landed lines.Place and Stuff give.
  Conditions: each theorem's own.
-/
import Derived.Test.YtnopllkpfdgkkaaLinH
import Derived.Test.YtnopllkpfdgkkaaLinY
import Derived.Test.YtnopllkpfdgkkaaSlfl
namespace Go.Proofs.Ytnopllkpfdgkkaa
open Sl Lin
theorem fl1c : (some (.float .f64 4607182418800017408) : Option Value) = some (Fl 1) := by rw [← fbit_one]; rfl
theorem fl0c : (some (.float .f64 0) : Option Value) = some (Fl 0) := by
  unfold Fl
  rw [fbit_zero]
theorem cx00c : (some (.complex .f64 0 0) : Option Value) = some (Cx 0 0) := by
  unfold Cx
  rw [fbit_zero]
theorem cx01c : (some (.complex .f64 0 4607182418800017408) : Option Value) = some (Cx 0 1) := by
  unfold Cx
  rw [fbit_zero, fbit_one]
theorem goes_next : Goes Try.prog 25 := ⟨_, Try.func25, rfl, by kernel_rfl⟩
set_option maxHeartbeats 4000000 in
theorem next_any (p : Nat × Nat) (c : Bt) (w : World) (h1 : p.1 < 4294967296) (h2 : p.2 < 4294967296) : Calls Try.prog 25 [Cx p.1 p.2, U8 c].toArray w fun e w' => e = .returned (Cx (pl p c).1 (pl p c).2) ∧ Ext w w' := by
  refine enter (n := 13) Try.func25 rfl rfl rfl (Holds.start w []) ?_
  have k10 : (c.toNat : Int) = 10 ↔ c = 10 := b_eq c 10 (by decide)
  unfold pl
  cases h10 : decide ((c.toNat : Int) = 10)
  · rw [if_neg (fun h => absurd (k10.2 h) (of_decide_eq_false h10))]
    repeat (first | refine JL.q (by first | (apply OQ.eqB; exact rfl; exact rfl; exact h10) | (apply OQ.move; exact rfl) | (apply OQ.assign; exact rfl) | (apply OQ.len; exact rfl; exact rfl) | (apply OQ.addN; exact rfl; exact rfl; exact (by (try simp only []); omega)) | (apply OQ.lssN; exact rfl; exact rfl)) rfl ?_ | refine JC.seq ?_ | refine JC.region ?_ | refine JC.block ?_ | refine JC.skip ?_ | refine JC.exit ?_ | refine JL.nil ?_ | refine JE.next ?_ | refine JE.blk_normal ?_ | refine JE.then_exit ?_ | refine JE.blk_hit ?_ | refine JE.blk_miss rfl ?_ | refine JE.then_ret ?_ | refine JE.blk_ret ?_ | refine JC.label ?_ | refine JL.gon rfl rfl ?_ | refine JL.gskip rfl rfl rfl rfl ?_ | refine JL.gskipU rfl rfl rfl rfl ?_)
    refine JC.cond_false rfl rfl ?_
    repeat (first | refine JL.q (by first | (apply OQ.cxAdd1; exact rfl; exact cx01c; exact (by omega); exact (by omega)) | (apply OQ.move; exact rfl) | (apply OQ.assign; exact rfl) | (apply OQ.len; exact rfl; exact rfl) | (apply OQ.addN; exact rfl; exact rfl; exact (by (try simp only []); omega)) | (apply OQ.lssN; exact rfl; exact rfl)) rfl ?_ | refine JC.seq ?_ | refine JC.region ?_ | refine JC.block ?_ | refine JC.skip ?_ | refine JC.exit ?_ | refine JL.nil ?_ | refine JE.next ?_ | refine JE.blk_normal ?_ | refine JE.then_exit ?_ | refine JE.blk_hit ?_ | refine JE.blk_miss rfl ?_ | refine JE.then_ret ?_ | refine JE.blk_ret ?_ | refine JC.label ?_ | refine JL.gon rfl rfl ?_ | refine JL.gskip rfl rfl rfl rfl ?_ | refine JL.gskipU rfl rfl rfl rfl ?_)
    exact JC.ret (JE.ret1 rfl (RV.tmp rfl) fun w' hw => ⟨rfl, hw.chg⟩)
  · rw [if_pos (k10.1 (of_decide_eq_true h10))]
    repeat (first | refine JL.q (by first | (apply OQ.eqB; exact rfl; exact rfl; exact h10) | (apply OQ.move; exact rfl) | (apply OQ.assign; exact rfl) | (apply OQ.len; exact rfl; exact rfl) | (apply OQ.addN; exact rfl; exact rfl; exact (by (try simp only []); omega)) | (apply OQ.lssN; exact rfl; exact rfl)) rfl ?_ | refine JC.seq ?_ | refine JC.region ?_ | refine JC.block ?_ | refine JC.skip ?_ | refine JC.exit ?_ | refine JL.nil ?_ | refine JE.next ?_ | refine JE.blk_normal ?_ | refine JE.then_exit ?_ | refine JE.blk_hit ?_ | refine JE.blk_miss rfl ?_ | refine JE.then_ret ?_ | refine JE.blk_ret ?_ | refine JC.label ?_ | refine JL.gon rfl rfl ?_ | refine JL.gskip rfl rfl rfl rfl ?_ | refine JL.gskipU rfl rfl rfl rfl ?_)
    refine JC.cond_true rfl rfl ?_
    repeat (first | refine JL.q (by first | (apply OQ.real; exact rfl) | (apply OQ.flAdd1; exact rfl; exact fl1c; exact (by omega)) | (apply OQ.cplx; exact rfl; exact fl0c) | (apply OQ.move; exact rfl) | (apply OQ.assign; exact rfl) | (apply OQ.len; exact rfl; exact rfl) | (apply OQ.addN; exact rfl; exact rfl; exact (by (try simp only []); omega)) | (apply OQ.lssN; exact rfl; exact rfl)) rfl ?_ | refine JC.seq ?_ | refine JC.region ?_ | refine JC.block ?_ | refine JC.skip ?_ | refine JC.exit ?_ | refine JL.nil ?_ | refine JE.next ?_ | refine JE.blk_normal ?_ | refine JE.then_exit ?_ | refine JE.blk_hit ?_ | refine JE.blk_miss rfl ?_ | refine JE.then_ret ?_ | refine JE.blk_ret ?_ | refine JC.label ?_ | refine JL.gon rfl rfl ?_ | refine JL.gskip rfl rfl rfl rfl ?_ | refine JL.gskipU rfl rfl rfl rfl ?_)
    refine JC.ret ?_
    repeat (first | refine JL.q (by first | (apply OQ.move; exact rfl) | (apply OQ.assign; exact rfl) | (apply OQ.len; exact rfl; exact rfl) | (apply OQ.addN; exact rfl; exact rfl; exact (by (try simp only []); omega)) | (apply OQ.lssN; exact rfl; exact rfl)) rfl ?_ | refine JC.seq ?_ | refine JC.region ?_ | refine JC.block ?_ | refine JC.skip ?_ | refine JC.exit ?_ | refine JL.nil ?_ | refine JE.next ?_ | refine JE.blk_normal ?_ | refine JE.then_exit ?_ | refine JE.blk_hit ?_ | refine JE.blk_miss rfl ?_ | refine JE.then_ret ?_ | refine JE.blk_ret ?_ | refine JC.label ?_ | refine JL.gon rfl rfl ?_ | refine JL.gskip rfl rfl rfl rfl ?_ | refine JL.gskipU rfl rfl rfl rfl ?_)
    exact JE.ret1 rfl (RV.tmp rfl) fun w' hw => ⟨rfl, hw.chg⟩
theorem fold_one {α : Type} (f : α → Lin.By → α) (l : List Lin.By) (s : α) {i : Nat} (h : i < l.length) : (l.take (i + 1)).foldl f s = f ((l.take i).foldl f s) (l.getD i 0) := by
  rw [List.take_add_one, List.getD_eq_getElem?_getD, List.getElem?_eq_getElem h, List.foldl_append]
  rfl
theorem take_snoc (l : List Lin.By) {i : Nat} (h : i < l.length) : l.take (i + 1) = l.take i ++ [l.getD i 0] := by
  rw [List.take_add_one, List.getD_eq_getElem?_getD, List.getElem?_eq_getElem h]
  rfl
theorem fold_le (l : List Lin.By) (i : Nat) : ((l.take i).foldl pl (0, 0)).1 ≤ l.length ∧ ((l.take i).foldl pl (0, 0)).2 ≤ l.length := by
  have h := pl_le (l.take i) (0, 0)
  have h2 : (l.take i).length ≤ l.length := by rw [List.length_take]; omega
  simp only at h
  omega
theorem goes_aplace : Goes Try.prog 14 := ⟨_, Try.func14, rfl, by kernel_rfl⟩
theorem OQ.maxK {P : Program} {n : Nat} {E : Env} {C : World → Prop} {dst : Option Tmp} {ty t t' : TypeId} {pos : String} {aft : Array Edge} {g : Option (Nat × Bool)} {x y : Operand} {c : Int} {m : Nat} (hx : ev E x = some (.int .i64 0)) (hy : ev E y = some (.int .i64 c)) (h : max 0 c = (m : Int)) : OQ P n E C ⟨dst, .call ⟨.builtin .max, #[x, y], #[t, t']⟩, ty, pos, aft, g⟩ (N m) :=
  OQ.to (OQ.maxI hx hy) (by rw [h])
set_option maxHeartbeats 8000000 in
theorem aplace_any (s : Sl8) (k : Int) (w : World) (hs : s.ok w) (hl : s.l.length ≤ 4000000) : Calls Try.prog 14 [s.v, .int .i64 k].toArray w
    fun e w' => e = .returned (.tuple #[N (plB s.l k.toNat).1, N (plB s.l k.toNat).2]) ∧ Ext w w' := by
  have hcap := hs.len
  have eP : plB s.l k.toNat = (s.l.take (min k.toNat s.l.length)).foldl pl (0, 0) := by
    unfold plB
    congr 1
    rw [List.take_eq_take_iff]
    omega
  rw [eP]
  have hm : max 0 (min k (s.l.length : Int)) = ((min k.toNat s.l.length : Nat) : Int) := by omega
  have hml : min k.toNat s.l.length ≤ s.l.length := Nat.min_le_right _ _
  generalize min k.toNat s.l.length = m at hm hml ⊢
  refine enter (n := 31) Try.func14 rfl rfl rfl (Holds.start w []) ?_
  have hy : (s.fst m).ok w := hs.fst m
  have hyl : (s.fst m).l = s.l.take m := rfl
  have hyn : (s.fst m).l.length = m := by rw [hyl, List.length_take]; omega
  repeat (first | refine JL.q (by first | (apply OQ.assign; exact cx00c) | (apply OQ.minI; exact rfl; exact rfl) | (apply OQ.maxK; exact rfl; exact rfl; exact hm) | (apply OQ.fst (s := s); exact Try.underlying22; exact u8s; exact rfl; exact rfl; exact hml; exact hcap) | (apply OQ.move; exact rfl) | (apply OQ.assign; exact rfl) | (apply OQ.len; exact rfl; exact rfl) | (apply OQ.addN; exact rfl; exact rfl; exact (by (try simp only []); omega)) | (apply OQ.lssN; exact rfl; exact rfl)) rfl ?_ | refine JC.seq ?_ | refine JC.region ?_ | refine JC.block ?_ | refine JC.skip ?_ | refine JC.exit ?_ | refine JL.nil ?_ | refine JE.next ?_ | refine JE.blk_normal ?_ | refine JE.then_exit ?_ | refine JE.blk_hit ?_ | refine JE.blk_miss rfl ?_ | refine JE.then_ret ?_ | refine JE.blk_ret ?_ | refine JC.label ?_ | refine JL.gon rfl rfl ?_ | refine JL.gskip rfl rfl rfl rfl ?_ | refine JL.gskipU rfl rfl rfl rfl ?_)
  rw [← hyl]
  generalize s.fst m = y at hy hyl hyn ⊢
  have hylen : y.l.length ≤ 4000000 := by omega
  refine JC.loop (fun i : Nat => [(6, Cx ((y.l.take i).foldl pl (0, 0)).1 ((y.l.take i).foldl pl (0, 0)).2), (15, y.v), (16, N y.l.length), (17, N i)]) (fun _ => []) (fun i => y.l.length - i) (fun i => i ≤ y.l.length) 0 (Nat.zero_le _) (by repeat (first | exact SubE.nil | refine SubE.cons _ _ _ rfl ?_)) (Less.refl _) ?_
  intro i hi
  have hle := fold_le y.l i
  repeat (first | refine JL.q (by first | (apply OQ.move; exact rfl) | (apply OQ.assign; exact rfl) | (apply OQ.len; exact rfl; exact rfl) | (apply OQ.addN; exact rfl; exact rfl; exact (by (try simp only []); omega)) | (apply OQ.lssN; exact rfl; exact rfl)) rfl ?_ | refine JC.seq ?_ | refine JC.region ?_ | refine JC.block ?_ | refine JC.skip ?_ | refine JC.exit ?_ | refine JL.nil ?_ | refine JE.next ?_ | refine JE.blk_normal ?_ | refine JE.then_exit ?_ | refine JE.blk_hit ?_ | refine JE.blk_miss rfl ?_ | refine JE.then_ret ?_ | refine JE.blk_ret ?_ | refine JC.label ?_ | refine JL.gon rfl rfl ?_ | refine JL.gskip rfl rfl rfl rfl ?_ | refine JL.gskipU rfl rfl rfl rfl ?_)
  refine JC.cond rfl (fun h => ?_) (fun h => ?_)
  · have hi' : i < y.l.length := of_decide_eq_true h
    clear h
    have eT := fold_one pl y.l (0, 0) hi'
    obtain ⟨ba, ja, hae, hca⟩ := hy.reads.at (by simp; omega)
    have hc := hca i _ (map_at U8 0 hi')
    have hav : y.v = .slice (some ⟨ba, ja, none⟩) y.l.length y.cap := by rw [← hae]; rfl
    generalize (y.l.take i).foldl pl (0, 0) = T at eT hle ⊢
    generalize y.l.getD i 0 = c at hc eT
    have h1 : T.1 < 4294967296 := by omega
    have h2 : T.2 < 4294967296 := by omega
    repeat (first | refine JL.q (by first | (apply OQ.idxS1; exact Try.underlying22; exact u8s; exact (congrArg some hav); exact rfl; exact hi') | (apply OQ.load_old; exact u8c; exact rfl; exact (block_lt_of_cell hc); exact (by simp); exact hc) | (apply OQ.callx (vs := [Cx T.1 T.2, U8 c]); exact goes_next; exact rfl; exact (fun w' _ => next_any T c w' h1 h2)) | (apply OQ.move; exact rfl) | (apply OQ.assign; exact rfl) | (apply OQ.len; exact rfl; exact rfl) | (apply OQ.addN; exact rfl; exact rfl; exact (by (try simp only []); omega)) | (apply OQ.lssN; exact rfl; exact rfl)) rfl ?_ | refine JC.seq ?_ | refine JC.region ?_ | refine JC.block ?_ | refine JC.skip ?_ | refine JC.exit ?_ | refine JL.nil ?_ | refine JE.next ?_ | refine JE.blk_normal ?_ | refine JE.then_exit ?_ | refine JE.blk_hit ?_ | refine JE.blk_miss rfl ?_ | refine JE.then_ret ?_ | refine JE.blk_ret ?_ | refine JC.label ?_ | refine JL.gon rfl rfl ?_ | refine JL.gskip rfl rfl rfl rfl ?_ | refine JL.gskipU rfl rfl rfl rfl ?_)
    refine JE.again (i := i) (i + 1) hi' (by show y.l.length - (i + 1) < y.l.length - i; omega) ?_ (Less.refl _)
    rw [eT]
    exact (by repeat (first | exact SubE.nil | refine SubE.cons _ _ _ rfl ?_))
  · have hi' : ¬ i < y.l.length := of_decide_eq_false h
    obtain rfl : i = y.l.length := by omega
    clear h
    rw [List.take_length] at hle ⊢
    generalize y.l.foldl pl (0, 0) = T at hle ⊢
    have h1 : T.1 < 4294967296 := by omega
    have h2 : T.2 < 4294967296 := by omega
    repeat (first | refine JL.q (by first | (apply OQ.real; exact rfl) | (apply OQ.imag; exact rfl) | (apply OQ.flInt; exact (congrArg Option.isSome Try.underlying43); exact Try.underlying3; exact rfl; exact (by omega)) | (apply OQ.flInt; exact (congrArg Option.isSome Try.underlying43); exact Try.underlying3; exact rfl; exact h2) | (apply OQ.move; exact rfl) | (apply OQ.assign; exact rfl) | (apply OQ.len; exact rfl; exact rfl) | (apply OQ.addN; exact rfl; exact rfl; exact (by (try simp only []); omega)) | (apply OQ.lssN; exact rfl; exact rfl)) rfl ?_ | refine JC.seq ?_ | refine JC.region ?_ | refine JC.block ?_ | refine JC.skip ?_ | refine JC.exit ?_ | refine JL.nil ?_ | refine JE.next ?_ | refine JE.blk_normal ?_ | refine JE.then_exit ?_ | refine JE.blk_hit ?_ | refine JE.blk_miss rfl ?_ | refine JE.then_ret ?_ | refine JE.blk_ret ?_ | refine JC.label ?_ | refine JL.gon rfl rfl ?_ | refine JL.gskip rfl rfl rfl rfl ?_ | refine JL.gskipU rfl rfl rfl rfl ?_)
    refine JC.ret (JE.ret2 rfl (RV.tmp rfl) (RV.tmp rfl) ?_)
    exact fun w' hw => ⟨rfl, hw.chg⟩
end Go.Proofs.Ytnopllkpfdgkkaa
