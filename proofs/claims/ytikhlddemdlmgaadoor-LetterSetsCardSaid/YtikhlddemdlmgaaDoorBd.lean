/-
  Of no statement by itself: the texts LtB, LtC, LetL, Slgr, LetK, LtD, LtE, LtF, LtG, LtH, Slja, Slwb in one.
  Conditions: each theorem's own.
-/
import Derived.Test.YtikhlddemdlmgaaDoorBc
/-
  Of no statement by itself: package slices at fields: DeleteFunc; Insert of one field at the end, or where there is room.
  Conditions: each theorem's own.
-/
namespace Go.Proofs.YtikhlddemdlmgaaDoor
set_option maxRecDepth 10000
open Sl Fld
theorem fieldZb : zc Tryd.prog 46 = some [Z [], Z []] := by kernel_rfl
theorem own_pair {e : TypeId} {k cap j : Nat} {A B : List Pr} {v : Pr} (hj : j = A.length * 2) : ∀ o, Own e 2 k cap ((A ++ v :: B).flatMap pc) o → hasCells o j (pc v) := by
  subst hj
  rintro o ⟨sp, rfl, h1, h2, h3⟩
  refine ⟨_, _, _, rfl, fun i hi => ?_⟩
  rw [List.flatMap_append, List.flatMap_cons, List.append_assoc, List.append_assoc, List.getElem?_toArray, List.getElem?_append_right (by rw [pc_len]; omega)]
  have : A.length * 2 + i - (A.flatMap pc).length = i := by rw [pc_len]; omega
  rw [this, List.getElem?_append_left hi]
structure DelT where
  j : Nat
  o : List Pr
  X : List Pr
set_option maxHeartbeats 16000000 in
theorem del_some {C : World → Prop} {D : Pr → Prop} (b cap : Nat) (l : List Pr) (M0 : List Ent) (fv : Value) (p : Pr → Bool) (w : World) (h : Holds w [b] (⟨b, Own 46 2 l.length cap (l.flatMap pc), true⟩ :: M0) w) (hF : FunP Tryd.prog C D fv p) (hC : ∀ (w0 : World) (S : List Nat) (w' : World), Holds w0 S M0 w' → C w') (hD : ∀ c ∈ l, D c) (hl : l.length ≤ 1000000) :
    Calls Tryd.prog 21 [.slice (some ⟨b, 0, none⟩) l.length cap, fv].toArray w fun e w' => e = .returned (.slice (some ⟨b, 0, none⟩) (l.filter fun c => !p c).length cap) ∧ Holds w [b] [⟨b, Own 46 2 (l.filter fun c => !p c).length cap ((l.filter fun c => !p c).flatMap pc), true⟩] w' := by
  refine enter (n := 42) Tryd.func21 rfl rfl rfl h ?_
  have ci : ∀ w', Holds w [b] (⟨b, Own 46 2 l.length cap (l.flatMap pc), true⟩ :: M0) w' → Calls Tryd.prog 19 [.slice (some ⟨b, 0, none⟩) l.length cap, fv].toArray w' fun e w'' => e = .returned (.int .i64 (ixV p l)) ∧ Ext w' w'' := fun w' hw' =>
    ixfun_any (C := C) (D := D) ⟨some ⟨b, 0, none⟩, cap, l⟩ fv p w' (sl2_own hw' .here) hF (fun w'' hx => hC _ _ _ ((Sl.Holds.ext hw' hx).weak (.drop _ _ _ (Less.refl _)))) hD (by simp only []; omega)
  by_cases hx : ixP p l < l.length
  · rw [ixV_yes hx] at ci
    have h0 : decide (((ixP p l : Nat) : Int) = -1) = false := decide_eq_false (by omega)
    repeat (first | refine JL.q (by first | (apply OQ.callx (vs := [.slice (some ⟨b, 0, none⟩) l.length cap, fv]); exact goes_ixfun; exact rfl; exact ci) | (apply OQ.eqB (b := -1); exact rfl; exact rfl; exact h0) | (apply OQ.move; exact rfl) | (apply OQ.assign; exact rfl) | (apply OQ.len; exact rfl; exact rfl) | (apply OQ.addN; exact rfl; exact rfl; exact (by (try simp only []); omega)) | (apply OQ.subN; exact rfl; exact rfl; exact (by (try simp only []); omega); exact (by (try simp only []); omega)) | (apply OQ.lssN; exact rfl; exact rfl) | (apply OQ.fld; exact rfl; exact rfl; exact rfl; exact (by decide); exact rfl)) rfl ?_ | refine JC.seq ?_ | refine JC.region ?_ | refine JC.block ?_ | refine JC.skip ?_ | refine JC.exit ?_ | refine JL.nil ?_ | refine JE.next ?_ | refine JE.blk_normal ?_ | refine JE.then_exit ?_ | refine JE.blk_hit ?_ | refine JE.blk_miss rfl ?_ | refine JE.then_ret ?_ | refine JE.blk_ret ?_ | refine JC.label ?_ | refine JL.gon rfl rfl ?_ | refine JL.gskip rfl rfl rfl rfl ?_ | refine JL.gskipU rfl rfl rfl rfl ?_)
    refine JC.cond rfl (fun h => by cases h) (fun _ => ?_)
    repeat (first | refine JL.q (by first | (apply OQ.move; exact rfl) | (apply OQ.assign; exact rfl) | (apply OQ.len; exact rfl; exact rfl) | (apply OQ.addN; exact rfl; exact rfl; exact (by (try simp only []); omega)) | (apply OQ.subN; exact rfl; exact rfl; exact (by (try simp only []); omega); exact (by (try simp only []); omega)) | (apply OQ.lssN; exact rfl; exact rfl) | (apply OQ.fld; exact rfl; exact rfl; exact rfl; exact (by decide); exact rfl)) rfl ?_ | refine JC.seq ?_ | refine JC.region ?_ | refine JC.block ?_ | refine JC.skip ?_ | refine JC.exit ?_ | refine JL.nil ?_ | refine JE.next ?_ | refine JE.blk_normal ?_ | refine JE.then_exit ?_ | refine JE.blk_hit ?_ | refine JE.blk_miss rfl ?_ | refine JE.then_ret ?_ | refine JE.blk_ret ?_ | refine JC.label ?_ | refine JL.gon rfl rfl ?_ | refine JL.gskip rfl rfl rfl rfl ?_ | refine JL.gskipU rfl rfl rfl rfl ?_)
    obtain ⟨c0, hs1, hs2, hs3⟩ := ix_split hx
    have e0 : l.take (ixP p l) ++ ([c0] ++ l.drop (ixP p l + 1)) = l := by
      rw [List.singleton_append, ← hs1, List.take_append_drop]
    have e1 : (l.take (ixP p l)).length = ixP p l := by rw [List.length_take, Nat.min_eq_left (by omega)]
    clear ci h0
    generalize ixP p l = i0 at *
    refine JC.loop (fun z : DelT => [(0, .slice (some ⟨b, 0, none⟩) l.length cap), (1, fv), (5, N z.o.length), (6, N z.j)]) (fun z => ⟨b, Own 46 2 l.length cap ((z.o ++ (z.X ++ l.drop z.j)).flatMap pc), true⟩ :: M0) (fun z => l.length - z.j) (fun z => z.j ≤ l.length ∧ z.o.length + z.X.length = z.j ∧ z.X ≠ [] ∧ (l.filter fun c => !p c) = z.o ++ ((l.drop z.j).filter fun c => !p c)) ⟨i0 + 1, l.take i0, [c0]⟩ ⟨hx, by dsimp only; rw [e1]; rfl, by simp, hs3⟩ ?_ ?_ ?_
    · dsimp only
      rw [e1]
      exact (by repeat (first | exact SubE.nil | refine SubE.cons _ _ _ rfl ?_))
    · dsimp only
      rw [e0]
      exact Less.refl _
    clear e0 e1 hs1 hs2 hs3 hx i0 c0
    rintro ⟨j, o, X⟩ ⟨hj, hoX, hX, hf⟩
    dsimp only at hj hoX hX hf ⊢
    repeat (first | refine JL.q (by first | (apply OQ.len; exact Tryd.underlying22; exact rfl) | (apply OQ.move; exact rfl) | (apply OQ.assign; exact rfl) | (apply OQ.len; exact rfl; exact rfl) | (apply OQ.addN; exact rfl; exact rfl; exact (by (try simp only []); omega)) | (apply OQ.subN; exact rfl; exact rfl; exact (by (try simp only []); omega); exact (by (try simp only []); omega)) | (apply OQ.lssN; exact rfl; exact rfl) | (apply OQ.fld; exact rfl; exact rfl; exact rfl; exact (by decide); exact rfl)) rfl ?_ | refine JC.seq ?_ | refine JC.region ?_ | refine JC.block ?_ | refine JC.skip ?_ | refine JC.exit ?_ | refine JL.nil ?_ | refine JE.next ?_ | refine JE.blk_normal ?_ | refine JE.then_exit ?_ | refine JE.blk_hit ?_ | refine JE.blk_miss rfl ?_ | refine JE.then_ret ?_ | refine JE.blk_ret ?_ | refine JC.label ?_ | refine JL.gon rfl rfl ?_ | refine JL.gskip rfl rfl rfl rfl ?_ | refine JL.gskipU rfl rfl rfl rfl ?_)
    refine JC.cond rfl (fun h => ?_) (fun h => ?_)
    · have hj' : j < l.length := of_decide_eq_true h
      clear h hj
      have hDj : D (l.getD j ([], [])) := hD _ (mem_getD hj')
      rw [drop_pr hj'] at hf ⊢
      generalize l.getD j ([], []) = v at hf hDj ⊢
      repeat (first | refine JL.q (by first | (apply OQ.idxS; exact Tryd.underlying22; exact fieldS; exact rfl; exact rfl; exact hj') | (apply OQ.load_agg (cs := pc v); exact fieldA; exact fieldS; exact rfl; exact .here; exact rfl; exact (by rw [← List.append_assoc]; exact own_pair (by rw [List.length_append]; omega))) | (apply OQ.move; exact rfl) | (apply OQ.assign; exact rfl) | (apply OQ.len; exact rfl; exact rfl) | (apply OQ.addN; exact rfl; exact rfl; exact (by (try simp only []); omega)) | (apply OQ.subN; exact rfl; exact rfl; exact (by (try simp only []); omega); exact (by (try simp only []); omega)) | (apply OQ.lssN; exact rfl; exact rfl) | (apply OQ.fld; exact rfl; exact rfl; exact rfl; exact (by decide); exact rfl)) rfl ?_ | refine JC.seq ?_ | refine JC.region ?_ | refine JC.block ?_ | refine JC.skip ?_ | refine JC.exit ?_ | refine JL.nil ?_ | refine JE.next ?_ | refine JE.blk_normal ?_ | refine JE.then_exit ?_ | refine JE.blk_hit ?_ | refine JE.blk_miss rfl ?_ | refine JE.then_ret ?_ | refine JE.blk_ret ?_ | refine JC.label ?_ | refine JL.gon rfl rfl ?_ | refine JL.gskip rfl rfl rfl rfl ?_ | refine JL.gskipU rfl rfl rfl rfl ?_)
      refine JL.alloc fieldZb rfl fun b7 _ => ?_
      refine JL.store_all (cs := pc v) fieldS rfl rfl rfl rfl .here rfl ?_
      cases h1 : p v
      · rw [List.filter_cons, h1, Bool.not_false, if_pos rfl] at hf
        obtain ⟨x, X', rfl⟩ : ∃ x X', X = x :: X' := by cases X with
          | nil => exact absurd rfl hX
          | cons x X' => exact ⟨x, X', rfl⟩
        simp only [List.length_cons] at hoX
        repeat (first | refine JL.q (by first | (apply OQ.load_agg (cs := pc v); exact fieldA; exact fieldS; exact rfl; exact .here; exact rfl; exact Row.all) | (apply OQ.callP; exact hF; exact hDj; exact (fun w' hw' => hC _ _ w' (Sl.Holds.weak hw' (.drop _ _ _ (.drop _ _ _ (Less.refl _))))); exact rfl; exact rfl; exact h1) | (apply OQ.not; exact rfl) | (apply OQ.move; exact rfl) | (apply OQ.assign; exact rfl) | (apply OQ.len; exact rfl; exact rfl) | (apply OQ.addN; exact rfl; exact rfl; exact (by (try simp only []); omega)) | (apply OQ.subN; exact rfl; exact rfl; exact (by (try simp only []); omega); exact (by (try simp only []); omega)) | (apply OQ.lssN; exact rfl; exact rfl) | (apply OQ.fld; exact rfl; exact rfl; exact rfl; exact (by decide); exact rfl)) rfl ?_ | refine JC.seq ?_ | refine JC.region ?_ | refine JC.block ?_ | refine JC.skip ?_ | refine JC.exit ?_ | refine JL.nil ?_ | refine JE.next ?_ | refine JE.blk_normal ?_ | refine JE.then_exit ?_ | refine JE.blk_hit ?_ | refine JE.blk_miss rfl ?_ | refine JE.then_ret ?_ | refine JE.blk_ret ?_ | refine JC.label ?_ | refine JL.gon rfl rfl ?_ | refine JL.gskip rfl rfl rfl rfl ?_ | refine JL.gskipU rfl rfl rfl rfl ?_)
        refine JC.cond rfl (fun _ => ?_) (fun h => by cases h)
        repeat (first | refine JL.q (by first | (apply OQ.load_agg (cs := pc v); exact fieldA; exact fieldS; exact rfl; exact .here; exact rfl; exact Row.all) | (apply OQ.idxS; exact Tryd.underlying22; exact fieldS; exact rfl; exact rfl; exact (show o.length < l.length by omega)) | (apply OQ.move; exact rfl) | (apply OQ.assign; exact rfl) | (apply OQ.len; exact rfl; exact rfl) | (apply OQ.addN; exact rfl; exact rfl; exact (by (try simp only []); omega)) | (apply OQ.subN; exact rfl; exact rfl; exact (by (try simp only []); omega); exact (by (try simp only []); omega)) | (apply OQ.lssN; exact rfl; exact rfl) | (apply OQ.fld; exact rfl; exact rfl; exact rfl; exact (by decide); exact rfl)) rfl ?_ | refine JC.seq ?_ | refine JC.region ?_ | refine JC.block ?_ | refine JC.skip ?_ | refine JC.exit ?_ | refine JL.nil ?_ | refine JE.next ?_ | refine JE.blk_normal ?_ | refine JE.then_exit ?_ | refine JE.blk_hit ?_ | refine JE.blk_miss rfl ?_ | refine JE.then_ret ?_ | refine JE.blk_ret ?_ | refine JC.label ?_ | refine JL.gon rfl rfl ?_ | refine JL.gskip rfl rfl rfl rfl ?_ | refine JL.gskipU rfl rfl rfl rfl ?_)
        refine JL.storeO (i := o.length) (xs := (o ++ (x :: X' ++ v :: l.drop (j + 1))).flatMap pc) (xs' := ((o ++ [v]) ++ ((X' ++ [v]) ++ l.drop (j + 1))).flatMap pc) fieldS rfl (by omega) rfl rfl rfl (.there .here) (by omega) (by rw [List.cons_append, flat_set]; simp) ?_
        repeat (first | refine JL.q (by first | (apply OQ.move; exact rfl) | (apply OQ.assign; exact rfl) | (apply OQ.len; exact rfl; exact rfl) | (apply OQ.addN; exact rfl; exact rfl; exact (by (try simp only []); omega)) | (apply OQ.subN; exact rfl; exact rfl; exact (by (try simp only []); omega); exact (by (try simp only []); omega)) | (apply OQ.lssN; exact rfl; exact rfl) | (apply OQ.fld; exact rfl; exact rfl; exact rfl; exact (by decide); exact rfl)) rfl ?_ | refine JC.seq ?_ | refine JC.region ?_ | refine JC.block ?_ | refine JC.skip ?_ | refine JC.exit ?_ | refine JL.nil ?_ | refine JE.next ?_ | refine JE.blk_normal ?_ | refine JE.then_exit ?_ | refine JE.blk_hit ?_ | refine JE.blk_miss rfl ?_ | refine JE.then_ret ?_ | refine JE.blk_ret ?_ | refine JC.label ?_ | refine JL.gon rfl rfl ?_ | refine JL.gskip rfl rfl rfl rfl ?_ | refine JL.gskipU rfl rfl rfl rfl ?_)
        have eN : (o ++ [v]).length = o.length + 1 := List.length_append
        refine JE.again (i := DelT.mk j o (x :: X')) (DelT.mk (j + 1) (o ++ [v]) (X' ++ [v])) ⟨hj', by dsimp only; rw [eN, List.length_append]; simp only [List.length_cons, List.length_nil]; omega, by simp, by dsimp only; rw [hf, List.append_assoc]; rfl⟩ (by dsimp only; omega) ?_ (.drop _ _ _ (Less.refl _))
        dsimp only
        rw [eN]
        exact (by repeat (first | exact SubE.nil | refine SubE.cons _ _ _ rfl ?_))
      · rw [List.filter_cons, h1, Bool.not_true, if_neg (by decide)] at hf
        repeat (first | refine JL.q (by first | (apply OQ.load_agg (cs := pc v); exact fieldA; exact fieldS; exact rfl; exact .here; exact rfl; exact Row.all) | (apply OQ.callP; exact hF; exact hDj; exact (fun w' hw' => hC _ _ w' (Sl.Holds.weak hw' (.drop _ _ _ (.drop _ _ _ (Less.refl _))))); exact rfl; exact rfl; exact h1) | (apply OQ.not; exact rfl) | (apply OQ.move; exact rfl) | (apply OQ.assign; exact rfl) | (apply OQ.len; exact rfl; exact rfl) | (apply OQ.addN; exact rfl; exact rfl; exact (by (try simp only []); omega)) | (apply OQ.subN; exact rfl; exact rfl; exact (by (try simp only []); omega); exact (by (try simp only []); omega)) | (apply OQ.lssN; exact rfl; exact rfl) | (apply OQ.fld; exact rfl; exact rfl; exact rfl; exact (by decide); exact rfl)) rfl ?_ | refine JC.seq ?_ | refine JC.region ?_ | refine JC.block ?_ | refine JC.skip ?_ | refine JC.exit ?_ | refine JL.nil ?_ | refine JE.next ?_ | refine JE.blk_normal ?_ | refine JE.then_exit ?_ | refine JE.blk_hit ?_ | refine JE.blk_miss rfl ?_ | refine JE.then_ret ?_ | refine JE.blk_ret ?_ | refine JC.label ?_ | refine JL.gon rfl rfl ?_ | refine JL.gskip rfl rfl rfl rfl ?_ | refine JL.gskipU rfl rfl rfl rfl ?_)
        refine JC.cond rfl (fun h => by cases h) (fun _ => ?_)
        repeat (first | refine JL.q (by first | (apply OQ.move; exact rfl) | (apply OQ.assign; exact rfl) | (apply OQ.len; exact rfl; exact rfl) | (apply OQ.addN; exact rfl; exact rfl; exact (by (try simp only []); omega)) | (apply OQ.subN; exact rfl; exact rfl; exact (by (try simp only []); omega); exact (by (try simp only []); omega)) | (apply OQ.lssN; exact rfl; exact rfl) | (apply OQ.fld; exact rfl; exact rfl; exact rfl; exact (by decide); exact rfl)) rfl ?_ | refine JC.seq ?_ | refine JC.region ?_ | refine JC.block ?_ | refine JC.skip ?_ | refine JC.exit ?_ | refine JL.nil ?_ | refine JE.next ?_ | refine JE.blk_normal ?_ | refine JE.then_exit ?_ | refine JE.blk_hit ?_ | refine JE.blk_miss rfl ?_ | refine JE.then_ret ?_ | refine JE.blk_ret ?_ | refine JC.label ?_ | refine JL.gon rfl rfl ?_ | refine JL.gskip rfl rfl rfl rfl ?_ | refine JL.gskipU rfl rfl rfl rfl ?_)
        refine JE.again (i := DelT.mk j o X) (DelT.mk (j + 1) o (X ++ [v])) ⟨hj', by dsimp only; rw [List.length_append]; simp only [List.length_cons, List.length_nil]; omega, by simp, hf⟩ (by dsimp only; omega) (by repeat (first | exact SubE.nil | refine SubE.cons _ _ _ rfl ?_)) (.drop _ _ _ ?_)
        have ee : o ++ (X ++ v :: l.drop (j + 1)) = o ++ (X ++ [v] ++ l.drop (j + 1)) := by simp
        dsimp only
        rw [ee]
        exact Less.refl _
    · have hj' : ¬ j < l.length := of_decide_eq_false h
      clear h
      have hjl : j = l.length := by omega
      rw [List.drop_eq_nil_of_le (by omega), List.filter_nil, List.append_nil] at hf
      rw [List.drop_eq_nil_of_le (by omega), List.append_nil, hf]
      repeat (first | refine JL.q (by first | (apply OQ.slS_lo (ad := some ⟨b, 0, none⟩) (len := l.length) (cap := cap) (lo := o.length); exact Tryd.underlying22; exact fieldS; exact rfl; exact rfl; exact (by omega)) | (apply OQ.move; exact rfl) | (apply OQ.assign; exact rfl) | (apply OQ.len; exact rfl; exact rfl) | (apply OQ.addN; exact rfl; exact rfl; exact (by (try simp only []); omega)) | (apply OQ.subN; exact rfl; exact rfl; exact (by (try simp only []); omega); exact (by (try simp only []); omega)) | (apply OQ.lssN; exact rfl; exact rfl) | (apply OQ.fld; exact rfl; exact rfl; exact rfl; exact (by decide); exact rfl)) rfl ?_ | refine JC.seq ?_ | refine JC.region ?_ | refine JC.block ?_ | refine JC.skip ?_ | refine JC.exit ?_ | refine JL.nil ?_ | refine JE.next ?_ | refine JE.blk_normal ?_ | refine JE.then_exit ?_ | refine JE.blk_hit ?_ | refine JE.blk_miss rfl ?_ | refine JE.then_ret ?_ | refine JE.blk_ret ?_ | refine JC.label ?_ | refine JL.gon rfl rfl ?_ | refine JL.gskip rfl rfl rfl rfl ?_ | refine JL.gskipU rfl rfl rfl rfl ?_)
      refine JL.clearO (k := l.length) (lo := o.length) (xs := (o ++ X).flatMap pc) (M' := ⟨b, Own 46 2 o.length cap (((o ++ X).flatMap pc).take (o.length * 2)), true⟩ :: M0) Tryd.underlying22 fieldI rfl (by intro v hv; exact pc_one (p := ([], [])) v hv) (by decide) rfl (by omega) .here ?_
      rw [flat_take]
      refine JL.capIs (b := b) .here (fun ob hA => by obtain ⟨sp, _, _, _, h3⟩ := hA; exact h3) fun hcap => ?_
      repeat (first | refine JL.q (by first | (apply OQ.to; exact (OQ.slS_hi (ad := some ⟨b, 0, none⟩) (len := l.length) (cap := cap) (hi := o.length) Tryd.underlying22 fieldS rfl rfl hcap); exact hi_slice) | (apply OQ.move; exact rfl) | (apply OQ.assign; exact rfl) | (apply OQ.len; exact rfl; exact rfl) | (apply OQ.addN; exact rfl; exact rfl; exact (by (try simp only []); omega)) | (apply OQ.subN; exact rfl; exact rfl; exact (by (try simp only []); omega); exact (by (try simp only []); omega)) | (apply OQ.lssN; exact rfl; exact rfl) | (apply OQ.fld; exact rfl; exact rfl; exact rfl; exact (by decide); exact rfl)) rfl ?_ | refine JC.seq ?_ | refine JC.region ?_ | refine JC.block ?_ | refine JC.skip ?_ | refine JC.exit ?_ | refine JL.nil ?_ | refine JE.next ?_ | refine JE.blk_normal ?_ | refine JE.then_exit ?_ | refine JE.blk_hit ?_ | refine JE.blk_miss rfl ?_ | refine JE.then_ret ?_ | refine JE.blk_ret ?_ | refine JC.label ?_ | refine JL.gon rfl rfl ?_ | refine JL.gskip rfl rfl rfl rfl ?_ | refine JL.gskipU rfl rfl rfl rfl ?_)
      refine JC.ret ?_
      repeat (first | refine JL.q (by first | (apply OQ.move; exact rfl) | (apply OQ.assign; exact rfl) | (apply OQ.len; exact rfl; exact rfl) | (apply OQ.addN; exact rfl; exact rfl; exact (by (try simp only []); omega)) | (apply OQ.subN; exact rfl; exact rfl; exact (by (try simp only []); omega); exact (by (try simp only []); omega)) | (apply OQ.lssN; exact rfl; exact rfl) | (apply OQ.fld; exact rfl; exact rfl; exact rfl; exact (by decide); exact rfl)) rfl ?_ | refine JC.seq ?_ | refine JC.region ?_ | refine JC.block ?_ | refine JC.skip ?_ | refine JC.exit ?_ | refine JL.nil ?_ | refine JE.next ?_ | refine JE.blk_normal ?_ | refine JE.then_exit ?_ | refine JE.blk_hit ?_ | refine JE.blk_miss rfl ?_ | refine JE.then_ret ?_ | refine JE.blk_ret ?_ | refine JC.label ?_ | refine JL.gon rfl rfl ?_ | refine JL.gskip rfl rfl rfl rfl ?_ | refine JL.gskipU rfl rfl rfl rfl ?_)
      exact JE.ret1 rfl (RV.tmp rfl) fun w' hw => ⟨rfl, Sl.Holds.weak hw (.keep _ _ _ _ _ _ (fun _ h => h) (.nil _))⟩
  · rw [ix_all hx]
    have h0 : decide (ixV p l = -1) = true := by rw [ixV_no hx]; rfl
    repeat (first | refine JL.q (by first | (apply OQ.callx (vs := [.slice (some ⟨b, 0, none⟩) l.length cap, fv]); exact goes_ixfun; exact rfl; exact ci) | (apply OQ.eqB (b := -1); exact rfl; exact rfl; exact h0) | (apply OQ.move; exact rfl) | (apply OQ.assign; exact rfl) | (apply OQ.len; exact rfl; exact rfl) | (apply OQ.addN; exact rfl; exact rfl; exact (by (try simp only []); omega)) | (apply OQ.subN; exact rfl; exact rfl; exact (by (try simp only []); omega); exact (by (try simp only []); omega)) | (apply OQ.lssN; exact rfl; exact rfl) | (apply OQ.fld; exact rfl; exact rfl; exact rfl; exact (by decide); exact rfl)) rfl ?_ | refine JC.seq ?_ | refine JC.region ?_ | refine JC.block ?_ | refine JC.skip ?_ | refine JC.exit ?_ | refine JL.nil ?_ | refine JE.next ?_ | refine JE.blk_normal ?_ | refine JE.then_exit ?_ | refine JE.blk_hit ?_ | refine JE.blk_miss rfl ?_ | refine JE.then_ret ?_ | refine JE.blk_ret ?_ | refine JC.label ?_ | refine JL.gon rfl rfl ?_ | refine JL.gskip rfl rfl rfl rfl ?_ | refine JL.gskipU rfl rfl rfl rfl ?_)
    refine JC.cond rfl (fun _ => ?_) (fun h => by cases h)
    repeat (first | refine JL.q (by first | (apply OQ.move; exact rfl) | (apply OQ.assign; exact rfl) | (apply OQ.len; exact rfl; exact rfl) | (apply OQ.addN; exact rfl; exact rfl; exact (by (try simp only []); omega)) | (apply OQ.subN; exact rfl; exact rfl; exact (by (try simp only []); omega); exact (by (try simp only []); omega)) | (apply OQ.lssN; exact rfl; exact rfl) | (apply OQ.fld; exact rfl; exact rfl; exact rfl; exact (by decide); exact rfl)) rfl ?_ | refine JC.seq ?_ | refine JC.region ?_ | refine JC.block ?_ | refine JC.skip ?_ | refine JC.exit ?_ | refine JL.nil ?_ | refine JE.next ?_ | refine JE.blk_normal ?_ | refine JE.then_exit ?_ | refine JE.blk_hit ?_ | refine JE.blk_miss rfl ?_ | refine JE.then_ret ?_ | refine JE.blk_ret ?_ | refine JC.label ?_ | refine JL.gon rfl rfl ?_ | refine JL.gskip rfl rfl rfl rfl ?_ | refine JL.gskipU rfl rfl rfl rfl ?_)
    refine JC.ret ?_
    repeat (first | refine JL.q (by first | (apply OQ.move; exact rfl) | (apply OQ.assign; exact rfl) | (apply OQ.len; exact rfl; exact rfl) | (apply OQ.addN; exact rfl; exact rfl; exact (by (try simp only []); omega)) | (apply OQ.subN; exact rfl; exact rfl; exact (by (try simp only []); omega); exact (by (try simp only []); omega)) | (apply OQ.lssN; exact rfl; exact rfl) | (apply OQ.fld; exact rfl; exact rfl; exact rfl; exact (by decide); exact rfl)) rfl ?_ | refine JC.seq ?_ | refine JC.region ?_ | refine JC.block ?_ | refine JC.skip ?_ | refine JC.exit ?_ | refine JL.nil ?_ | refine JE.next ?_ | refine JE.blk_normal ?_ | refine JE.then_exit ?_ | refine JE.blk_hit ?_ | refine JE.blk_miss rfl ?_ | refine JE.then_ret ?_ | refine JE.blk_ret ?_ | refine JC.label ?_ | refine JL.gon rfl rfl ?_ | refine JL.gskip rfl rfl rfl rfl ?_ | refine JL.gskipU rfl rfl rfl rfl ?_)
    exact JE.ret1 rfl (RV.tmp rfl) fun w' hw => ⟨rfl, Sl.Holds.weak hw (.keep _ _ _ _ _ _ (fun _ h => h) (.nil _))⟩
set_option maxHeartbeats 4000000 in
theorem del_any {C : World → Prop} {D : Pr → Prop} (q : Acc) (l : List Pr) (M0 : List Ent) (fv : Value) (p : Pr → Bool) (w : World) (h : Holds w (keys (accP 46 q l)) (accP 46 q l ++ M0) w) (hq : q = none → l = []) (hF : FunP Tryd.prog C D fv p) (hC : ∀ (w0 : World) (S : List Nat) (w' : World), Holds w0 S M0 w' → C w') (hD : ∀ c ∈ l, D c) (hl : l.length ≤ 1000000) :
    Calls Tryd.prog 21 [accV q l.length, fv].toArray w fun e w' => e = .returned (accV q (l.filter fun c => !p c).length) ∧ Holds w (keys (accP 46 q l)) (accP 46 q (l.filter fun c => !p c)) w' := by
  cases q with
  | some r => exact del_some r.1 r.2 l M0 fv p w h hF hC hD hl
  | none =>
    obtain rfl := hq rfl
    refine enter (n := 42) Tryd.func21 rfl rfl rfl h ?_
    have ci : ∀ w', Holds w [] M0 w' → Calls Tryd.prog 19 [nil2.v, fv].toArray w' fun e w'' => e = .returned (.int .i64 (-1)) ∧ Ext w' w'' := fun w' hw' =>
      ixfun_any (C := C) (D := D) nil2 fv p w' (nil2_ok w') hF (fun w'' hx => hC _ _ _ (Sl.Holds.ext hw' hx)) hD (by decide)
    have h0 : decide ((-1 : Int) = -1) = true := rfl
    repeat (first | refine JL.q (by first | (apply OQ.callx (vs := [nil2.v, fv]); exact goes_ixfun; exact rfl; exact ci) | (apply OQ.eqB (a := -1) (b := -1); exact rfl; exact rfl; exact h0) | (apply OQ.move; exact rfl) | (apply OQ.assign; exact rfl) | (apply OQ.len; exact rfl; exact rfl) | (apply OQ.addN; exact rfl; exact rfl; exact (by (try simp only []); omega)) | (apply OQ.subN; exact rfl; exact rfl; exact (by (try simp only []); omega); exact (by (try simp only []); omega)) | (apply OQ.lssN; exact rfl; exact rfl) | (apply OQ.fld; exact rfl; exact rfl; exact rfl; exact (by decide); exact rfl)) rfl ?_ | refine JC.seq ?_ | refine JC.region ?_ | refine JC.block ?_ | refine JC.skip ?_ | refine JC.exit ?_ | refine JL.nil ?_ | refine JE.next ?_ | refine JE.blk_normal ?_ | refine JE.then_exit ?_ | refine JE.blk_hit ?_ | refine JE.blk_miss rfl ?_ | refine JE.then_ret ?_ | refine JE.blk_ret ?_ | refine JC.label ?_ | refine JL.gon rfl rfl ?_ | refine JL.gskip rfl rfl rfl rfl ?_ | refine JL.gskipU rfl rfl rfl rfl ?_)
    refine JC.cond rfl (fun _ => ?_) (fun h => by cases h)
    repeat (first | refine JL.q (by first | (apply OQ.move; exact rfl) | (apply OQ.assign; exact rfl) | (apply OQ.len; exact rfl; exact rfl) | (apply OQ.addN; exact rfl; exact rfl; exact (by (try simp only []); omega)) | (apply OQ.subN; exact rfl; exact rfl; exact (by (try simp only []); omega); exact (by (try simp only []); omega)) | (apply OQ.lssN; exact rfl; exact rfl) | (apply OQ.fld; exact rfl; exact rfl; exact rfl; exact (by decide); exact rfl)) rfl ?_ | refine JC.seq ?_ | refine JC.region ?_ | refine JC.block ?_ | refine JC.skip ?_ | refine JC.exit ?_ | refine JL.nil ?_ | refine JE.next ?_ | refine JE.blk_normal ?_ | refine JE.then_exit ?_ | refine JE.blk_hit ?_ | refine JE.blk_miss rfl ?_ | refine JE.then_ret ?_ | refine JE.blk_ret ?_ | refine JC.label ?_ | refine JL.gon rfl rfl ?_ | refine JL.gskip rfl rfl rfl rfl ?_ | refine JL.gskipU rfl rfl rfl rfl ?_)
    refine JC.ret ?_
    repeat (first | refine JL.q (by first | (apply OQ.move; exact rfl) | (apply OQ.assign; exact rfl) | (apply OQ.len; exact rfl; exact rfl) | (apply OQ.addN; exact rfl; exact rfl; exact (by (try simp only []); omega)) | (apply OQ.subN; exact rfl; exact rfl; exact (by (try simp only []); omega); exact (by (try simp only []); omega)) | (apply OQ.lssN; exact rfl; exact rfl) | (apply OQ.fld; exact rfl; exact rfl; exact rfl; exact (by decide); exact rfl)) rfl ?_ | refine JC.seq ?_ | refine JC.region ?_ | refine JC.block ?_ | refine JC.skip ?_ | refine JC.exit ?_ | refine JL.nil ?_ | refine JE.next ?_ | refine JE.blk_normal ?_ | refine JE.then_exit ?_ | refine JE.blk_hit ?_ | refine JE.blk_miss rfl ?_ | refine JE.then_ret ?_ | refine JE.blk_ret ?_ | refine JC.label ?_ | refine JL.gon rfl rfl ?_ | refine JL.gskip rfl rfl rfl rfl ?_ | refine JL.gskipU rfl rfl rfl rfl ?_)
    exact JE.ret1 rfl (RV.tmp rfl) fun w' hw => ⟨rfl, Sl.Holds.weak hw (.nil _)⟩
end Go.Proofs.YtikhlddemdlmgaaDoor

/-
  Of no statement by itself: package slices at fields: Insert of one field at the end, or where there is room.
  Conditions: each theorem's own.
-/
namespace Go.Proofs.YtikhlddemdlmgaaDoor
set_option maxRecDepth 10000
open Sl Fld
theorem is_lap : IsLap Tryd.prog 28 22 4 := ⟨_, Tryd.func28, by kernel_rfl, by kernel_rfl, by kernel_rfl, by kernel_rfl⟩
theorem lo_slice {b lo len cap : Nat} (h : lo < cap) : Value.slice (if cap = lo then some ⟨b, 0, none⟩ else (some ⟨b, 0, none⟩ : Option Addr).map (·.add (lo * 2))) len (cap - lo) = .slice (some ⟨b, lo * 2, none⟩) len (cap - lo) := by
  rw [if_neg (by omega)]
  simp [add_off]
/-- where there is room: what stands from i on is copied one element further -/
theorem shift_own {e : TypeId} {l : List Pr} {cap i : Nat} (hi : i < l.length) (hr : l.length + 1 ≤ cap) : ∀ o, Own e 2 l.length cap (l.flatMap pc) o → ∃ r te, o = .cells (List.toArray r) te (0, 0) ∧ (i + 1) * 2 + (l.length - i) * 2 ≤ r.length ∧ Own e 2 (l.length + 1) cap ((l.take (i + 1) ++ l.drop i).flatMap pc) (.cells (r.take ((i + 1) * 2) ++ (l.drop i).flatMap pc ++ r.drop ((i + 1) * 2 + (l.length - i) * 2)).toArray te (0, 0)) := by
  rintro o ⟨sp, rfl, h1, h2, h3⟩
  have hsp : 2 ≤ sp.length := by rw [List.length_append] at h1; omega
  refine ⟨_, _, rfl, by rw [h1]; omega, sp.drop 2, ?_, ?_, ?_, hr⟩
  · congr 2
    have e1 : l.flatMap pc = (l.take (i + 1)).flatMap pc ++ (l.drop (i + 1)).flatMap pc := by rw [← List.flatMap_append, List.take_append_drop]
    have e2 : ((l.take (i + 1)).flatMap pc).length = (i + 1) * 2 := by rw [pc_len, List.length_take, Nat.min_eq_left (by omega)]; omega
    rw [List.flatMap_append]
    congr 1
    · congr 1
      rw [e1, List.append_assoc]
      exact List.take_left' e2
    · rw [show (i + 1) * 2 + (l.length - i) * 2 = (l.flatMap pc).length + 2 by rw [h2]; omega, ← List.drop_drop, List.drop_left]
  · simp only [List.length_append, pc_len, List.length_take, List.length_drop] at h1 h2 ⊢
    omega
  · simp only [List.length_append, pc_len, List.length_take, List.length_drop]
    omega
theorem put_own {e : TypeId} {l : List Pr} {cap i : Nat} {p : Pr} (hi : i < l.length) : ∀ o, Own e 2 (l.length + 1) cap ((l.take (i + 1) ++ l.drop i).flatMap pc) o → ∃ r te, o = .cells (List.toArray r) te (0, 0) ∧ i * 2 + 1 * 2 ≤ r.length ∧ Own e 2 (l.length + 1) cap ((l.take i ++ p :: l.drop i).flatMap pc) (.cells (r.take (i * 2) ++ pc p ++ r.drop (i * 2 + 1 * 2)).toArray te (0, 0)) := by
  rintro o ⟨sp, rfl, h1, h2, h3⟩
  have e0 : l.take (i + 1) ++ l.drop i = l.take i ++ (l.getD i ([], [])) :: l.drop i := by
    rw [List.getD_eq_getElem?_getD, List.getElem?_eq_getElem hi, List.take_succ_eq_append_getElem hi, List.append_assoc]; rfl
  have e1 : (l.take i).length = i := by rw [List.length_take, Nat.min_eq_left (by omega)]
  rw [e0] at h1 h2 ⊢
  have hf := flat_set (l.take i) (l.drop i) (l.getD i ([], [])) p
  rw [e1] at hf
  refine ⟨_, _, rfl, by rw [List.length_append, h2]; omega, sp, ?_, ?_, ?_, h3⟩
  · congr 2
    rw [← hf, List.take_append_of_le_length (by rw [h2]; omega), List.drop_append_of_le_length (by rw [h2]; omega)]
    simp
  · simp only [List.length_append, pc_len, List.length_cons] at h1 h2 ⊢
    exact h1
  · simp only [pc_len, List.length_append, List.length_cons] at h2 ⊢
    exact h2
theorem capO {e : TypeId} {k cap : Nat} {xs : List Value} : ∀ o, Own e 2 k cap xs o → k ≤ cap := fun _ ⟨_, _, _, _, h⟩ => h
set_option maxHeartbeats 16000000 in
theorem ins_end (q : Acc) (l : List Pr) (p : Pr) (bl : Nat) (w : World) (h : Holds w (keys (accP 46 q l)) (accP 46 q l ++ [⟨bl, Row 46 (pc p), false⟩]) w) (hq : q = none → l = []) (hl : l.length ≤ 1000000) :
    Calls Tryd.prog 20 [accV q l.length, N l.length, .slice (some ⟨bl, 0, none⟩) 1 1].toArray w fun e w' => ∃ r : Nat × Nat, e = .returned (accV (some r) (l ++ [p]).length) ∧ Holds w (keys (accP 46 q l)) (accP 46 (some r) (l ++ [p])) w' := by
  refine enter (n := 95) Tryd.func20 rfl rfl rfl h ?_
  have h1 : decide (((1 : Nat) : Int) = ((0 : Nat) : Int)) = false := rfl
  have h2 : decide (((l.length : Nat) : Int) = ((l.length : Nat) : Int)) = true := decide_eq_true rfl
  have hlen : (l ++ [p]).length = l.length + 1 := List.length_append
  cases q with
  | none =>
    obtain rfl := hq rfl
    have h2 : decide (((0 : Nat) : Int) = ((0 : Nat) : Int)) = true := rfl
    repeat (first | refine JL.q (by first | (apply OQ.slS_lo (ad := none) (len := 0) (cap := 0) (lo := 0); exact Tryd.underlying22; exact fieldS; exact rfl; exact rfl; exact (Nat.le_refl _)) | (apply OQ.len; exact Tryd.underlying22; exact rfl) | (apply OQ.eqB (b := 0); exact rfl; exact rfl; exact h1) | (apply OQ.move; exact rfl) | (apply OQ.assign; exact rfl) | (apply OQ.len; exact rfl; exact rfl) | (apply OQ.addN; exact rfl; exact rfl; exact (by (try simp only []); omega)) | (apply OQ.subN; exact rfl; exact rfl; exact (by (try simp only []); omega); exact (by (try simp only []); omega)) | (apply OQ.lssN; exact rfl; exact rfl) | (apply OQ.fld; exact rfl; exact rfl; exact rfl; exact (by decide); exact rfl)) rfl ?_ | refine JC.seq ?_ | refine JC.region ?_ | refine JC.block ?_ | refine JC.skip ?_ | refine JC.exit ?_ | refine JL.nil ?_ | refine JE.next ?_ | refine JE.blk_normal ?_ | refine JE.then_exit ?_ | refine JE.blk_hit ?_ | refine JE.blk_miss rfl ?_ | refine JE.then_ret ?_ | refine JE.blk_ret ?_ | refine JC.label ?_ | refine JL.gon rfl rfl ?_ | refine JL.gskip rfl rfl rfl rfl ?_ | refine JL.gskipU rfl rfl rfl rfl ?_)
    refine JC.cond rfl (fun h => by cases h) (fun _ => ?_)
    repeat (first | refine JL.q (by first | (apply OQ.len; exact Tryd.underlying22; exact rfl) | (apply OQ.eqB (a := ((0 : Nat) : Int)) (b := ((0 : Nat) : Int)); exact rfl; exact rfl; exact h2) | (apply OQ.move; exact rfl) | (apply OQ.assign; exact rfl) | (apply OQ.len; exact rfl; exact rfl) | (apply OQ.addN; exact rfl; exact rfl; exact (by (try simp only []); omega)) | (apply OQ.subN; exact rfl; exact rfl; exact (by (try simp only []); omega); exact (by (try simp only []); omega)) | (apply OQ.lssN; exact rfl; exact rfl) | (apply OQ.fld; exact rfl; exact rfl; exact rfl; exact (by decide); exact rfl)) rfl ?_ | refine JC.seq ?_ | refine JC.region ?_ | refine JC.block ?_ | refine JC.skip ?_ | refine JC.exit ?_ | refine JL.nil ?_ | refine JE.next ?_ | refine JE.blk_normal ?_ | refine JE.then_exit ?_ | refine JE.blk_hit ?_ | refine JE.blk_miss rfl ?_ | refine JE.then_ret ?_ | refine JE.blk_ret ?_ | refine JC.label ?_ | refine JL.gon rfl rfl ?_ | refine JL.gskip rfl rfl rfl rfl ?_ | refine JL.gskipU rfl rfl rfl rfl ?_)
    refine JC.cond rfl (fun _ => ?_) (fun h => by cases h)
    repeat (first | refine JL.q (by first | (apply OQ.move; exact rfl) | (apply OQ.assign; exact rfl) | (apply OQ.len; exact rfl; exact rfl) | (apply OQ.addN; exact rfl; exact rfl; exact (by (try simp only []); omega)) | (apply OQ.subN; exact rfl; exact rfl; exact (by (try simp only []); omega); exact (by (try simp only []); omega)) | (apply OQ.lssN; exact rfl; exact rfl) | (apply OQ.fld; exact rfl; exact rfl; exact rfl; exact (by decide); exact rfl)) rfl ?_ | refine JC.seq ?_ | refine JC.region ?_ | refine JC.block ?_ | refine JC.skip ?_ | refine JC.exit ?_ | refine JL.nil ?_ | refine JE.next ?_ | refine JE.blk_normal ?_ | refine JE.then_exit ?_ | refine JE.blk_hit ?_ | refine JE.blk_miss rfl ?_ | refine JE.then_ret ?_ | refine JE.blk_ret ?_ | refine JC.label ?_ | refine JL.gon rfl rfl ?_ | refine JL.gskip rfl rfl rfl rfl ?_ | refine JL.gskipU rfl rfl rfl rfl ?_)
    refine JL.append_nil (cs := pc p) (m := 1) Tryd.underlying22 fieldI rfl rfl rfl (fun w' hw' => by obtain ⟨o, ho, hA⟩ := hw'.get (b := bl) (A := Row 46 (pc p)) (wr := false) .here; exact Reads.block ho (Row.all _ hA)) (by decide) rfl (by decide) (by decide) (by decide) rfl fun b' cap' _ => ?_
    repeat (first | refine JL.q (by first | (apply OQ.move; exact rfl) | (apply OQ.assign; exact rfl) | (apply OQ.len; exact rfl; exact rfl) | (apply OQ.addN; exact rfl; exact rfl; exact (by (try simp only []); omega)) | (apply OQ.subN; exact rfl; exact rfl; exact (by (try simp only []); omega); exact (by (try simp only []); omega)) | (apply OQ.lssN; exact rfl; exact rfl) | (apply OQ.fld; exact rfl; exact rfl; exact rfl; exact (by decide); exact rfl)) rfl ?_ | refine JC.seq ?_ | refine JC.region ?_ | refine JC.block ?_ | refine JC.skip ?_ | refine JC.exit ?_ | refine JL.nil ?_ | refine JE.next ?_ | refine JE.blk_normal ?_ | refine JE.then_exit ?_ | refine JE.blk_hit ?_ | refine JE.blk_miss rfl ?_ | refine JE.then_ret ?_ | refine JE.blk_ret ?_ | refine JC.label ?_ | refine JL.gon rfl rfl ?_ | refine JL.gskip rfl rfl rfl rfl ?_ | refine JL.gskipU rfl rfl rfl rfl ?_)
    refine JC.ret ?_
    repeat (first | refine JL.q (by first | (apply OQ.move; exact rfl) | (apply OQ.assign; exact rfl) | (apply OQ.len; exact rfl; exact rfl) | (apply OQ.addN; exact rfl; exact rfl; exact (by (try simp only []); omega)) | (apply OQ.subN; exact rfl; exact rfl; exact (by (try simp only []); omega); exact (by (try simp only []); omega)) | (apply OQ.lssN; exact rfl; exact rfl) | (apply OQ.fld; exact rfl; exact rfl; exact rfl; exact (by decide); exact rfl)) rfl ?_ | refine JC.seq ?_ | refine JC.region ?_ | refine JC.block ?_ | refine JC.skip ?_ | refine JC.exit ?_ | refine JL.nil ?_ | refine JE.next ?_ | refine JE.blk_normal ?_ | refine JE.then_exit ?_ | refine JE.blk_hit ?_ | refine JE.blk_miss rfl ?_ | refine JE.then_ret ?_ | refine JE.blk_ret ?_ | refine JC.label ?_ | refine JL.gon rfl rfl ?_ | refine JL.gskip rfl rfl rfl rfl ?_ | refine JL.gskipU rfl rfl rfl rfl ?_)
    exact JE.ret1 rfl (RV.tmp rfl) fun w' hw => ⟨(b', cap'), rfl, Sl.Holds.weak hw (.keep _ _ _ _ _ _ (fun o h => by simpa using h) (.nil _))⟩
  | some r =>
    obtain ⟨b, cap⟩ := r
    repeat (first | refine JL.q (by first | (apply OQ.slS_lo (ad := some ⟨b, 0, none⟩) (len := l.length) (cap := cap) (lo := l.length); exact Tryd.underlying22; exact fieldS; exact rfl; exact rfl; exact (Nat.le_refl _)) | (apply OQ.len; exact Tryd.underlying22; exact rfl) | (apply OQ.eqB (b := 0); exact rfl; exact rfl; exact h1) | (apply OQ.move; exact rfl) | (apply OQ.assign; exact rfl) | (apply OQ.len; exact rfl; exact rfl) | (apply OQ.addN; exact rfl; exact rfl; exact (by (try simp only []); omega)) | (apply OQ.subN; exact rfl; exact rfl; exact (by (try simp only []); omega); exact (by (try simp only []); omega)) | (apply OQ.lssN; exact rfl; exact rfl) | (apply OQ.fld; exact rfl; exact rfl; exact rfl; exact (by decide); exact rfl)) rfl ?_ | refine JC.seq ?_ | refine JC.region ?_ | refine JC.block ?_ | refine JC.skip ?_ | refine JC.exit ?_ | refine JL.nil ?_ | refine JE.next ?_ | refine JE.blk_normal ?_ | refine JE.then_exit ?_ | refine JE.blk_hit ?_ | refine JE.blk_miss rfl ?_ | refine JE.then_ret ?_ | refine JE.blk_ret ?_ | refine JC.label ?_ | refine JL.gon rfl rfl ?_ | refine JL.gskip rfl rfl rfl rfl ?_ | refine JL.gskipU rfl rfl rfl rfl ?_)
    refine JC.cond rfl (fun h => by cases h) (fun _ => ?_)
    repeat (first | refine JL.q (by first | (apply OQ.len; exact Tryd.underlying22; exact rfl) | (apply OQ.eqB (a := (l.length : Int)) (b := (l.length : Int)); exact rfl; exact rfl; exact h2) | (apply OQ.move; exact rfl) | (apply OQ.assign; exact rfl) | (apply OQ.len; exact rfl; exact rfl) | (apply OQ.addN; exact rfl; exact rfl; exact (by (try simp only []); omega)) | (apply OQ.subN; exact rfl; exact rfl; exact (by (try simp only []); omega); exact (by (try simp only []); omega)) | (apply OQ.lssN; exact rfl; exact rfl) | (apply OQ.fld; exact rfl; exact rfl; exact rfl; exact (by decide); exact rfl)) rfl ?_ | refine JC.seq ?_ | refine JC.region ?_ | refine JC.block ?_ | refine JC.skip ?_ | refine JC.exit ?_ | refine JL.nil ?_ | refine JE.next ?_ | refine JE.blk_normal ?_ | refine JE.then_exit ?_ | refine JE.blk_hit ?_ | refine JE.blk_miss rfl ?_ | refine JE.then_ret ?_ | refine JE.blk_ret ?_ | refine JC.label ?_ | refine JL.gon rfl rfl ?_ | refine JL.gskip rfl rfl rfl rfl ?_ | refine JL.gskipU rfl rfl rfl rfl ?_)
    refine JC.cond rfl (fun _ => ?_) (fun h => by cases h)
    repeat (first | refine JL.q (by first | (apply OQ.move; exact rfl) | (apply OQ.assign; exact rfl) | (apply OQ.len; exact rfl; exact rfl) | (apply OQ.addN; exact rfl; exact rfl; exact (by (try simp only []); omega)) | (apply OQ.subN; exact rfl; exact rfl; exact (by (try simp only []); omega); exact (by (try simp only []); omega)) | (apply OQ.lssN; exact rfl; exact rfl) | (apply OQ.fld; exact rfl; exact rfl; exact rfl; exact (by decide); exact rfl)) rfl ?_ | refine JC.seq ?_ | refine JC.region ?_ | refine JC.block ?_ | refine JC.skip ?_ | refine JC.exit ?_ | refine JL.nil ?_ | refine JE.next ?_ | refine JE.blk_normal ?_ | refine JE.then_exit ?_ | refine JE.blk_hit ?_ | refine JE.blk_miss rfl ?_ | refine JE.then_ret ?_ | refine JE.blk_ret ?_ | refine JC.label ?_ | refine JL.gon rfl rfl ?_ | refine JL.gskip rfl rfl rfl rfl ?_ | refine JL.gskipU rfl rfl rfl rfl ?_)
    refine JL.append (cs := pc p) (m := 1) (b := b) (cap := cap) (k := l.length) (xs := l.flatMap pc) (fun b' cap' => [⟨b', Own 46 2 (l.length + 1) cap' (l.flatMap pc ++ pc p), true⟩, ⟨bl, Row 46 (pc p), false⟩]) Tryd.underlying22 fieldI rfl rfl (by intro _ _; repeat (first | exact Repl.here | apply Repl.there)) rfl (fun w' hw' => by obtain ⟨o, ho, hA⟩ := hw'.get (b := bl) (A := Row 46 (pc p)) (wr := false) (.there .here); exact Reads.block ho (Row.all _ hA)) (pc_one p) rfl (by decide) (by omega) (by omega) rfl fun b' cap' => ?_
    repeat (first | refine JL.q (by first | (apply OQ.move; exact rfl) | (apply OQ.assign; exact rfl) | (apply OQ.len; exact rfl; exact rfl) | (apply OQ.addN; exact rfl; exact rfl; exact (by (try simp only []); omega)) | (apply OQ.subN; exact rfl; exact rfl; exact (by (try simp only []); omega); exact (by (try simp only []); omega)) | (apply OQ.lssN; exact rfl; exact rfl) | (apply OQ.fld; exact rfl; exact rfl; exact rfl; exact (by decide); exact rfl)) rfl ?_ | refine JC.seq ?_ | refine JC.region ?_ | refine JC.block ?_ | refine JC.skip ?_ | refine JC.exit ?_ | refine JL.nil ?_ | refine JE.next ?_ | refine JE.blk_normal ?_ | refine JE.then_exit ?_ | refine JE.blk_hit ?_ | refine JE.blk_miss rfl ?_ | refine JE.then_ret ?_ | refine JE.blk_ret ?_ | refine JC.label ?_ | refine JL.gon rfl rfl ?_ | refine JL.gskip rfl rfl rfl rfl ?_ | refine JL.gskipU rfl rfl rfl rfl ?_)
    refine JC.ret ?_
    repeat (first | refine JL.q (by first | (apply OQ.move; exact rfl) | (apply OQ.assign; exact rfl) | (apply OQ.len; exact rfl; exact rfl) | (apply OQ.addN; exact rfl; exact rfl; exact (by (try simp only []); omega)) | (apply OQ.subN; exact rfl; exact rfl; exact (by (try simp only []); omega); exact (by (try simp only []); omega)) | (apply OQ.lssN; exact rfl; exact rfl) | (apply OQ.fld; exact rfl; exact rfl; exact rfl; exact (by decide); exact rfl)) rfl ?_ | refine JC.seq ?_ | refine JC.region ?_ | refine JC.block ?_ | refine JC.skip ?_ | refine JC.exit ?_ | refine JL.nil ?_ | refine JE.next ?_ | refine JE.blk_normal ?_ | refine JE.then_exit ?_ | refine JE.blk_hit ?_ | refine JE.blk_miss rfl ?_ | refine JE.then_ret ?_ | refine JE.blk_ret ?_ | refine JC.label ?_ | refine JL.gon rfl rfl ?_ | refine JL.gskip rfl rfl rfl rfl ?_ | refine JL.gskipU rfl rfl rfl rfl ?_)
    refine JE.ret1 rfl (RV.tmp rfl) fun w' hw => ⟨(b', cap'), by rw [hlen]; rfl, Sl.Holds.weak hw (.keep _ _ _ _ _ _ (fun o h => ?_) (.nil _))⟩
    show Own _ 2 (l ++ [p]).length cap' ((l ++ [p]).flatMap pc) o
    rw [hlen, List.flatMap_append]
    simpa using h
set_option maxHeartbeats 16000000 in
theorem ins_room (b cap : Nat) (l : List Pr) (p : Pr) (i bl : Nat) (w : World) (h : Holds w [b] [⟨b, Own 46 2 l.length cap (l.flatMap pc), true⟩, ⟨bl, Row 46 (pc p), false⟩] w) (hi : i < l.length) (hr : l.length + 1 ≤ cap) (hl : l.length ≤ 1000000) :
    Calls Tryd.prog 20 [.slice (some ⟨b, 0, none⟩) l.length cap, N i, .slice (some ⟨bl, 0, none⟩) 1 1].toArray w fun e w' => e = .returned (.slice (some ⟨b, 0, none⟩) (l.length + 1) cap) ∧ Holds w [b] [⟨b, Own 46 2 (l.length + 1) cap ((l.take i ++ p :: l.drop i).flatMap pc), true⟩] w' := by
  refine enter (n := 95) Tryd.func20 rfl rfl rfl h ?_
  have h1 : decide (((1 : Nat) : Int) = ((0 : Nat) : Int)) = false := rfl
  have h2 : decide ((i : Int) = ((l.length : Nat) : Int)) = false := decide_eq_false (by omega)
  have h3 : decide ((cap : Int) < ((l.length + 1 : Nat) : Int)) = false := decide_eq_false (by omega)
  repeat (first | refine JL.q (by first | (apply OQ.slS_lo (ad := some ⟨b, 0, none⟩) (len := l.length) (cap := cap) (lo := i); exact Tryd.underlying22; exact fieldS; exact rfl; exact rfl; exact (by omega)) | (apply OQ.len; exact Tryd.underlying22; exact rfl) | (apply OQ.eqB (b := 0); exact rfl; exact rfl; exact h1) | (apply OQ.move; exact rfl) | (apply OQ.assign; exact rfl) | (apply OQ.len; exact rfl; exact rfl) | (apply OQ.addN; exact rfl; exact rfl; exact (by (try simp only []); omega)) | (apply OQ.subN; exact rfl; exact rfl; exact (by (try simp only []); omega); exact (by (try simp only []); omega)) | (apply OQ.lssN; exact rfl; exact rfl) | (apply OQ.fld; exact rfl; exact rfl; exact rfl; exact (by decide); exact rfl)) rfl ?_ | refine JC.seq ?_ | refine JC.region ?_ | refine JC.block ?_ | refine JC.skip ?_ | refine JC.exit ?_ | refine JL.nil ?_ | refine JE.next ?_ | refine JE.blk_normal ?_ | refine JE.then_exit ?_ | refine JE.blk_hit ?_ | refine JE.blk_miss rfl ?_ | refine JE.then_ret ?_ | refine JE.blk_ret ?_ | refine JC.label ?_ | refine JL.gon rfl rfl ?_ | refine JL.gskip rfl rfl rfl rfl ?_ | refine JL.gskipU rfl rfl rfl rfl ?_)
  refine JC.cond rfl (fun h => by cases h) (fun _ => ?_)
  repeat (first | refine JL.q (by first | (apply OQ.len; exact Tryd.underlying22; exact rfl) | (apply OQ.eqB (a := (i : Int)) (b := (l.length : Int)); exact rfl; exact rfl; exact h2) | (apply OQ.move; exact rfl) | (apply OQ.assign; exact rfl) | (apply OQ.len; exact rfl; exact rfl) | (apply OQ.addN; exact rfl; exact rfl; exact (by (try simp only []); omega)) | (apply OQ.subN; exact rfl; exact rfl; exact (by (try simp only []); omega); exact (by (try simp only []); omega)) | (apply OQ.lssN; exact rfl; exact rfl) | (apply OQ.fld; exact rfl; exact rfl; exact rfl; exact (by decide); exact rfl)) rfl ?_ | refine JC.seq ?_ | refine JC.region ?_ | refine JC.block ?_ | refine JC.skip ?_ | refine JC.exit ?_ | refine JL.nil ?_ | refine JE.next ?_ | refine JE.blk_normal ?_ | refine JE.then_exit ?_ | refine JE.blk_hit ?_ | refine JE.blk_miss rfl ?_ | refine JE.then_ret ?_ | refine JE.blk_ret ?_ | refine JC.label ?_ | refine JL.gon rfl rfl ?_ | refine JL.gskip rfl rfl rfl rfl ?_ | refine JL.gskipU rfl rfl rfl rfl ?_)
  refine JC.cond rfl (fun h => by cases h) (fun _ => ?_)
  repeat (first | refine JL.q (by first | (apply OQ.capS; exact Tryd.underlying22; exact rfl) | (apply OQ.gtrB (a := ((l.length + 1 : Nat) : Int)) (b := (cap : Int)); exact rfl; exact rfl; exact h3) | (apply OQ.move; exact rfl) | (apply OQ.assign; exact rfl) | (apply OQ.len; exact rfl; exact rfl) | (apply OQ.addN; exact rfl; exact rfl; exact (by (try simp only []); omega)) | (apply OQ.subN; exact rfl; exact rfl; exact (by (try simp only []); omega); exact (by (try simp only []); omega)) | (apply OQ.lssN; exact rfl; exact rfl) | (apply OQ.fld; exact rfl; exact rfl; exact rfl; exact (by decide); exact rfl)) rfl ?_ | refine JC.seq ?_ | refine JC.region ?_ | refine JC.block ?_ | refine JC.skip ?_ | refine JC.exit ?_ | refine JL.nil ?_ | refine JE.next ?_ | refine JE.blk_normal ?_ | refine JE.then_exit ?_ | refine JE.blk_hit ?_ | refine JE.blk_miss rfl ?_ | refine JE.then_ret ?_ | refine JE.blk_ret ?_ | refine JC.label ?_ | refine JL.gon rfl rfl ?_ | refine JL.gskip rfl rfl rfl rfl ?_ | refine JL.gskipU rfl rfl rfl rfl ?_)
  refine JC.cond rfl (fun h => by cases h) (fun _ => ?_)
  have hne : ∀ w', Holds w [b] [⟨b, Own 46 2 l.length cap (l.flatMap pc), true⟩, ⟨bl, Row 46 (pc p), false⟩] w' → bl ≠ b := fun w' hw' e => by
    have := hw'.nodup
    simp [e] at this
  repeat (first | refine JL.q (by first | (apply OQ.to; exact (OQ.slS_hi (ad := some ⟨b, 0, none⟩) (len := l.length) (cap := cap) (hi := l.length + 1) Tryd.underlying22 fieldS rfl rfl hr); exact hi_slice) | (apply OQ.to; exact (OQ.slS_lo (ad := some ⟨b, 0, none⟩) (len := l.length + 1) (cap := cap) (lo := i + 1) Tryd.underlying22 fieldS rfl rfl (by omega)); exact (lo_slice (by omega))) | (apply OQ.lap (b1 := bl) (b2 := b); exact is_lap; exact Tryd.underlying22; exact fieldS; exact rfl; exact rfl; exact (.there .here); exact .here; exact (fun o h => ⟨_, _, h⟩); exact (fun o ⟨sp, h, k1, k2, k3⟩ => ⟨_, _, h, by rw [List.size_toArray, k1]; omega⟩); exact hne) | (apply OQ.not; exact rfl) | (apply OQ.move; exact rfl) | (apply OQ.assign; exact rfl) | (apply OQ.len; exact rfl; exact rfl) | (apply OQ.addN; exact rfl; exact rfl; exact (by (try simp only []); omega)) | (apply OQ.subN; exact rfl; exact rfl; exact (by (try simp only []); omega); exact (by (try simp only []); omega)) | (apply OQ.lssN; exact rfl; exact rfl) | (apply OQ.fld; exact rfl; exact rfl; exact rfl; exact (by decide); exact rfl)) rfl ?_ | refine JC.seq ?_ | refine JC.region ?_ | refine JC.block ?_ | refine JC.skip ?_ | refine JC.exit ?_ | refine JL.nil ?_ | refine JE.next ?_ | refine JE.blk_normal ?_ | refine JE.then_exit ?_ | refine JE.blk_hit ?_ | refine JE.blk_miss rfl ?_ | refine JE.then_ret ?_ | refine JE.blk_ret ?_ | refine JC.label ?_ | refine JL.gon rfl rfl ?_ | refine JL.gskip rfl rfl rfl rfl ?_ | refine JL.gskipU rfl rfl rfl rfl ?_)
  refine JC.cond rfl (fun _ => ?_) (fun h => by cases h)
  refine JC.seq (JC.tail 8 mixT (by kernel_rfl) ?_)
  repeat (refine JQ.q (by first | (apply OQ.to; exact (OQ.slS_lo (ad := some ⟨b, 0, none⟩) (len := l.length + 1) (cap := cap) (lo := i + 1) Tryd.underlying22 fieldS rfl rfl (by omega)); exact (lo_slice (by omega))) | (apply OQ.to; exact (OQ.slS_lo (ad := some ⟨b, 0, none⟩) (len := l.length + 1) (cap := cap) (lo := i) Tryd.underlying22 fieldS rfl rfl (by omega)); exact (lo_slice (by omega))) | (apply OQ.move; exact rfl) | (apply OQ.assign; exact rfl) | (apply OQ.len; exact rfl; exact rfl) | (apply OQ.addN; exact rfl; exact rfl; exact (by (try simp only []); omega)) | (apply OQ.subN; exact rfl; exact rfl; exact (by (try simp only []); omega); exact (by (try simp only []); omega)) | (apply OQ.lssN; exact rfl; exact rfl) | (apply OQ.fld; exact rfl; exact rfl; exact rfl; exact (by decide); exact rfl)) rfl ?_)
  refine JQ.nil_tail ?_
  refine JL.copyO (cs := (l.drop i).flatMap pc) (m := l.length - i) Tryd.underlying22 fieldS rfl rfl .here (by omega) (by rw [pc_len, List.length_drop]; omega) (fun w' hw' => ?_) (fun v hv => by obtain ⟨p, _, hp⟩ := List.mem_flatMap.1 hv; exact pc_one p v hp) (shift_own hi hr) rfl ?_
  · obtain ⟨o, ho, sp, rfl, k1, k2, k3⟩ := hw'.get (b := b) (A := Own 46 2 l.length cap (l.flatMap pc)) (wr := true) .here
    refine Reads.block ho ⟨_, _, _, rfl, fun u hu => ?_⟩
    have e1 : l.flatMap pc = (l.take i).flatMap pc ++ (l.drop i).flatMap pc := by rw [← List.flatMap_append, List.take_append_drop]
    have e2 : ((l.take i).flatMap pc).length = i * 2 := by rw [pc_len, List.length_take, Nat.min_eq_left (by omega)]; omega
    rw [e1, List.append_assoc, List.getElem?_toArray, List.getElem?_append_right (by omega), e2, Nat.add_sub_cancel_left, List.getElem?_append_left hu]
  repeat (first | refine JL.q (by first | (apply OQ.to; exact (OQ.slS_lo (ad := some ⟨b, 0, none⟩) (len := l.length + 1) (cap := cap) (lo := i) Tryd.underlying22 fieldS rfl rfl (by omega)); exact (lo_slice (by omega))) | (apply OQ.move; exact rfl) | (apply OQ.assign; exact rfl) | (apply OQ.len; exact rfl; exact rfl) | (apply OQ.addN; exact rfl; exact rfl; exact (by (try simp only []); omega)) | (apply OQ.subN; exact rfl; exact rfl; exact (by (try simp only []); omega); exact (by (try simp only []); omega)) | (apply OQ.lssN; exact rfl; exact rfl) | (apply OQ.fld; exact rfl; exact rfl; exact rfl; exact (by decide); exact rfl)) rfl ?_ | refine JQ.q (by first | (apply OQ.to; exact (OQ.slS_lo (ad := some ⟨b, 0, none⟩) (len := l.length + 1) (cap := cap) (lo := i) Tryd.underlying22 fieldS rfl rfl (by omega)); exact (lo_slice (by omega))) | (apply OQ.move; exact rfl) | (apply OQ.assign; exact rfl) | (apply OQ.len; exact rfl; exact rfl) | (apply OQ.addN; exact rfl; exact rfl; exact (by (try simp only []); omega)) | (apply OQ.subN; exact rfl; exact rfl; exact (by (try simp only []); omega); exact (by (try simp only []); omega)) | (apply OQ.lssN; exact rfl; exact rfl) | (apply OQ.fld; exact rfl; exact rfl; exact rfl; exact (by decide); exact rfl)) rfl ?_ | refine JC.seq ?_ | refine JC.region ?_ | refine JC.block ?_ | refine JC.skip ?_ | refine JC.exit ?_ | refine JL.nil ?_ | refine JQ.nil ?_ | refine JQ.nil_tail ?_ | refine JE.next ?_ | refine JE.blk_normal ?_ | refine JE.then_exit ?_ | refine JE.blk_hit ?_ | refine JE.blk_miss rfl ?_ | refine JE.then_ret ?_ | refine JE.blk_ret ?_ | refine JC.label ?_ | refine JL.gon rfl rfl ?_ | refine JQ.gon rfl rfl ?_ | refine JL.gskip rfl rfl rfl rfl ?_ | refine JQ.gskip rfl rfl rfl rfl ?_ | refine JL.gskipU rfl rfl rfl rfl ?_ | refine JQ.gskipU rfl rfl rfl rfl ?_)
  refine JL.copyO (cs := pc p) (m := 1) Tryd.underlying22 fieldS rfl rfl .here (by omega) rfl (fun w' hw' => by obtain ⟨o, ho, hA⟩ := hw'.get (b := bl) (A := Row 46 (pc p)) (wr := false) (.there .here); exact Reads.block ho (Row.all _ hA)) (pc_one p) (put_own hi) rfl ?_
  repeat (first | refine JL.q (by first | (apply OQ.move; exact rfl) | (apply OQ.assign; exact rfl) | (apply OQ.len; exact rfl; exact rfl) | (apply OQ.addN; exact rfl; exact rfl; exact (by (try simp only []); omega)) | (apply OQ.subN; exact rfl; exact rfl; exact (by (try simp only []); omega); exact (by (try simp only []); omega)) | (apply OQ.lssN; exact rfl; exact rfl) | (apply OQ.fld; exact rfl; exact rfl; exact rfl; exact (by decide); exact rfl)) rfl ?_ | refine JQ.q (by first | (apply OQ.move; exact rfl) | (apply OQ.assign; exact rfl) | (apply OQ.len; exact rfl; exact rfl) | (apply OQ.addN; exact rfl; exact rfl; exact (by (try simp only []); omega)) | (apply OQ.subN; exact rfl; exact rfl; exact (by (try simp only []); omega); exact (by (try simp only []); omega)) | (apply OQ.lssN; exact rfl; exact rfl) | (apply OQ.fld; exact rfl; exact rfl; exact rfl; exact (by decide); exact rfl)) rfl ?_ | refine JC.seq ?_ | refine JC.region ?_ | refine JC.block ?_ | refine JC.skip ?_ | refine JC.exit ?_ | refine JL.nil ?_ | refine JQ.nil ?_ | refine JQ.nil_tail ?_ | refine JE.next ?_ | refine JE.blk_normal ?_ | refine JE.then_exit ?_ | refine JE.blk_hit ?_ | refine JE.blk_miss rfl ?_ | refine JE.then_ret ?_ | refine JE.blk_ret ?_ | refine JC.label ?_ | refine JL.gon rfl rfl ?_ | refine JQ.gon rfl rfl ?_ | refine JL.gskip rfl rfl rfl rfl ?_ | refine JQ.gskip rfl rfl rfl rfl ?_ | refine JL.gskipU rfl rfl rfl rfl ?_ | refine JQ.gskipU rfl rfl rfl rfl ?_)
  refine JC.ret ?_
  repeat (first | refine JL.q (by first | (apply OQ.move; exact rfl) | (apply OQ.assign; exact rfl) | (apply OQ.len; exact rfl; exact rfl) | (apply OQ.addN; exact rfl; exact rfl; exact (by (try simp only []); omega)) | (apply OQ.subN; exact rfl; exact rfl; exact (by (try simp only []); omega); exact (by (try simp only []); omega)) | (apply OQ.lssN; exact rfl; exact rfl) | (apply OQ.fld; exact rfl; exact rfl; exact rfl; exact (by decide); exact rfl)) rfl ?_ | refine JQ.q (by first | (apply OQ.move; exact rfl) | (apply OQ.assign; exact rfl) | (apply OQ.len; exact rfl; exact rfl) | (apply OQ.addN; exact rfl; exact rfl; exact (by (try simp only []); omega)) | (apply OQ.subN; exact rfl; exact rfl; exact (by (try simp only []); omega); exact (by (try simp only []); omega)) | (apply OQ.lssN; exact rfl; exact rfl) | (apply OQ.fld; exact rfl; exact rfl; exact rfl; exact (by decide); exact rfl)) rfl ?_ | refine JC.seq ?_ | refine JC.region ?_ | refine JC.block ?_ | refine JC.skip ?_ | refine JC.exit ?_ | refine JL.nil ?_ | refine JQ.nil ?_ | refine JQ.nil_tail ?_ | refine JE.next ?_ | refine JE.blk_normal ?_ | refine JE.then_exit ?_ | refine JE.blk_hit ?_ | refine JE.blk_miss rfl ?_ | refine JE.then_ret ?_ | refine JE.blk_ret ?_ | refine JC.label ?_ | refine JL.gon rfl rfl ?_ | refine JQ.gon rfl rfl ?_ | refine JL.gskip rfl rfl rfl rfl ?_ | refine JQ.gskip rfl rfl rfl rfl ?_ | refine JL.gskipU rfl rfl rfl rfl ?_ | refine JQ.gskipU rfl rfl rfl rfl ?_)
  exact JE.ret1 rfl (RV.tmp rfl) fun w' hw => ⟨rfl, Sl.Holds.weak hw (.keep _ _ _ _ _ _ (fun _ h => h) (.nil _))⟩
theorem ins_any (q : Acc) (l : List Pr) (p : Pr) (i bl : Nat) (w : World) (h : Holds w (keys (accP 46 q l)) (accP 46 q l ++ [⟨bl, Row 46 (pc p), false⟩]) w) (hq : q = none → l = []) (hl : l.length ≤ 1000000) (hi : i = l.length ∨ (i < l.length ∧ ∀ r, q = some r → l.length + 1 ≤ r.2)) :
    Calls Tryd.prog 20 [accV q l.length, N i, .slice (some ⟨bl, 0, none⟩) 1 1].toArray w fun e w' => ∃ r : Nat × Nat, e = .returned (accV (some r) (l.take i ++ p :: l.drop i).length) ∧ Holds w (keys (accP 46 q l)) (accP 46 (some r) (l.take i ++ p :: l.drop i)) w' := by
  rcases hi with rfl | ⟨hi, hr⟩
  · rw [List.take_length, List.drop_length]
    exact ins_end q l p bl w h hq hl
  · cases q with
    | none => rw [hq rfl] at hi; cases hi
    | some r =>
      have hn : (l.take i ++ p :: l.drop i).length = l.length + 1 := by simp; omega
      refine (ins_room r.1 r.2 l p i bl w h hi (hr r rfl) hl).mono fun e w' ⟨h1, h2⟩ => ⟨r, ?_, ?_⟩
      · rw [hn]; exact h1
      · show Holds w [r.1] [⟨r.1, Own _ 2 (l.take i ++ p :: l.drop i).length r.2 _, true⟩] w'
        rw [hn]
        exact h2
end Go.Proofs.YtikhlddemdlmgaaDoor

/-
  Of no statement by itself: what despatchlaw11's great gives; what letter's Write owes for speaks (letWrite), and what speaks then gives.
  Conditions: each theorem's own.
-/
namespace Go.Proofs.YtikhlddemdlmgaaDoor
set_option maxRecDepth 10000
open Sl Fld
theorem goes_great : Goes Tryd.prog 6 := ⟨_, Tryd.func6, rfl, by kernel_rfl⟩
theorem goes_speaks11 : Goes Tryd.prog 5 := ⟨_, Tryd.func5, rfl, by kernel_rfl⟩
theorem goes_lwrite : Goes Tryd.prog 17 := ⟨_, Tryd.func17, rfl, by kernel_rfl⟩
theorem bsC : scal Tryd.prog 23 = true := by kernel_rfl
theorem fieldZ : zc Tryd.prog 46 = some [Z [], Z []] := by kernel_rfl
def low (p : Pr) : Bool := decide (p.2.length ≤ 9000)
def greatB (l : List Pr) (b : List Bt) : Bool := decide (300 < l.length) || decide (3000 < b.length) || !l.all low
theorem great_no {l : List Pr} {b : List Bt} (h : greatB l b = false) : l.length ≤ 300 ∧ b.length ≤ 3000 ∧ ∀ p ∈ l, p.2.length ≤ 9000 := by
  simp only [greatB, Bool.or_eq_false_iff, decide_eq_false_iff_not, Bool.not_eq_false'] at h
  exact ⟨by omega, by omega, fun p hp => of_decide_eq_true (List.all_eq_true.1 h.2 p hp)⟩
set_option maxHeartbeats 8000000 in
theorem great_any (f : Sl2) (s : Sl8) (w : World) (hf : f.ok w) (hz : small2 f) : Calls Tryd.prog 6 [.agg #[f.v, s.v]].toArray w fun e w' => e = .returned (.bool (greatB f.l s.l)) ∧ Ext w w' := by
  refine enter (n := 27) Tryd.func6 rfl rfl rfl (Holds.start w []) ?_
  repeat (first | refine JL.q (by first | (apply OQ.move; exact rfl) | (apply OQ.assign; exact rfl) | (apply OQ.len; exact rfl; exact rfl) | (apply OQ.addN; exact rfl; exact rfl; exact (by (try simp only []); omega)) | (apply OQ.subN; exact rfl; exact rfl; exact (by (try simp only []); omega); exact (by (try simp only []); omega)) | (apply OQ.lssN; exact rfl; exact rfl) | (apply OQ.fld; exact rfl; exact rfl; exact rfl; exact (by decide); exact rfl)) rfl ?_ | refine JC.seq ?_ | refine JC.region ?_ | refine JC.block ?_ | refine JC.skip ?_ | refine JC.exit ?_ | refine JL.nil ?_ | refine JE.next ?_ | refine JE.blk_normal ?_ | refine JE.then_exit ?_ | refine JE.blk_hit ?_ | refine JE.blk_miss rfl ?_ | refine JE.then_ret ?_ | refine JE.blk_ret ?_ | refine JC.label ?_ | refine JL.gon rfl rfl ?_ | refine JL.gskip rfl rfl rfl rfl ?_ | refine JL.gskipU rfl rfl rfl rfl ?_)
  refine JL.box (r := [f.v, s.v]) rfl rfl rfl fun b1 _ => ?_
  cases g0 : decide ((300 : Int) < (f.l.length : Int)) <;> cases g1 : decide ((3000 : Int) < (s.l.length : Int))
  all_goals (repeat (first | refine JL.q (by first | (apply OQ.load; exact fsC; exact rfl; exact .here; exact (Row.cell (v := f.v) rfl)) | (apply OQ.load; exact bsC; exact rfl; exact .here; exact (Row.cell (v := s.v) rfl)) | (apply OQ.len; exact Tryd.underlying22; exact rfl) | (apply OQ.len; exact Tryd.underlying23; exact rfl) | (apply OQ.gtrB (b := 300); exact rfl; exact rfl; exact g0) | (apply OQ.gtrB (b := 3000); exact rfl; exact rfl; exact g1) | (apply OQ.pick_t; exact rfl; exact rfl) | (apply OQ.pick_f; exact rfl; exact rfl) | (apply OQ.move; exact rfl) | (apply OQ.assign; exact rfl) | (apply OQ.len; exact rfl; exact rfl) | (apply OQ.addN; exact rfl; exact rfl; exact (by (try simp only []); omega)) | (apply OQ.subN; exact rfl; exact rfl; exact (by (try simp only []); omega); exact (by (try simp only []); omega)) | (apply OQ.lssN; exact rfl; exact rfl) | (apply OQ.fld; exact rfl; exact rfl; exact rfl; exact (by decide); exact rfl)) rfl ?_ | refine JC.seq ?_ | refine JC.region ?_ | refine JC.block ?_ | refine JC.skip ?_ | refine JC.exit ?_ | refine JL.nil ?_ | refine JE.next ?_ | refine JE.blk_normal ?_ | refine JE.then_exit ?_ | refine JE.blk_hit ?_ | refine JE.blk_miss rfl ?_ | refine JE.then_ret ?_ | refine JE.blk_ret ?_ | refine JC.label ?_ | refine JL.gon rfl rfl ?_ | refine JL.gskip rfl rfl rfl rfl ?_ | refine JL.gskipU rfl rfl rfl rfl ?_))
  all_goals refine JC.cond rfl (fun h => ?_) (fun h => ?_)
  all_goals first | (exfalso; revert h; decide) | skip
  all_goals clear h
  all_goals first
    | (have e : greatB f.l s.l = true := by
         unfold greatB
         first
           | (rw [decide_eq_true (p := 300 < f.l.length) (by have := of_decide_eq_true g0; omega)]; rfl)
           | (rw [decide_eq_true (p := 3000 < s.l.length) (by have := of_decide_eq_true g1; omega), Bool.or_true]; rfl)
       rw [e]
       (repeat (first | refine JL.q (by first | (apply OQ.move; exact rfl) | (apply OQ.assign; exact rfl) | (apply OQ.len; exact rfl; exact rfl) | (apply OQ.addN; exact rfl; exact rfl; exact (by (try simp only []); omega)) | (apply OQ.subN; exact rfl; exact rfl; exact (by (try simp only []); omega); exact (by (try simp only []); omega)) | (apply OQ.lssN; exact rfl; exact rfl) | (apply OQ.fld; exact rfl; exact rfl; exact rfl; exact (by decide); exact rfl)) rfl ?_ | refine JC.seq ?_ | refine JC.region ?_ | refine JC.block ?_ | refine JC.skip ?_ | refine JC.exit ?_ | refine JL.nil ?_ | refine JE.next ?_ | refine JE.blk_normal ?_ | refine JE.then_exit ?_ | refine JE.blk_hit ?_ | refine JE.blk_miss rfl ?_ | refine JE.then_ret ?_ | refine JE.blk_ret ?_ | refine JC.label ?_ | refine JL.gon rfl rfl ?_ | refine JL.gskip rfl rfl rfl rfl ?_ | refine JL.gskipU rfl rfl rfl rfl ?_))
       refine JC.ret ?_
       (repeat (first | refine JL.q (by first | (apply OQ.move; exact rfl) | (apply OQ.assign; exact rfl) | (apply OQ.len; exact rfl; exact rfl) | (apply OQ.addN; exact rfl; exact rfl; exact (by (try simp only []); omega)) | (apply OQ.subN; exact rfl; exact rfl; exact (by (try simp only []); omega); exact (by (try simp only []); omega)) | (apply OQ.lssN; exact rfl; exact rfl) | (apply OQ.fld; exact rfl; exact rfl; exact rfl; exact (by decide); exact rfl)) rfl ?_ | refine JC.seq ?_ | refine JC.region ?_ | refine JC.block ?_ | refine JC.skip ?_ | refine JC.exit ?_ | refine JL.nil ?_ | refine JE.next ?_ | refine JE.blk_normal ?_ | refine JE.then_exit ?_ | refine JE.blk_hit ?_ | refine JE.blk_miss rfl ?_ | refine JE.then_ret ?_ | refine JE.blk_ret ?_ | refine JC.label ?_ | refine JL.gon rfl rfl ?_ | refine JL.gskip rfl rfl rfl rfl ?_ | refine JL.gskipU rfl rfl rfl rfl ?_))
       exact JE.ret1 rfl (RV.tmp rfl) fun w' hw => ⟨rfl, hw.chg⟩)
    | skip
  have e0 : greatB f.l s.l = !f.l.all low := by
    unfold greatB
    rw [decide_eq_false (by have := of_decide_eq_false g0; omega), decide_eq_false (by have := of_decide_eq_false g1; omega)]
    rfl
  have hlen : f.l.length ≤ 300 := by have := of_decide_eq_false g0; omega
  rw [e0]
  clear e0 g0 g1
  repeat (first | refine JL.q (by first | (apply OQ.load; exact fsC; exact rfl; exact .here; exact (Row.cell (v := f.v) rfl)) | (apply OQ.len; exact Tryd.underlying22; exact rfl) | (apply OQ.move; exact rfl) | (apply OQ.assign; exact rfl) | (apply OQ.len; exact rfl; exact rfl) | (apply OQ.addN; exact rfl; exact rfl; exact (by (try simp only []); omega)) | (apply OQ.subN; exact rfl; exact rfl; exact (by (try simp only []); omega); exact (by (try simp only []); omega)) | (apply OQ.lssN; exact rfl; exact rfl) | (apply OQ.fld; exact rfl; exact rfl; exact rfl; exact (by decide); exact rfl)) rfl ?_ | refine JC.seq ?_ | refine JC.region ?_ | refine JC.block ?_ | refine JC.skip ?_ | refine JC.exit ?_ | refine JL.nil ?_ | refine JE.next ?_ | refine JE.blk_normal ?_ | refine JE.then_exit ?_ | refine JE.blk_hit ?_ | refine JE.blk_miss rfl ?_ | refine JE.then_ret ?_ | refine JE.blk_ret ?_ | refine JC.label ?_ | refine JL.gon rfl rfl ?_ | refine JL.gskip rfl rfl rfl rfl ?_ | refine JL.gskipU rfl rfl rfl rfl ?_)
  refine JC.loop (fun i : Nat => [(16, f.v), (17, N f.l.length), (18, N i)]) (fun _ => []) (fun i => f.l.length - i) (fun i => i ≤ f.l.length ∧ (f.l.take i).all low = true) 0 ⟨Nat.zero_le _, rfl⟩ (by repeat (first | exact SubE.nil | refine SubE.cons _ _ _ rfl ?_)) (.nil _) ?_
  rintro i ⟨hi, ht⟩
  repeat (first | refine JL.q (by first | (apply OQ.move; exact rfl) | (apply OQ.assign; exact rfl) | (apply OQ.len; exact rfl; exact rfl) | (apply OQ.addN; exact rfl; exact rfl; exact (by (try simp only []); omega)) | (apply OQ.subN; exact rfl; exact rfl; exact (by (try simp only []); omega); exact (by (try simp only []); omega)) | (apply OQ.lssN; exact rfl; exact rfl) | (apply OQ.fld; exact rfl; exact rfl; exact rfl; exact (by decide); exact rfl)) rfl ?_ | refine JC.seq ?_ | refine JC.region ?_ | refine JC.block ?_ | refine JC.skip ?_ | refine JC.exit ?_ | refine JL.nil ?_ | refine JE.next ?_ | refine JE.blk_normal ?_ | refine JE.then_exit ?_ | refine JE.blk_hit ?_ | refine JE.blk_miss rfl ?_ | refine JE.then_ret ?_ | refine JE.blk_ret ?_ | refine JC.label ?_ | refine JL.gon rfl rfl ?_ | refine JL.gskip rfl rfl rfl rfl ?_ | refine JL.gskipU rfl rfl rfl rfl ?_)
  refine JC.cond rfl (fun h => ?_) (fun h => ?_)
  · have hi' : i < f.l.length := of_decide_eq_true h
    clear h hi
    have hx := all_take low f.l ([], []) hi'
    have hbad := all_bad low f.l ([], []) hi'
    rw [ht, Bool.true_and] at hx
    obtain ⟨z1, z2⟩ := hz _ (mem_getD hi')
    obtain ⟨ba, ja, eA, la, ca1, ca2⟩ := hf.at hi'
    have vA : f.v = .slice (some ⟨ba, ja, none⟩) f.l.length f.cap := by rw [← eA]; rfl
    have cA := pair_cells ca1 ca2
    generalize f.l.getD i ([], []) = p at hx hbad z1 z2 ca1 ca2 cA
    rw [vA]
    repeat (first | refine JL.q (by first | (apply OQ.idxS; exact Tryd.underlying22; exact fieldS; exact rfl; exact rfl; exact hi') | (apply OQ.load_agg_old (cs := pc p); exact fieldA; exact rfl; exact fieldS; exact la; exact (by simp); exact cA) | (apply OQ.move; exact rfl) | (apply OQ.assign; exact rfl) | (apply OQ.len; exact rfl; exact rfl) | (apply OQ.addN; exact rfl; exact rfl; exact (by (try simp only []); omega)) | (apply OQ.subN; exact rfl; exact rfl; exact (by (try simp only []); omega); exact (by (try simp only []); omega)) | (apply OQ.lssN; exact rfl; exact rfl) | (apply OQ.fld; exact rfl; exact rfl; exact rfl; exact (by decide); exact rfl)) rfl ?_ | refine JC.seq ?_ | refine JC.region ?_ | refine JC.block ?_ | refine JC.skip ?_ | refine JC.exit ?_ | refine JL.nil ?_ | refine JE.next ?_ | refine JE.blk_normal ?_ | refine JE.then_exit ?_ | refine JE.blk_hit ?_ | refine JE.blk_miss rfl ?_ | refine JE.then_ret ?_ | refine JE.blk_ret ?_ | refine JC.label ?_ | refine JL.gon rfl rfl ?_ | refine JL.gskip rfl rfl rfl rfl ?_ | refine JL.gskipU rfl rfl rfl rfl ?_)
    refine JL.alloc fieldZ rfl fun b2 _ => ?_
    repeat (first | refine JL.q (by first | (apply OQ.move; exact rfl) | (apply OQ.assign; exact rfl) | (apply OQ.len; exact rfl; exact rfl) | (apply OQ.addN; exact rfl; exact rfl; exact (by (try simp only []); omega)) | (apply OQ.subN; exact rfl; exact rfl; exact (by (try simp only []); omega); exact (by (try simp only []); omega)) | (apply OQ.lssN; exact rfl; exact rfl) | (apply OQ.fld; exact rfl; exact rfl; exact rfl; exact (by decide); exact rfl)) rfl ?_ | refine JC.seq ?_ | refine JC.region ?_ | refine JC.block ?_ | refine JC.skip ?_ | refine JC.exit ?_ | refine JL.nil ?_ | refine JE.next ?_ | refine JE.blk_normal ?_ | refine JE.then_exit ?_ | refine JE.blk_hit ?_ | refine JE.blk_miss rfl ?_ | refine JE.then_ret ?_ | refine JE.blk_ret ?_ | refine JC.label ?_ | refine JL.gon rfl rfl ?_ | refine JL.gskip rfl rfl rfl rfl ?_ | refine JL.gskipU rfl rfl rfl rfl ?_)
    refine JL.store_all (cs := pc p) fieldS rfl rfl rfl rfl .here rfl ?_
    cases g2 : decide ((9000 : Int) < (p.2.length : Int))
    · have hlow : low p = true := decide_eq_true (by have := of_decide_eq_false g2; omega)
      (repeat (first | refine JL.q (by first | (apply OQ.load; exact strC; exact rfl; exact .here; exact (Row.cell (v := Z p.2) rfl)) | (apply OQ.lenS; exact Tryd.underlying9; exact rfl) | (apply OQ.gtrB (b := 9000); exact rfl; exact rfl; exact g2) | (apply OQ.move; exact rfl) | (apply OQ.assign; exact rfl) | (apply OQ.len; exact rfl; exact rfl) | (apply OQ.addN; exact rfl; exact rfl; exact (by (try simp only []); omega)) | (apply OQ.subN; exact rfl; exact rfl; exact (by (try simp only []); omega); exact (by (try simp only []); omega)) | (apply OQ.lssN; exact rfl; exact rfl) | (apply OQ.fld; exact rfl; exact rfl; exact rfl; exact (by decide); exact rfl)) rfl ?_ | refine JC.seq ?_ | refine JC.region ?_ | refine JC.block ?_ | refine JC.skip ?_ | refine JC.exit ?_ | refine JL.nil ?_ | refine JE.next ?_ | refine JE.blk_normal ?_ | refine JE.then_exit ?_ | refine JE.blk_hit ?_ | refine JE.blk_miss rfl ?_ | refine JE.then_ret ?_ | refine JE.blk_ret ?_ | refine JC.label ?_ | refine JL.gon rfl rfl ?_ | refine JL.gskip rfl rfl rfl rfl ?_ | refine JL.gskipU rfl rfl rfl rfl ?_))
      refine JC.cond rfl (fun h => by cases h) (fun _ => ?_)
      rw [← vA]
      repeat (first | refine JL.q (by first | (apply OQ.move; exact rfl) | (apply OQ.assign; exact rfl) | (apply OQ.len; exact rfl; exact rfl) | (apply OQ.addN; exact rfl; exact rfl; exact (by (try simp only []); omega)) | (apply OQ.subN; exact rfl; exact rfl; exact (by (try simp only []); omega); exact (by (try simp only []); omega)) | (apply OQ.lssN; exact rfl; exact rfl) | (apply OQ.fld; exact rfl; exact rfl; exact rfl; exact (by decide); exact rfl)) rfl ?_ | refine JC.seq ?_ | refine JC.region ?_ | refine JC.block ?_ | refine JC.skip ?_ | refine JC.exit ?_ | refine JL.nil ?_ | refine JE.next ?_ | refine JE.blk_normal ?_ | refine JE.then_exit ?_ | refine JE.blk_hit ?_ | refine JE.blk_miss rfl ?_ | refine JE.then_ret ?_ | refine JE.blk_ret ?_ | refine JC.label ?_ | refine JL.gon rfl rfl ?_ | refine JL.gskip rfl rfl rfl rfl ?_ | refine JL.gskipU rfl rfl rfl rfl ?_)
      exact JE.again (i := i) (i + 1) ⟨hi', by rw [hx, hlow]⟩ (by omega) (by repeat (first | exact SubE.nil | refine SubE.cons _ _ _ rfl ?_)) (.nil _)
    · have hlow : low p = false := decide_eq_false (by have := of_decide_eq_true g2; omega)
      rw [hbad hlow]
      (repeat (first | refine JL.q (by first | (apply OQ.load; exact strC; exact rfl; exact .here; exact (Row.cell (v := Z p.2) rfl)) | (apply OQ.lenS; exact Tryd.underlying9; exact rfl) | (apply OQ.gtrB (b := 9000); exact rfl; exact rfl; exact g2) | (apply OQ.move; exact rfl) | (apply OQ.assign; exact rfl) | (apply OQ.len; exact rfl; exact rfl) | (apply OQ.addN; exact rfl; exact rfl; exact (by (try simp only []); omega)) | (apply OQ.subN; exact rfl; exact rfl; exact (by (try simp only []); omega); exact (by (try simp only []); omega)) | (apply OQ.lssN; exact rfl; exact rfl) | (apply OQ.fld; exact rfl; exact rfl; exact rfl; exact (by decide); exact rfl)) rfl ?_ | refine JC.seq ?_ | refine JC.region ?_ | refine JC.block ?_ | refine JC.skip ?_ | refine JC.exit ?_ | refine JL.nil ?_ | refine JE.next ?_ | refine JE.blk_normal ?_ | refine JE.then_exit ?_ | refine JE.blk_hit ?_ | refine JE.blk_miss rfl ?_ | refine JE.then_ret ?_ | refine JE.blk_ret ?_ | refine JC.label ?_ | refine JL.gon rfl rfl ?_ | refine JL.gskip rfl rfl rfl rfl ?_ | refine JL.gskipU rfl rfl rfl rfl ?_))
      refine JC.cond rfl (fun _ => ?_) (fun h => by cases h)
      repeat (first | refine JL.q (by first | (apply OQ.move; exact rfl) | (apply OQ.assign; exact rfl) | (apply OQ.len; exact rfl; exact rfl) | (apply OQ.addN; exact rfl; exact rfl; exact (by (try simp only []); omega)) | (apply OQ.subN; exact rfl; exact rfl; exact (by (try simp only []); omega); exact (by (try simp only []); omega)) | (apply OQ.lssN; exact rfl; exact rfl) | (apply OQ.fld; exact rfl; exact rfl; exact rfl; exact (by decide); exact rfl)) rfl ?_ | refine JC.seq ?_ | refine JC.region ?_ | refine JC.block ?_ | refine JC.skip ?_ | refine JC.exit ?_ | refine JL.nil ?_ | refine JE.next ?_ | refine JE.blk_normal ?_ | refine JE.then_exit ?_ | refine JE.blk_hit ?_ | refine JE.blk_miss rfl ?_ | refine JE.then_ret ?_ | refine JE.blk_ret ?_ | refine JC.label ?_ | refine JL.gon rfl rfl ?_ | refine JL.gskip rfl rfl rfl rfl ?_ | refine JL.gskipU rfl rfl rfl rfl ?_)
      refine JC.ret ?_
      repeat (first | refine JL.q (by first | (apply OQ.move; exact rfl) | (apply OQ.assign; exact rfl) | (apply OQ.len; exact rfl; exact rfl) | (apply OQ.addN; exact rfl; exact rfl; exact (by (try simp only []); omega)) | (apply OQ.subN; exact rfl; exact rfl; exact (by (try simp only []); omega); exact (by (try simp only []); omega)) | (apply OQ.lssN; exact rfl; exact rfl) | (apply OQ.fld; exact rfl; exact rfl; exact rfl; exact (by decide); exact rfl)) rfl ?_ | refine JC.seq ?_ | refine JC.region ?_ | refine JC.block ?_ | refine JC.skip ?_ | refine JC.exit ?_ | refine JL.nil ?_ | refine JE.next ?_ | refine JE.blk_normal ?_ | refine JE.then_exit ?_ | refine JE.blk_hit ?_ | refine JE.blk_miss rfl ?_ | refine JE.then_ret ?_ | refine JE.blk_ret ?_ | refine JC.label ?_ | refine JL.gon rfl rfl ?_ | refine JL.gskip rfl rfl rfl rfl ?_ | refine JL.gskipU rfl rfl rfl rfl ?_)
      exact JE.ret1 rfl (RV.tmp rfl) fun w' hw => ⟨rfl, hw.chg⟩
  · have hi' : ¬ i < f.l.length := of_decide_eq_false h
    obtain rfl : i = f.l.length := by omega
    clear h hi hi'
    rw [List.take_length] at ht
    rw [ht]
    repeat (first | refine JL.q (by first | (apply OQ.move; exact rfl) | (apply OQ.assign; exact rfl) | (apply OQ.len; exact rfl; exact rfl) | (apply OQ.addN; exact rfl; exact rfl; exact (by (try simp only []); omega)) | (apply OQ.subN; exact rfl; exact rfl; exact (by (try simp only []); omega); exact (by (try simp only []); omega)) | (apply OQ.lssN; exact rfl; exact rfl) | (apply OQ.fld; exact rfl; exact rfl; exact rfl; exact (by decide); exact rfl)) rfl ?_ | refine JC.seq ?_ | refine JC.region ?_ | refine JC.block ?_ | refine JC.skip ?_ | refine JC.exit ?_ | refine JL.nil ?_ | refine JE.next ?_ | refine JE.blk_normal ?_ | refine JE.then_exit ?_ | refine JE.blk_hit ?_ | refine JE.blk_miss rfl ?_ | refine JE.then_ret ?_ | refine JE.blk_ret ?_ | refine JC.label ?_ | refine JL.gon rfl rfl ?_ | refine JL.gskip rfl rfl rfl rfl ?_ | refine JL.gskipU rfl rfl rfl rfl ?_)
    refine JC.ret ?_
    exact JE.ret1 rfl (RV.tmp rfl) fun w' hw => ⟨rfl, hw.chg⟩
end Go.Proofs.YtikhlddemdlmgaaDoor

/-
  Of no statement by itself: Slg's rule for regions whose order is open, with any relation between what an operation makes and what the one it stems from made.
  Conditions: the rule's own hypotheses.
-/
namespace Go.Proofs.YtikhlddemdlmgaaDoor
namespace Sl
variable {Y : Type}
structure GrowR (Y : Type) where
  E0 : Env
  N : Nat
  v : Nat → Y → Value
  M : Nat → Y → List Ent
  need : Nat → List (Nat × Nat)
  inp : Nat → List Nat
  eat : Nat → List Nat
  src : Nat → Option Nat
  E1 : Nat → Env
  R : Nat → Y → Y → Prop
/-- what is known at first of a slot that a later operation writes -/
def GrowR.okE1 (g : GrowR Y) (l : List Oper) (i : Nat) : Bool :=
  (g.E1 i).all fun p => (List.range l.length).all fun k => dstOf l k != some p.1 || (k != i && behindOf l k i)
def GrowR.okOp (g : GrowR Y) (l : List Oper) (i : Nat) (o : Oper) : Bool :=
  (((g.need i).all (fun p => behind o p.1 && dstOf l p.1 == some p.2) && srcOk o (g.src i)) && g.okE1 l i) &&
  ((g.inp i).all (fun j => decide (j < g.N) && (decide (l.length ≤ j) || behind o j)) &&
  ((g.eat i).all (fun j => (g.inp i).contains j) &&
  ((List.range l.length).all (fun k => k == i || (g.eat k).all fun j => !(g.inp i).contains j || behindOf l k i) &&
  (noDup (g.inp i) && (o.after.toList.all (fun e => !Region.binds .any e || decide (e.on < i)) && apartD l g.E0 i o.dst)))))
def GrowR.okFrom (g : GrowR Y) (l : List Oper) : Nat → List Oper → Bool
  | _, [] => true
  | i, o :: r => g.okOp l i o && g.okFrom l (i + 1) r
theorem GrowR.okFrom_at {g : GrowR Y} {l : List Oper} : ∀ {r : List Oper} {i : Nat}, g.okFrom l i r = true → ∀ {j o}, r[j]? = some o → g.okOp l (i + j) o = true
  | [], _, _, j, o, h => by simp at h
  | q :: r, i, hk, j, o, h => by
    simp only [GrowR.okFrom, Bool.and_eq_true] at hk
    cases j with
    | zero =>
      simp only [List.getElem?_cons_zero, Option.some.injEq] at h
      subst h
      exact hk.1
    | succ j =>
      have := GrowR.okFrom_at hk.2 (j := j) (o := o) (by simpa using h)
      rwa [show i + 1 + j = i + (j + 1) by omega] at this
def GrowR.Job (g : GrowR Y) (P : Program) (n : Nat) (w0 : World) (S : List Nat) (l : List Oper) (i : Nat) (o : Oper) : Prop :=
  ∀ (x : Nat → Y) (EF : Env) (MF : List Ent) (Q : Exit → Act → World → Prop),
    (∀ xi : Y, (∀ k, g.src i = some k → g.R i xi (x k)) → JE n w0 S Q .normal (slot o.dst (g.v i xi) ++ ((g.need i).map (fun p => (p.2, g.v p.1 (x p.1))) ++ (g.E0 ++ (g.E1 i ++ EF)))) (g.M i xi ++ (((g.inp i).filter fun j => !(g.eat i).contains j).flatMap (fun j => g.M j (x j)) ++ MF))) →
    JL P n w0 S l.toArray Q [o] ((g.need i).map (fun p => (p.2, g.v p.1 (x p.1))) ++ (g.E0 ++ (g.E1 i ++ EF))) ((g.inp i).flatMap (fun j => g.M j (x j)) ++ MF)
def GrowR.Jobs (g : GrowR Y) (P : Program) (n : Nat) (w0 : World) (S : List Nat) (l : List Oper) : Nat → List Oper → Prop
  | _, [] => True
  | i, o :: r => g.Job P n w0 S l i o ∧ g.Jobs P n w0 S l (i + 1) r
theorem GrowR.Jobs_at {g : GrowR Y} {P : Program} {n : Nat} {w0 : World} {S : List Nat} {l : List Oper} : ∀ {r : List Oper} {i : Nat}, g.Jobs P n w0 S l i r → ∀ {j o}, r[j]? = some o → g.Job P n w0 S l (i + j) o
  | [], _, _, j, o, h => by simp at h
  | q :: r, i, hk, j, o, h => by
    cases j with
    | zero =>
      simp only [List.getElem?_cons_zero, Option.some.injEq] at h
      subst h
      exact hk.1
    | succ j =>
      have := GrowR.Jobs_at hk.2 (j := j) (o := o) (by simpa using h)
      rwa [show i + 1 + j = i + (j + 1) by omega] at this

/-- which makings stand -/
def GrowR.live (g : GrowR Y) (m : Nat) (done : Array Bool) (j : Nat) : Prop := j < g.N ∧ (m ≤ j ∨ done.getD j false = true) ∧ ∀ k, done.getD k false = true → j ∉ g.eat k
structure GrowR.Inv (g : GrowR Y) (n : Nat) (w0 : World) (S : List Nat) (l : List Oper) (done : Array Bool) (x : Nat → Y) (a : Act) (w : World) : Prop where
  size : a.tmps.size = n
  defers : a.defers = []
  dsize : done.size = l.length
  base : ∀ p ∈ g.E0, a.tmps.getD p.1 undef = p.2
  first : ∀ j, j < l.length → done.getD j false = false → ∀ p ∈ g.E1 j, a.tmps.getD p.1 undef = p.2
  vals : ∀ j d, done.getD j false = true → dstOf l j = some d → a.tmps.getD d undef = g.v j (x j)
  rel : ∀ j k, done.getD j false = true → g.src j = some k → g.R j (x j) (x k)
  down : ∀ j i, done.getD j false = true → behindOf l j i = true → done.getD i false = true
  mem : HoldsI w0 S (g.live l.length done) (fun j => g.M j (x j)) w

section
variable {P : Program} {n : Nat} {w0 : World} {S : List Nat} {Q : Exit → Act → World → Prop} {E : Env} {M : List Ent} {g : GrowR Y} {l : List Oper}
theorem GrowR.run (hok : g.okFrom l 0 l = true) (hj : g.Jobs P n w0 S l 0 l)
    (hend : ∀ done x a w, g.Inv n w0 S l done x a w → (∀ j, j < l.length → done.getD j false = true) → Q .normal a w) :
    ∀ (f : Nat) (done : Array Bool) (x : Nat → Y) (a : Act) (w : World), f = (List.range l.length).countP (fun j => !done.getD j false) → g.Inv n w0 S l done x a w → wpAny P .any l.toArray Q f done a w := by
  have hrdy : ∀ done : Array Bool, done.size = l.length → Region.ready .any l.toArray done = [] → ∀ j, j < l.length → done.getD j false = true := by
    intro done hds hr j
    induction j using Nat.strongRecOn with
    | _ j ih =>
      intro hjl
      cases hd : done.getD j false with
      | true => rfl
      | false =>
        obtain ⟨o, ho⟩ : ∃ o, l[j]? = some o := ⟨_, List.getElem?_eq_getElem hjl⟩
        have hk := GrowR.okFrom_at hok ho
        simp only [GrowR.okOp, Bool.and_eq_true, Nat.zero_add] at hk
        have hkk := hk.2.2.2.2.2.1
        have : j ∈ Region.ready .any l.toArray done := by
          rw [mem_ready]
          refine ⟨?_, o, by simpa using ho, fun e he hb => ?_⟩
          · rw [Array.getD_eq_getD_getElem?, Array.getElem?_eq_getElem (by omega)] at hd ⊢
            simpa using hd
          · have := List.all_eq_true.1 hkk e (by simpa using he)
            simp only [hb, Bool.not_true, Bool.false_or, decide_eq_true_eq] at this
            exact ih e.on this (by omega)
        rw [hr] at this
        cases this
  intro f
  induction f with
  | zero =>
    intro done x a w hf hI
    have hall : ∀ j, j < l.length → done.getD j false = true := fun j hjl => by
      have := List.countP_eq_zero.1 hf.symm j (List.mem_range.2 hjl)
      simpa using this
    refine ⟨?_, hend done x a w hI hall⟩
    refine List.eq_nil_iff_forall_not_mem.2 fun i hi => ?_
    obtain ⟨hu, o, ho, _⟩ := mem_ready.1 hi
    have hil : i < l.length := by
      have := (Array.getElem?_eq_some_iff.1 ho).1
      simpa using this
    have := hall i hil
    rw [Array.getD_eq_getD_getElem?, Array.getElem?_eq_getElem (by have := hI.dsize; omega)] at hu this
    simp only [Option.getD_some] at hu this
    rw [hu] at this
    cases this
  | succ f ih =>
    intro done x a w hf hI
    have hds := hI.dsize
    refine ⟨fun h0 => hend done x a w hI (hrdy done hds h0), fun i hi => ?_⟩
    obtain ⟨hu, o, ho, hbe⟩ := mem_ready.1 hi
    have hil : i < l.length := by
      have := (Array.getElem?_eq_some_iff.1 ho).1
      simpa using this
    have ho' : l[i]? = some o := by simpa using ho
    have hu' : done.getD i false = false := by
      rw [Array.getD_eq_getD_getElem?, Array.getElem?_eq_getElem (by omega)] at hu ⊢
      simpa using hu
    have hk := GrowR.okFrom_at hok ho'
    simp only [GrowR.okOp, Bool.and_eq_true, Nat.zero_add] at hk
    obtain ⟨⟨⟨k1, k8⟩, k9⟩, k2, k3, k4, k5, _, k7⟩ := hk
    have hbeh : ∀ j, behind o j = true → done.getD j false = true := fun j hj => by
      simp only [behind, List.any_eq_true, Bool.and_eq_true, beq_iff_eq] at hj
      obtain ⟨e, he, rfl, hb⟩ := hj
      exact hbe e (by simpa using he) hb
    have hbi : ∀ k, behindOf l k i = true → done.getD k false = false := fun k hk => by
      cases h : done.getD k false with
      | false => rfl
      | true => have := hI.down k i h hk; rw [hu'] at this; cases this
    have hinp : ∀ j ∈ g.inp i, g.live l.length done j := by
      intro j hj
      have h2 := List.all_eq_true.1 k2 j hj
      simp only [Bool.and_eq_true, Bool.or_eq_true, decide_eq_true_eq] at h2
      refine ⟨h2.1, h2.2.imp id (hbeh j), fun k hkd hjk => ?_⟩
      have hkl : k < l.length := by
        by_cases h : k < l.length
        · exact h
        · rw [Array.getD_eq_getD_getElem?, Array.getElem?_eq_none (by omega)] at hkd
          cases hkd
      have h4 := List.all_eq_true.1 k4 k (List.mem_range.2 hkl)
      have hki : k ≠ i := fun e => by rw [e, hu'] at hkd; cases hkd
      simp only [Bool.or_eq_true, beq_iff_eq, hki, false_or] at h4
      have h5 := List.all_eq_true.1 h4 j hjk
      simp only [Bool.or_eq_true, Bool.not_eq_true', List.contains_eq_mem, decide_eq_false_iff_not, hj, not_true, false_or] at h5
      rw [hbi k h5] at hkd
      cases hkd
    have hdone_ne : ∀ j, done.getD j false = true → j ≠ i := fun j hj e => by rw [e, hu'] at hj; cases hj
    have hlen : ∀ k, done.getD k false = true → k < l.length := fun k hkd => by
      by_cases h : k < l.length
      · exact h
      · rw [Array.getD_eq_getD_getElem?, Array.getElem?_eq_none (by omega)] at hkd
        cases hkd
    have hdi : dstOf l i = o.dst := by simp [dstOf, ho']
    have hne : ∀ j d, done.getD j false = true → dstOf l j = some d → o.dst ≠ some d := by
      intro j d hjd hd he
      rw [he] at k7
      simp only [apartD, Bool.and_eq_true] at k7
      have := List.all_eq_true.1 k7.1 j (List.mem_range.2 (hlen j hjd))
      simp [hdone_ne j hjd, hd] at this
    have hne0 : ∀ p ∈ g.E0, o.dst ≠ some p.1 := by
      intro p hp he
      rw [he] at k7
      simp only [apartD, Bool.and_eq_true] at k7
      have := List.all_eq_true.1 k7.2 p hp
      simp at this
    let rest : List Nat := (List.range g.N).filter fun j => @decide (g.live l.length done j) (Classical.propDecidable _) && !(g.inp i).contains j
    have hrest : ∀ j, j ∈ rest ↔ g.live l.length done j ∧ j ∉ g.inp i := by
      intro j
      simp only [rest, List.mem_filter, List.mem_range, Bool.and_eq_true, Bool.not_eq_true', List.contains_eq_mem, decide_eq_false_iff_not]
      refine ⟨fun ⟨_, h2, h3⟩ => ⟨@of_decide_eq_true _ (Classical.propDecidable _) h2, h3⟩, fun ⟨h2, h3⟩ => ⟨h2.1, @decide_eq_true _ (Classical.propDecidable _) h2, h3⟩⟩
    have hnd : (g.inp i ++ rest).Nodup := by
      rw [List.nodup_append]
      refine ⟨noDup_spec k5, List.nodup_range.filter _, fun a ha b hb e => ?_⟩
      exact ((hrest b).1 hb).2 (e ▸ ha)
    have H1 := hI.mem.to (g.inp i ++ rest) hnd (fun j hj => by
      rcases List.mem_append.1 hj with h | h
      · exact hinp j h
      · exact ((hrest j).1 h).1)
    rw [List.flatMap_append] at H1
    let EF0 : Env := (List.range l.length).filterMap fun j => if done.getD j false = true then (dstOf l j).map (fun d => (d, g.v j (x j))) else none
    let EF1 : Env := (List.range l.length).flatMap fun j => if done.getD j false = true then [] else g.E1 j
    let EF : Env := EF0 ++ EF1
    have hEF : ∀ p, p ∈ EF0 ↔ ∃ j d, done.getD j false = true ∧ dstOf l j = some d ∧ p = (d, g.v j (x j)) := by
      intro p
      simp only [EF0, List.mem_filterMap, List.mem_range]
      constructor
      · rintro ⟨j, _, hp⟩
        split at hp
        · rename_i hjd
          obtain ⟨d, hd, rfl⟩ := Option.map_eq_some_iff.1 hp
          exact ⟨j, d, hjd, hd, rfl⟩
        · cases hp
      · rintro ⟨j, d, hjd, hd, rfl⟩
        exact ⟨j, hlen j hjd, by rw [if_pos hjd, hd]; rfl⟩
    have hEF1 : ∀ j, j < l.length → done.getD j false = false → ∀ p ∈ g.E1 j, p ∈ EF1 := by
      intro j hjl hjd p hp
      simp only [EF1, List.mem_flatMap, List.mem_range]
      exact ⟨j, hjl, by rw [if_neg (by rw [hjd]; decide)]; exact hp⟩
    have hne1 : ∀ j, j < l.length → done.getD j false = false → ∀ p ∈ g.E1 j, o.dst ≠ some p.1 := by
      intro j hjl hjd p hp he
      have hjo : l[j]? = some (l[j]'hjl) := List.getElem?_eq_getElem hjl
      have hkj := GrowR.okFrom_at hok hjo
      simp only [GrowR.okOp, Bool.and_eq_true, Nat.zero_add] at hkj
      have h9 := List.all_eq_true.1 hkj.1.2 p hp
      have h10 := List.all_eq_true.1 h9 i (List.mem_range.2 hil)
      simp only [hdi, he, bne_self_eq_false, Bool.false_or, Bool.and_eq_true] at h10
      have h11 : behind o j = true := by simpa [behindOf, ho'] using h10.2
      rw [hbeh j h11] at hjd
      cases hjd
    have hneed : ∀ p ∈ g.need i, done.getD p.1 false = true ∧ dstOf l p.1 = some p.2 := by
      intro p hp
      have h1 := List.all_eq_true.1 k1 p hp
      simp only [Bool.and_eq_true, beq_iff_eq] at h1
      exact ⟨hbeh _ h1.1, h1.2⟩
    have hK : ∀ p ∈ ((g.need i).map (fun p => (p.2, g.v p.1 (x p.1))) ++ (g.E0 ++ (g.E1 i ++ EF))), a.tmps.getD p.1 undef = p.2 ∧ o.dst ≠ some p.1 := by
      intro p hp
      rcases List.mem_append.1 hp with h | h
      · obtain ⟨q, hq, rfl⟩ := List.mem_map.1 h
        obtain ⟨h1, h2⟩ := hneed q hq
        exact ⟨hI.vals _ _ h1 h2, hne _ _ h1 h2⟩
      · rcases List.mem_append.1 h with h | h
        · exact ⟨hI.base p h, hne0 p h⟩
        · rcases List.mem_append.1 h with h | h
          · exact ⟨hI.first i hil hu' p h, hne1 i hil hu' p h⟩
          · rcases List.mem_append.1 h with h | h
            · obtain ⟨j, d, h1, h2, rfl⟩ := (hEF p).1 h
              exact ⟨hI.vals _ _ h1 h2, hne _ _ h1 h2⟩
            · simp only [EF1, List.mem_flatMap, List.mem_range] at h
              obtain ⟨j, hjl, h⟩ := h
              cases hjd : done.getD j false with
              | true => rw [hjd] at h; simp at h
              | false =>
                rw [hjd] at h
                simp only [Bool.false_eq_true, if_false] at h
                exact ⟨hI.first j hjl hjd p h, hne1 j hjl hjd p h⟩
    have job := GrowR.Jobs_at hj ho'
    rw [Nat.zero_add] at job
    refine wpOp_of_list ho ((job x EF (rest.flatMap fun j => g.M j (x j)) _ fun xi hxi => ⟨fun a' w' hK' hH' => ?_⟩).go a w (Knows.of hI.size hI.defers fun p hp => (hK p hp).1) H1)
    have hd' : ∀ j, (done.setIfInBounds i true).getD j false = (decide (j = i) || done.getD j false) := fun j => getD_set (by omega)
    refine ih _ (fun j => if j = i then xi else x j) a' w' ?_ ?_
    · have := count_drop (l := List.range l.length) (p := fun j => !done.getD j false) (q := fun j => !(done.setIfInBounds i true).getD j false) (i := i) List.nodup_range (List.mem_range.2 hil) (by simp only [hu']; rfl) (by simp only [hd']; simp) (fun j hj => by simp only [hd']; simp [hj])
      omega
    · have hmem : ∀ p ∈ (slot o.dst (g.v i xi) ++ ((g.need i).map (fun p => (p.2, g.v p.1 (x p.1))) ++ (g.E0 ++ (g.E1 i ++ EF)))), a'.tmps.getD p.1 undef = p.2 := by
        intro p hp
        refine hK'.mem (f := fun t => if o.dst = some t then g.v i xi else a.tmps.getD t undef) (fun q hq => ?_) hp
        rcases List.mem_append.1 hq with h | h
        · cases hod : o.dst with
          | none => rw [hod] at h; cases h
          | some d =>
            rw [hod] at h
            simp only [slot, List.mem_singleton] at h
            subst h
            simp
        · have := hK q h
          simp only [this.2, if_false]
          exact this.1
      refine ⟨hK'.size, hK'.defers, by simp [hds], fun p hp => hmem p (by simp [hp]), fun j hjl hjd p hp => ?_, ?_, ?_, ?_, ?_⟩
      · rw [hd'] at hjd
        simp only [Bool.or_eq_false_iff] at hjd
        exact hmem p (List.mem_append_right _ (List.mem_append_right _ (List.mem_append_right _ (List.mem_append_right _ (List.mem_append_right _ (hEF1 j hjl hjd.2 p hp))))))
      · intro j d hjd hd
        by_cases e : j = i
        · subst e
          rw [hdi] at hd
          have := hmem (d, g.v j xi) (by simp [hd, slot])
          simpa using this
        · rw [hd'] at hjd
          simp only [e, decide_false, Bool.false_or] at hjd
          have := hmem (d, g.v j (x j)) (List.mem_append_right _ (List.mem_append_right _ (List.mem_append_right _ (List.mem_append_right _ (List.mem_append_left _ ((hEF _).2 ⟨j, d, hjd, hd, rfl⟩))))))
          simpa [e] using this
      · intro j k hjd hs
        rw [hd'] at hjd
        by_cases e : j = i
        · subst e
          rw [hs] at k8
          simp only [if_true, hdone_ne k (hbeh k k8), if_false]
          exact hxi k hs
        · simp only [e, decide_false, Bool.false_or] at hjd
          have hjo : l[j]? = some (l[j]'(hlen j hjd)) := List.getElem?_eq_getElem (hlen j hjd)
          have hkj := GrowR.okFrom_at hok hjo
          simp only [GrowR.okOp, Bool.and_eq_true, Nat.zero_add] at hkj
          have h8 := hkj.1.1.2
          rw [hs] at h8
          have hkd := hI.down j k hjd (by simpa [behindOf, hjo, srcOk] using h8)
          simp only [e, hdone_ne k hkd, if_false]
          exact hI.rel j k hjd hs
      · intro j i' hjd hb
        rw [hd'] at hjd ⊢
        by_cases e : j = i
        · subst e
          have : behind o i' = true := by simpa [behindOf, ho'] using hb
          simp [hbeh i' this]
        · simp only [e, decide_false, Bool.false_or] at hjd
          simp [hI.down j i' hjd hb]
      · have hnl : ¬ g.live l.length done i := fun h => by
          rcases h.2.1 with h | h
          · omega
          · rw [hu'] at h; cases h
        have hcg : ∀ L : List Nat, (∀ j ∈ L, g.live l.length done j) → L.flatMap (fun j => g.M j (if j = i then xi else x j)) = L.flatMap fun j => g.M j (x j) := by
          intro L
          induction L with
          | nil => simp
          | cons j L ih =>
            intro h
            have hji : j ≠ i := fun e => hnl (e ▸ h j (by simp))
            simp only [List.flatMap_cons, hji, if_false, ih fun k hk => h k (by simp [hk])]
        refine HoldsI.of (Js := i :: (((g.inp i).filter fun j => !(g.eat i).contains j) ++ rest)) ?_ ?_
        · rw [List.flatMap_cons, List.flatMap_append, hcg _ (fun j hj => hinp j (List.mem_filter.1 hj).1), hcg rest (fun j hj => ((hrest j).1 hj).1)]
          simpa using hH'
        · intro j hj
          by_cases e : j = i
          · simp [e]
          · have hl : g.live l.length done j := by
              refine ⟨hj.1, hj.2.1.imp id (fun h => ?_), fun k hk => hj.2.2 k (by rw [hd']; simp [hk])⟩
              rw [hd'] at h
              simpa [e] using h
            have hne : j ∉ g.eat i := hj.2.2 i (by rw [hd']; simp)
            by_cases hji : j ∈ g.inp i
            · simp [e, hji, hne]
            · have := (hrest j).2 ⟨hl, hji⟩
              simp [e, this]
/-- a region whose order is open, each operation told once; g.E1: what is known of slots until the region writes them -/
theorem JC.growR [Inhabited Y] (g : GrowR Y) (outs : List (Nat × Nat)) (ends : List Nat) {id : Nat} (hm : P.follows .mixedOrders = true) (hE : SubE E g.E0) (hE1 : ∀ i, i < l.length → SubE E (g.E1 i)) (hM : Less (((List.range g.N).filter fun j => decide (l.length ≤ j)).flatMap fun j => g.M j default) M)
    (hok : g.okFrom l 0 l = true) (ho : (outs.all fun p => decide (p.1 < l.length) && dstOf l p.1 == some p.2) = true)
    (he : (noDup ends && ends.all fun j => decide (j < g.N) && (List.range l.length).all fun k => !(g.eat k).contains j) = true)
    (hj : g.Jobs P n w0 S l 0 l)
    (k : ∀ x : Nat → Y, (∀ j k, j < l.length → g.src j = some k → g.R j (x j) (x k)) → JE n w0 S Q .normal (outs.map (fun p => (p.2, g.v p.1 (x p.1))) ++ g.E0) (ends.flatMap fun j => g.M j (x j))) : JC P n w0 S Q (.region id l.toArray true) E M :=
  ⟨fun a w ha hw => by
    refine wp_region_any hm ?_
    have hw' := (hw.drawn (w.drawn + 1)).weak hM
    simp only [Bool.and_eq_true] at he
    refine GrowR.run hok hj (fun done x a w hI hall => ?_) _ _ (fun _ => default) a _ ?_ ?_
    · refine (k x fun j k hj hs => hI.rel j k (hall j hj) hs).go a w (Knows.of hI.size hI.defers fun p hp => ?_) (hI.mem.to ends (noDup_spec he.1) fun j hj => ?_)
      · rcases List.mem_append.1 hp with h | h
        · obtain ⟨q, hq, rfl⟩ := List.mem_map.1 h
          have := List.all_eq_true.1 ho q hq
          simp only [Bool.and_eq_true, decide_eq_true_eq, beq_iff_eq] at this
          exact hI.vals _ _ (hall _ this.1) this.2
        · exact hI.base p h
      · have := List.all_eq_true.1 he.2 j hj
        simp only [Bool.and_eq_true, decide_eq_true_eq] at this
        refine ⟨this.1, ?_, fun k hk hjk => ?_⟩
        · by_cases h : l.length ≤ j
          · exact .inl h
          · exact .inr (hall j (by omega))
        · have hkl : k < l.length := by
            by_cases h : k < l.length
            · exact h
            · have := hI.dsize
              rw [Array.getD_eq_getD_getElem?, Array.getElem?_eq_none (by omega)] at hk
              cases hk
          have := List.all_eq_true.1 this.2 k (List.mem_range.2 hkl)
          simp [hjk] at this
    · have : ∀ j, (Array.replicate l.toArray.size false).getD j false = false := fun j => by
        simp only [Array.getD_eq_getD_getElem?, Array.getElem?_replicate]
        split <;> rfl
      rw [List.countP_eq_length.2 (fun j _ => by simp only [this]; rfl)]
      simp
    · have hf : ∀ j, (Array.replicate l.toArray.size false).getD j false = false := fun j => by
        simp only [Array.getD_eq_getD_getElem?, Array.getElem?_replicate]
        split <;> rfl
      refine ⟨ha.size, ha.defers, by simp, fun p hp => ha.all _ _ (hE.all p hp), fun j hj _ p hp => ha.all _ _ ((hE1 j hj).all p hp), fun j d h => ?_, fun j k h => ?_, fun j i h => ?_, ?_⟩
      · rw [hf] at h; cases h
      · rw [hf] at h; cases h
      · rw [hf] at h; cases h
      · refine HoldsI.of hw' fun j hj => ?_
        rw [List.mem_filter]
        refine ⟨List.mem_range.2 hj.1, ?_⟩
        rcases hj.2.1 with h | h
        · simpa using h
        · rw [hf] at h; cases h⟩

end
end Sl
end Go.Proofs.YtikhlddemdlmgaaDoor

/-
  Of no statement by itself: what letter's functions owe (LetterOk); over it: what despatchlaw11's speaks gives.
  Conditions: LetterOk, and each theorem's own.
-/
namespace Go.Proofs.YtikhlddemdlmgaaDoor
set_option maxRecDepth 10000
open Sl Fld
/-- a mail as an answer -/
structure Lt (A : List Pr) (B : List Bt) where
  f : Sl2
  s : Sl8
  hf : f.l = A
  hs : s.l = B
  nf : f.ad = none → f.l = []
  ns : s.ad = none → s.l = []
def Lt.v {A : List Pr} {B : List Bt} (z : Lt A B) : Value := .agg #[z.f.v, z.s.v]
def Lt.ents {A : List Pr} {B : List Bt} (z : Lt A B) : List Ent := z.f.ents ++ z.s.ents
theorem Lt.wr {A : List Pr} {B : List Bt} (z : Lt A B) : ∀ e ∈ z.ents, e.wr = true := fun e he => by
  rcases List.mem_append.1 he with h | h
  · exact z.f.ents_wr e h
  · exact z.s.ents_wr e h
instance {A : List Pr} {B : List Bt} : Inhabited (Lt A B) := ⟨⟨⟨some ⟨0, 0, none⟩, 0, A⟩, ⟨some ⟨0, 0, none⟩, 0, B⟩, rfl, rfl, nofun, nofun⟩⟩
structure LetterOk : Prop where
  get : ∀ (f : Sl2) (s : Sl8) (nm : List Bt) (w : World), f.ok w → s.ok w → small2 f → f.l.length ≤ 301 → s.l.length ≤ 3000 → nm.length ≤ 200 → Calls Tryd.prog 9 [.agg #[f.v, s.v], Z nm].toArray w fun e w' => e = .returned (.tuple #[Z ((allB nm f.l).headD []), .bool (!(allB nm f.l).isEmpty)]) ∧ Ext w w'
  all : ∀ (f : Sl2) (s : Sl8) (nm : List Bt) (w : World), f.ok w → s.ok w → small2 f → f.l.length ≤ 301 → s.l.length ≤ 3000 → nm.length ≤ 200 → Calls Tryd.prog 7 [.agg #[f.v, s.v], Z nm].toArray w fun e w' => ∃ z : Gz (allB nm f.l), e = .returned z.z.v ∧ Holds w [] z.z.ents w'
  set : ∀ (f : Sl2) (s : Sl8) (nm vl : List Bt) (w : World), f.ok w → s.ok w → small2 f → f.l.length ≤ 301 → s.l.length ≤ 3000 → nm.length ≤ 200 → vl.length ≤ 200 → Calls Tryd.prog 10 [.agg #[f.v, s.v], Z nm, Z vl].toArray w fun e w' => ∃ z : Lt (setB nm vl f.l) s.l, e = .returned z.v ∧ Holds w [] z.ents w'
  drop : ∀ (f : Sl2) (s : Sl8) (nm : List Bt) (w : World), f.ok w → s.ok w → small2 f → f.l.length ≤ 301 → s.l.length ≤ 3000 → nm.length ≤ 200 → Calls Tryd.prog 11 [.agg #[f.v, s.v], Z nm].toArray w fun e w' => ∃ z : Lt (dropB nm f.l) s.l, e = .returned z.v ∧ Holds w [] z.ents w'
  write : ∀ (f : Sl2) (s : Sl8) (w : World), f.ok w → s.ok w → small2 f → f.l.length ≤ 300 → s.l.length ≤ 3000 → (∀ p ∈ f.l, p.2.length ≤ 9000) → Calls Tryd.prog 17 [.agg #[f.v, s.v]].toArray w fun e w' => ∃ y : { y : Sl8 // y.l = writeO f.l s.l }, e = .returned (.tuple #[y.1.v, N (writeK f.l s.l)]) ∧ Ext w w' ∧ y.1.ok w'
theorem build_f {n : Nat} {E : Env} {C : World → Prop} {dst : Option Tmp} {ty : TypeId} {pos : String} {aft : Array Edge} {g : Option (Nat × Bool)} {a b : List Bt} : OQ Tryd.prog n E C ⟨dst, .build 46 #[(0, .const (Z a)), (1, .const (Z b))], ty, pos, aft, g⟩ (.agg (pc (a, b)).toArray) := OQ.pure rfl rfl (by kernel_rfl)
section
variable {n : Nat} {E : Env} {C : World → Prop} {dst : Option Tmp} {ty : TypeId} {pos : String} {aft : Array Edge} {g : Option (Nat × Bool)} {x y : Operand}
theorem OQ.buildL {a b : Value} (hx : ev E x = some a) (hy : ev E y = some b) (h : Tryd.prog.built 25 [(0, a), (1, b)] = some #[a, b]) : OQ Tryd.prog n E C ⟨dst, .build 25 #[(0, x), (1, y)], ty, pos, aft, g⟩ (.agg #[a, b]) := by
  refine OQ.run fun k hk w _ => ?_
  have h1 := hk.eval hx
  have h2 := hk.eval hy
  have h3 := run_build (P := Tryd.prog) w 25 #[(0, a), (1, b)] #[a, b] h
  simp [execOp, h1, h2, Sem.run_bind, h3]
end
theorem letA : aggT Tryd.prog 25 = true := by kernel_rfl
theorem letS : szT Tryd.prog 25 = some 2 := by kernel_rfl
theorem letZ : zc Tryd.prog 25 = some [nil2.v, nilS.v] := by kernel_rfl
def egL : List Bt := [65, 58, 32, 98, 13, 10, 13, 10, 99]
theorem egL_k : writeK [([65], [98])] [99] = 0 := by decide +kernel
theorem egL_o : writeO [([65], [98])] [99] = egL := by decide +kernel
set_option maxHeartbeats 8000000 in
theorem speaks11_any (hL : LetterOk) (w : World) : Calls Tryd.prog 5 ([] : List Value).toArray w fun e w' => e = .returned (.bool true) ∧ Ext w w' := by
  refine enter (n := 19) Tryd.func5 rfl rfl rfl (Holds.start w []) ?_
  repeat (first | refine JL.q (by first | (apply build_f (a := [65]) (b := [98])) | (apply OQ.move; exact rfl) | (apply OQ.assign; exact rfl) | (apply OQ.len; exact rfl; exact rfl) | (apply OQ.addN; exact rfl; exact rfl; exact (by (try simp only []); omega)) | (apply OQ.subN; exact rfl; exact rfl; exact (by (try simp only []); omega); exact (by (try simp only []); omega)) | (apply OQ.lssN; exact rfl; exact rfl) | (apply OQ.fld; exact rfl; exact rfl; exact rfl; exact (by decide); exact rfl)) rfl ?_ | refine JC.seq ?_ | refine JC.region ?_ | refine JC.block ?_ | refine JC.skip ?_ | refine JC.exit ?_ | refine JL.nil ?_ | refine JE.next ?_ | refine JE.blk_normal ?_ | refine JE.then_exit ?_ | refine JE.blk_hit ?_ | refine JE.blk_miss rfl ?_ | refine JE.then_ret ?_ | refine JE.blk_ret ?_ | refine JC.label ?_ | refine JL.gon rfl rfl ?_ | refine JL.gskip rfl rfl rfl rfl ?_ | refine JL.gskipU rfl rfl rfl rfl ?_)
  refine JL.litA (cs := pc ([65], [98])) Tryd.underlying22 fieldI rfl (by decide) (by decide) rfl rfl rfl fun b1 _ => ?_
  repeat (first | refine JL.q (by first | (apply OQ.move; exact rfl) | (apply OQ.assign; exact rfl) | (apply OQ.len; exact rfl; exact rfl) | (apply OQ.addN; exact rfl; exact rfl; exact (by (try simp only []); omega)) | (apply OQ.subN; exact rfl; exact rfl; exact (by (try simp only []); omega); exact (by (try simp only []); omega)) | (apply OQ.lssN; exact rfl; exact rfl) | (apply OQ.fld; exact rfl; exact rfl; exact rfl; exact (by decide); exact rfl)) rfl ?_ | refine JC.seq ?_ | refine JC.region ?_ | refine JC.block ?_ | refine JC.skip ?_ | refine JC.exit ?_ | refine JL.nil ?_ | refine JE.next ?_ | refine JE.blk_normal ?_ | refine JE.then_exit ?_ | refine JE.blk_hit ?_ | refine JE.blk_miss rfl ?_ | refine JE.then_ret ?_ | refine JE.blk_ret ?_ | refine JC.label ?_ | refine JL.gon rfl rfl ?_ | refine JL.gskip rfl rfl rfl rfl ?_ | refine JL.gskipU rfl rfl rfl rfl ?_)
  refine JL.lit1 (v := U8 99) Tryd.underlying23 u8e rfl rfl rfl rfl fun b2 _ => ?_
  refine JL.mark (r := [U8 99]) (te := 5) Tryd.underlying23 Tryd.underlying5 rfl .here rfl ?_
  repeat (first | refine JL.q (by first | (apply OQ.buildL (a := Sl2.v ⟨some ⟨b1, 0, none⟩, 1, [([65], [98])]⟩) (b := Sl8.v ⟨some ⟨b2, 0, none⟩, 1, [99]⟩); exact rfl; exact rfl; exact (by kernel_rfl)) | (apply OQ.move; exact rfl) | (apply OQ.assign; exact rfl) | (apply OQ.len; exact rfl; exact rfl) | (apply OQ.addN; exact rfl; exact rfl; exact (by (try simp only []); omega)) | (apply OQ.subN; exact rfl; exact rfl; exact (by (try simp only []); omega); exact (by (try simp only []); omega)) | (apply OQ.lssN; exact rfl; exact rfl) | (apply OQ.fld; exact rfl; exact rfl; exact rfl; exact (by decide); exact rfl)) rfl ?_ | refine JC.seq ?_ | refine JC.region ?_ | refine JC.block ?_ | refine JC.skip ?_ | refine JC.exit ?_ | refine JL.nil ?_ | refine JE.next ?_ | refine JE.blk_normal ?_ | refine JE.then_exit ?_ | refine JE.blk_hit ?_ | refine JE.blk_miss rfl ?_ | refine JE.then_ret ?_ | refine JE.blk_ret ?_ | refine JC.label ?_ | refine JL.gon rfl rfl ?_ | refine JL.gskip rfl rfl rfl rfl ?_ | refine JL.gskipU rfl rfl rfl rfl ?_)
  refine JL.callw (vs := [.agg #[Sl2.v ⟨some ⟨b1, 0, none⟩, 1, [([65], [98])]⟩, Sl8.v ⟨some ⟨b2, 0, none⟩, 1, [99]⟩]]) (S' := []) (ι := { y : Sl8 // y.l = writeO [([65], [98])] [99] }) (fun y => .tuple #[y.1.v, N (writeK [([65], [98])] [99])]) (fun y w' => y.1.ok w') [] goes_lwrite rfl rfl (fun w' hw' => hL.write ⟨some ⟨b1, 0, none⟩, 1, [([65], [98])]⟩ ⟨some ⟨b2, 0, none⟩, 1, [99]⟩ w' ⟨Nat.le_refl _, (by obtain ⟨o, ho, hA⟩ := hw'.get (.there .here); exact Reads.block ho (Row.all _ hA))⟩ ⟨Nat.le_refl _, (by obtain ⟨o, ho, hA⟩ := hw'.get .here; exact Reads.block ho (Frz.all _ hA))⟩ (fun p hp => by rw [List.mem_singleton.1 hp]; decide) (show 1 ≤ 300 by decide) (show 1 ≤ 3000 by decide) (fun p hp => by rw [List.mem_singleton.1 hp]; decide)) (.nil _) (by simp) ?_
  rintro ⟨y, hy⟩ w1 hw1 oky
  dsimp only at hy oky ⊢
  rw [egL_o] at hy
  rw [egL_k]
  have hx1 : Ext w w1 := hw1.chg
  repeat (first | refine JL.q (by first | (apply OQ.extract; exact rfl; exact rfl) | (apply OQ.eqB (b := 0); exact rfl; exact rfl; exact rfl) | (apply OQ.b2s (s := y); exact Tryd.underlying23; exact Tryd.underlying5; exact Tryd.underlying9; exact rfl; exact (fun w' hw' => oky.holds hw' rfl)) | (apply OQ.eqS_t (l := y.l) (r := egL); exact rfl; exact rfl; exact hy) | (apply OQ.pick_t; exact rfl; exact rfl) | (apply OQ.move; exact rfl) | (apply OQ.assign; exact rfl) | (apply OQ.len; exact rfl; exact rfl) | (apply OQ.addN; exact rfl; exact rfl; exact (by (try simp only []); omega)) | (apply OQ.subN; exact rfl; exact rfl; exact (by (try simp only []); omega); exact (by (try simp only []); omega)) | (apply OQ.lssN; exact rfl; exact rfl) | (apply OQ.fld; exact rfl; exact rfl; exact rfl; exact (by decide); exact rfl)) rfl ?_ | refine JC.seq ?_ | refine JC.region ?_ | refine JC.block ?_ | refine JC.skip ?_ | refine JC.exit ?_ | refine JL.nil ?_ | refine JE.next ?_ | refine JE.blk_normal ?_ | refine JE.then_exit ?_ | refine JE.blk_hit ?_ | refine JE.blk_miss rfl ?_ | refine JE.then_ret ?_ | refine JE.blk_ret ?_ | refine JC.label ?_ | refine JL.gon rfl rfl ?_ | refine JL.gskip rfl rfl rfl rfl ?_ | refine JL.gskipU rfl rfl rfl rfl ?_)
  refine JC.ret (JE.ret1 rfl (RV.tmp rfl) ?_)
  exact fun w' hw => ⟨rfl, hx1.trans hw.chg⟩
end Go.Proofs.YtikhlddemdlmgaaDoor

/-
  Of no statement by itself: what the landed letter's Get, All and Drop give.
  Conditions: each theorem's own.
-/
namespace Go.Proofs.YtikhlddemdlmgaaDoor
set_option maxRecDepth 10000
open Sl Fld
theorem less_mid {A B : List Ent} (e : Ent) : Less (A ++ B) (A ++ e :: B) := less_of_sub (.append (.refl _) (.cons _ (.refl _)))
theorem JL.eqM {P : Program} {n : Nat} {w0 : World} {S : List Nat} {ops : Array Oper} {Q : Exit → Act → World → Prop} {l : List Oper} {E : Env} {M M' : List Ent} (e : M = M') (h : JL P n w0 S ops Q l E M') : JL P n w0 S ops Q l E M := e ▸ h
theorem low_of {f : Sl2} (hz : small2 f) : ∀ c ∈ f.l, Low c := fun c hc => (hz c hc).1
theorem accZ_ents {w0 w : World} {e : TypeId} {q : Acc} {L : List (List Bt)} (hw : Holds w0 [] (accE e q (L.map Z)) w) (hq : q = none → L = []) : ∃ z : Gz L, z.z.v = accV q L.length ∧ Holds w0 [] z.z.ents w := by
  cases q with
  | none =>
    obtain rfl := hq rfl
    exact ⟨⟨nilZ, rfl, fun _ => rfl⟩, rfl, hw⟩
  | some r =>
    refine ⟨⟨⟨some ⟨r.1, 0, none⟩, r.2, L⟩, rfl, nofun⟩, rfl, Sl.Holds.weak hw ?_⟩
    show Less _ [⟨r.1, Own e 1 (L.map Z).length r.2 (L.map Z), true⟩]
    rw [List.length_map]
    exact ownZ_ents
set_option maxHeartbeats 16000000 in
theorem lget_any (f : Sl2) (s : Sl8) (nm : List Bt) (w : World) (hf : f.ok w) (hz : small2 f) (hl : f.l.length ≤ 1000000) : Calls Tryd.prog 9 [.agg #[f.v, s.v], Z nm].toArray w fun e w' => e = .returned (.tuple #[Z ((allB nm f.l).headD []), .bool (!(allB nm f.l).isEmpty)]) ∧ Ext w w' := by
  rw [head_all, none_all]
  refine enter (n := 20) Tryd.func9 rfl rfl rfl (Holds.start w []) ?_
  refine JC.seq (JC.region (JL.box (r := [f.v, s.v]) rfl rfl rfl fun b2 _ => ?_))
  repeat (first | refine JL.q (by first | (apply OQ.move; exact rfl) | (apply OQ.assign; exact rfl) | (apply OQ.len; exact rfl; exact rfl) | (apply OQ.addN; exact rfl; exact rfl; exact (by (try simp only []); omega)) | (apply OQ.subN; exact rfl; exact rfl; exact (by (try simp only []); omega); exact (by (try simp only []); omega)) | (apply OQ.lssN; exact rfl; exact rfl) | (apply OQ.fld; exact rfl; exact rfl; exact rfl; exact (by decide); exact rfl)) rfl ?_ | refine JC.seq ?_ | refine JC.region ?_ | refine JC.block ?_ | refine JC.skip ?_ | refine JC.exit ?_ | refine JL.nil ?_ | refine JE.next ?_ | refine JE.blk_normal ?_ | refine JE.then_exit ?_ | refine JE.blk_hit ?_ | refine JE.blk_miss rfl ?_ | refine JE.then_ret ?_ | refine JE.blk_ret ?_ | refine JC.label ?_ | refine JL.gon rfl rfl ?_ | refine JL.gskip rfl rfl rfl rfl ?_ | refine JL.gskipU rfl rfl rfl rfl ?_)
  have ci : ∀ (M : List Ent) (bn : Nat) (w' : World), Holds w [] (⟨bn, Row 9 [Z nm], true⟩ :: M) w' → Calls Tryd.prog 19 [f.v, namedV bn].toArray w' fun e w'' => e = .returned (.int .i64 (ixV (fun c => sameB c.1 nm) f.l)) ∧ Ext w' w'' := fun M bn w' hw' =>
    ixfun_any (C := NameAt bn nm) (D := Low) f (namedV bn) _ w' (hf.holds hw' rfl) (fun_named bn nm) (fun w'' hx => (nameAt hw' .here).ext hx) (low_of hz) (by omega)
  let vs : Nat → Nat → Value := fun j x => match j with
    | 0 => Pt b2 0
    | 1 => f.v
    | 2 => Z nm
    | 3 => namedV x
    | _ => .int .i64 (ixV (fun c => sameB c.1 nm) f.l)
  let Ms : Nat → Nat → List Ent := fun j x => match j with
    | 3 => [⟨x, Row 9 [Z nm], true⟩]
    | 6 => [⟨b2, Row 25 [f.v, s.v], true⟩]
    | _ => []
  refine JC.growR (g := ⟨[(1, Z nm), (2, Pt b2 0)], 7, vs, Ms, (fun j => match j with | 1 => [(0, 7)] | 3 => [(2, 9)] | 4 => [(1, 8), (3, 10)] | 5 => [(4, 11)] | _ => []), (fun j => match j with | 1 => [6] | 4 => [3] | _ => []), (fun _ => []), (fun _ => none), fun _ => [], fun _ _ _ => True⟩) [(5, 6)] [6] mixT (by repeat (first | exact SubE.nil | refine SubE.cons _ _ _ rfl ?_)) (fun _ _ => .nil) (Less.refl _) (by kernel_rfl) (by kernel_rfl) (by kernel_rfl) ?_ ?_
  · refine ⟨?_, ?_, ?_, ?_, ?_, ?_, trivial⟩
    · (intro x EF MF Q kk; exact JL.q (OQ.fldx (o := 0) rfl rfl rfl (by decide) rfl rfl) rfl (JL.nil (kk default nofun)))
    · (intro x EF MF Q kk; exact JL.q (OQ.load fsC rfl .here (Row.cell (v := f.v) rfl)) rfl (JL.nil (kk default nofun)))
    · (intro x EF MF Q kk; exact JL.q (OQ.move rfl) rfl (JL.nil (kk default nofun)))
    · (intro x EF MF Q kk; exact JL.callg (ι := Nat) (vs := [Z nm]) (fun bn => namedV bn) (fun bn => [⟨bn, Row 9 [Z nm], true⟩]) goes_named rfl rfl (fun bn e he => by rw [List.mem_singleton.1 he]) (fun w' _ => named_any nm w') fun bn => JL.nil (kk bn nofun))
    · (intro x EF MF Q kk; exact JL.q (OQ.callx (vs := [f.v, namedV (x 3)]) goes_ixfun rfl (ci _ (x 3))) rfl (JL.nil (kk default nofun)))
    · (intro x EF MF Q kk; exact JL.q (OQ.assign rfl) rfl (JL.nil (kk default nofun)))
  intro x hx
  show JE _ _ _ _ _ [(6, .int .i64 (ixV (fun c => sameB c.1 nm) f.l)), (1, Z nm), (2, Pt b2 0)] [⟨b2, Row 25 [f.v, s.v], true⟩]
  clear ci hx x vs Ms
  by_cases hx : ixP (fun c => sameB c.1 nm) f.l < f.l.length
  · rw [if_pos hx, decide_eq_true hx, ixV_yes hx]
    have h0 : decide (((ixP (fun c => sameB c.1 nm) f.l : Nat) : Int) < 0) = false := decide_eq_false (by omega)
    obtain ⟨ba, ja, eA, la, ca1, ca2⟩ := hf.at hx
    have vA : f.v = .slice (some ⟨ba, ja, none⟩) f.l.length f.cap := by rw [← eA]; rfl
    generalize ixP (fun c => sameB c.1 nm) f.l = i at *
    rw [vA]
    repeat (first | refine JL.q (by first | (apply OQ.lssB (b := 0); exact rfl; exact rfl; exact h0) | (apply OQ.move; exact rfl) | (apply OQ.assign; exact rfl) | (apply OQ.len; exact rfl; exact rfl) | (apply OQ.addN; exact rfl; exact rfl; exact (by (try simp only []); omega)) | (apply OQ.subN; exact rfl; exact rfl; exact (by (try simp only []); omega); exact (by (try simp only []); omega)) | (apply OQ.lssN; exact rfl; exact rfl) | (apply OQ.fld; exact rfl; exact rfl; exact rfl; exact (by decide); exact rfl)) rfl ?_ | refine JC.seq ?_ | refine JC.region ?_ | refine JC.block ?_ | refine JC.skip ?_ | refine JC.exit ?_ | refine JL.nil ?_ | refine JE.next ?_ | refine JE.blk_normal ?_ | refine JE.then_exit ?_ | refine JE.blk_hit ?_ | refine JE.blk_miss rfl ?_ | refine JE.then_ret ?_ | refine JE.blk_ret ?_ | refine JC.label ?_ | refine JL.gon rfl rfl ?_ | refine JL.gskip rfl rfl rfl rfl ?_ | refine JL.gskipU rfl rfl rfl rfl ?_)
    refine JC.cond rfl (fun h => by cases h) (fun _ => ?_)
    repeat (first | refine JL.q (by first | (apply OQ.load; exact fsC; exact rfl; exact .here; exact (Row.cell (v := .slice (some ⟨ba, ja, none⟩) f.l.length f.cap) rfl)) | (apply OQ.idxS; exact Tryd.underlying22; exact fieldS; exact rfl; exact rfl; exact hx) | (apply OQ.load_old; exact strC; exact rfl; exact la; exact (by simp); exact ca2) | (apply OQ.move; exact rfl) | (apply OQ.assign; exact rfl) | (apply OQ.len; exact rfl; exact rfl) | (apply OQ.addN; exact rfl; exact rfl; exact (by (try simp only []); omega)) | (apply OQ.subN; exact rfl; exact rfl; exact (by (try simp only []); omega); exact (by (try simp only []); omega)) | (apply OQ.lssN; exact rfl; exact rfl) | (apply OQ.fld; exact rfl; exact rfl; exact rfl; exact (by decide); exact rfl)) rfl ?_ | refine JC.seq ?_ | refine JC.region ?_ | refine JC.block ?_ | refine JC.skip ?_ | refine JC.exit ?_ | refine JL.nil ?_ | refine JE.next ?_ | refine JE.blk_normal ?_ | refine JE.then_exit ?_ | refine JE.blk_hit ?_ | refine JE.blk_miss rfl ?_ | refine JE.then_ret ?_ | refine JE.blk_ret ?_ | refine JC.label ?_ | refine JL.gon rfl rfl ?_ | refine JL.gskip rfl rfl rfl rfl ?_ | refine JL.gskipU rfl rfl rfl rfl ?_)
    refine JC.ret ?_
    repeat (first | refine JL.q (by first | (apply OQ.move; exact rfl) | (apply OQ.assign; exact rfl) | (apply OQ.len; exact rfl; exact rfl) | (apply OQ.addN; exact rfl; exact rfl; exact (by (try simp only []); omega)) | (apply OQ.subN; exact rfl; exact rfl; exact (by (try simp only []); omega); exact (by (try simp only []); omega)) | (apply OQ.lssN; exact rfl; exact rfl) | (apply OQ.fld; exact rfl; exact rfl; exact rfl; exact (by decide); exact rfl)) rfl ?_ | refine JC.seq ?_ | refine JC.region ?_ | refine JC.block ?_ | refine JC.skip ?_ | refine JC.exit ?_ | refine JL.nil ?_ | refine JE.next ?_ | refine JE.blk_normal ?_ | refine JE.then_exit ?_ | refine JE.blk_hit ?_ | refine JE.blk_miss rfl ?_ | refine JE.then_ret ?_ | refine JE.blk_ret ?_ | refine JC.label ?_ | refine JL.gon rfl rfl ?_ | refine JL.gskip rfl rfl rfl rfl ?_ | refine JL.gskipU rfl rfl rfl rfl ?_)
    exact JE.ret2 rfl (RV.tmp rfl) (RV.tmp rfl) fun w' hw => ⟨rfl, hw.chg⟩
  · rw [if_neg hx, decide_eq_false hx, ixV_no hx]
    have h0 : decide ((-1 : Int) < 0) = true := rfl
    repeat (first | refine JL.q (by first | (apply OQ.lssB (b := 0); exact rfl; exact rfl; exact h0) | (apply OQ.move; exact rfl) | (apply OQ.assign; exact rfl) | (apply OQ.len; exact rfl; exact rfl) | (apply OQ.addN; exact rfl; exact rfl; exact (by (try simp only []); omega)) | (apply OQ.subN; exact rfl; exact rfl; exact (by (try simp only []); omega); exact (by (try simp only []); omega)) | (apply OQ.lssN; exact rfl; exact rfl) | (apply OQ.fld; exact rfl; exact rfl; exact rfl; exact (by decide); exact rfl)) rfl ?_ | refine JC.seq ?_ | refine JC.region ?_ | refine JC.block ?_ | refine JC.skip ?_ | refine JC.exit ?_ | refine JL.nil ?_ | refine JE.next ?_ | refine JE.blk_normal ?_ | refine JE.then_exit ?_ | refine JE.blk_hit ?_ | refine JE.blk_miss rfl ?_ | refine JE.then_ret ?_ | refine JE.blk_ret ?_ | refine JC.label ?_ | refine JL.gon rfl rfl ?_ | refine JL.gskip rfl rfl rfl rfl ?_ | refine JL.gskipU rfl rfl rfl rfl ?_)
    refine JC.cond rfl (fun _ => ?_) (fun h => by cases h)
    repeat (first | refine JL.q (by first | (apply OQ.move; exact rfl) | (apply OQ.assign; exact rfl) | (apply OQ.len; exact rfl; exact rfl) | (apply OQ.addN; exact rfl; exact rfl; exact (by (try simp only []); omega)) | (apply OQ.subN; exact rfl; exact rfl; exact (by (try simp only []); omega); exact (by (try simp only []); omega)) | (apply OQ.lssN; exact rfl; exact rfl) | (apply OQ.fld; exact rfl; exact rfl; exact rfl; exact (by decide); exact rfl)) rfl ?_ | refine JC.seq ?_ | refine JC.region ?_ | refine JC.block ?_ | refine JC.skip ?_ | refine JC.exit ?_ | refine JL.nil ?_ | refine JE.next ?_ | refine JE.blk_normal ?_ | refine JE.then_exit ?_ | refine JE.blk_hit ?_ | refine JE.blk_miss rfl ?_ | refine JE.then_ret ?_ | refine JE.blk_ret ?_ | refine JC.label ?_ | refine JL.gon rfl rfl ?_ | refine JL.gskip rfl rfl rfl rfl ?_ | refine JL.gskipU rfl rfl rfl rfl ?_)
    refine JC.ret ?_
    repeat (first | refine JL.q (by first | (apply OQ.move; exact rfl) | (apply OQ.assign; exact rfl) | (apply OQ.len; exact rfl; exact rfl) | (apply OQ.addN; exact rfl; exact rfl; exact (by (try simp only []); omega)) | (apply OQ.subN; exact rfl; exact rfl; exact (by (try simp only []); omega); exact (by (try simp only []); omega)) | (apply OQ.lssN; exact rfl; exact rfl) | (apply OQ.fld; exact rfl; exact rfl; exact rfl; exact (by decide); exact rfl)) rfl ?_ | refine JC.seq ?_ | refine JC.region ?_ | refine JC.block ?_ | refine JC.skip ?_ | refine JC.exit ?_ | refine JL.nil ?_ | refine JE.next ?_ | refine JE.blk_normal ?_ | refine JE.then_exit ?_ | refine JE.blk_hit ?_ | refine JE.blk_miss rfl ?_ | refine JE.then_ret ?_ | refine JE.blk_ret ?_ | refine JC.label ?_ | refine JL.gon rfl rfl ?_ | refine JL.gskip rfl rfl rfl rfl ?_ | refine JL.gskipU rfl rfl rfl rfl ?_)
    exact JE.ret2 rfl (RV.tmp rfl) (RV.tmp rfl) fun w' hw => ⟨rfl, hw.chg⟩
structure AllT where
  i : Nat
  o : List (List Bt)
  q : Acc
set_option maxHeartbeats 16000000 in
theorem lall_any (f : Sl2) (s : Sl8) (nm : List Bt) (w : World) (hf : f.ok w) (hz : small2 f) (hl : f.l.length ≤ 1000000) : Calls Tryd.prog 7 [.agg #[f.v, s.v], Z nm].toArray w fun e w' => ∃ z : Gz (allB nm f.l), e = .returned z.z.v ∧ Holds w [] z.z.ents w' := by
  refine enter (n := 28) Tryd.func7 rfl rfl rfl (Holds.start w []) ?_
  refine JC.seq (JC.region (JL.box (r := [f.v, s.v]) rfl rfl rfl fun b2 _ => ?_))
  repeat (first | refine JL.q (by first | (apply OQ.move; exact rfl) | (apply OQ.assign; exact rfl) | (apply OQ.len; exact rfl; exact rfl) | (apply OQ.addN; exact rfl; exact rfl; exact (by (try simp only []); omega)) | (apply OQ.subN; exact rfl; exact rfl; exact (by (try simp only []); omega); exact (by (try simp only []); omega)) | (apply OQ.lssN; exact rfl; exact rfl) | (apply OQ.fld; exact rfl; exact rfl; exact rfl; exact (by decide); exact rfl)) rfl ?_ | refine JC.seq ?_ | refine JC.region ?_ | refine JC.block ?_ | refine JC.skip ?_ | refine JC.exit ?_ | refine JL.nil ?_ | refine JE.next ?_ | refine JE.blk_normal ?_ | refine JE.then_exit ?_ | refine JE.blk_hit ?_ | refine JE.blk_miss rfl ?_ | refine JE.then_ret ?_ | refine JE.blk_ret ?_ | refine JC.label ?_ | refine JL.gon rfl rfl ?_ | refine JL.gskip rfl rfl rfl rfl ?_ | refine JL.gskipU rfl rfl rfl rfl ?_)
  refine JL.callg (ι := Nat) (vs := [Z nm]) (fun bn => namedV bn) (fun bn => [⟨bn, Row 9 [Z nm], true⟩]) goes_named rfl rfl (fun bn e he => by rw [List.mem_singleton.1 he]) (fun w' _ => named_any nm w') fun bn => ?_
  repeat (first | refine JL.q (by first | (apply OQ.load; exact fsC; exact rfl; exact (.there .here); exact (Row.cell (v := f.v) rfl)) | (apply OQ.len; exact Tryd.underlying22; exact rfl) | (apply OQ.move; exact rfl) | (apply OQ.assign; exact rfl) | (apply OQ.len; exact rfl; exact rfl) | (apply OQ.addN; exact rfl; exact rfl; exact (by (try simp only []); omega)) | (apply OQ.subN; exact rfl; exact rfl; exact (by (try simp only []); omega); exact (by (try simp only []); omega)) | (apply OQ.lssN; exact rfl; exact rfl) | (apply OQ.fld; exact rfl; exact rfl; exact rfl; exact (by decide); exact rfl)) rfl ?_ | refine JC.seq ?_ | refine JC.region ?_ | refine JC.block ?_ | refine JC.skip ?_ | refine JC.exit ?_ | refine JL.nil ?_ | refine JE.next ?_ | refine JE.blk_normal ?_ | refine JE.then_exit ?_ | refine JE.blk_hit ?_ | refine JE.blk_miss rfl ?_ | refine JE.then_ret ?_ | refine JE.blk_ret ?_ | refine JC.label ?_ | refine JL.gon rfl rfl ?_ | refine JL.gskip rfl rfl rfl rfl ?_ | refine JL.gskipU rfl rfl rfl rfl ?_)
  refine JC.loop (fun z : AllT => [(5, accV z.q z.o.length), (6, namedV bn), (12, f.v), (13, N f.l.length), (14, N z.i)]) (fun z => accE 9 z.q (z.o.map Z) ++ [⟨bn, Row 9 [Z nm], true⟩]) (fun z => f.l.length - z.i) (fun z => z.i ≤ f.l.length ∧ z.o.length ≤ z.i ∧ (z.q = none → z.o = []) ∧ allB nm f.l = z.o ++ allB nm (f.l.drop z.i)) ⟨0, [], none⟩ ⟨Nat.zero_le _, Nat.le_refl _, fun _ => rfl, rfl⟩ (by repeat (first | exact SubE.nil | refine SubE.cons _ _ _ rfl ?_)) (.keep _ _ _ _ _ _ (fun _ h => h) (.nil _)) ?_
  rintro ⟨i, o, q⟩ ⟨hi, ho, hq, hp⟩
  dsimp only at hi ho hq hp ⊢
  repeat (first | refine JL.q (by first | (apply OQ.move; exact rfl) | (apply OQ.assign; exact rfl) | (apply OQ.len; exact rfl; exact rfl) | (apply OQ.addN; exact rfl; exact rfl; exact (by (try simp only []); omega)) | (apply OQ.subN; exact rfl; exact rfl; exact (by (try simp only []); omega); exact (by (try simp only []); omega)) | (apply OQ.lssN; exact rfl; exact rfl) | (apply OQ.fld; exact rfl; exact rfl; exact rfl; exact (by decide); exact rfl)) rfl ?_ | refine JC.seq ?_ | refine JC.region ?_ | refine JC.block ?_ | refine JC.skip ?_ | refine JC.exit ?_ | refine JL.nil ?_ | refine JE.next ?_ | refine JE.blk_normal ?_ | refine JE.then_exit ?_ | refine JE.blk_hit ?_ | refine JE.blk_miss rfl ?_ | refine JE.then_ret ?_ | refine JE.blk_ret ?_ | refine JC.label ?_ | refine JL.gon rfl rfl ?_ | refine JL.gskip rfl rfl rfl rfl ?_ | refine JL.gskipU rfl rfl rfl rfl ?_)
  refine JC.cond rfl (fun h => ?_) (fun h => ?_)
  · have hi' : i < f.l.length := of_decide_eq_true h
    clear h hi
    obtain ⟨ba, ja, eA, la, ca1, ca2⟩ := hf.at hi'
    have vA : f.v = .slice (some ⟨ba, ja, none⟩) f.l.length f.cap := by rw [← eA]; rfl
    have cA := pair_cells ca1 ca2
    have hDi : Low (f.l.getD i ([], [])) := low_of hz _ (mem_getD hi')
    rw [drop_pr hi', all_cons] at hp
    generalize f.l.getD i ([], []) = c at hp cA hDi
    rw [vA]
    repeat (first | refine JL.q (by first | (apply OQ.idxS; exact Tryd.underlying22; exact fieldS; exact rfl; exact rfl; exact hi') | (apply OQ.load_agg_old (cs := pc c); exact fieldA; exact rfl; exact fieldS; exact la; exact (by simp); exact cA) | (apply OQ.move; exact rfl) | (apply OQ.assign; exact rfl) | (apply OQ.len; exact rfl; exact rfl) | (apply OQ.addN; exact rfl; exact rfl; exact (by (try simp only []); omega)) | (apply OQ.subN; exact rfl; exact rfl; exact (by (try simp only []); omega); exact (by (try simp only []); omega)) | (apply OQ.lssN; exact rfl; exact rfl) | (apply OQ.fld; exact rfl; exact rfl; exact rfl; exact (by decide); exact rfl)) rfl ?_ | refine JC.seq ?_ | refine JC.region ?_ | refine JC.block ?_ | refine JC.skip ?_ | refine JC.exit ?_ | refine JL.nil ?_ | refine JE.next ?_ | refine JE.blk_normal ?_ | refine JE.then_exit ?_ | refine JE.blk_hit ?_ | refine JE.blk_miss rfl ?_ | refine JE.then_ret ?_ | refine JE.blk_ret ?_ | refine JC.label ?_ | refine JL.gon rfl rfl ?_ | refine JL.gskip rfl rfl rfl rfl ?_ | refine JL.gskipU rfl rfl rfl rfl ?_)
    refine JL.alloc fieldZb rfl fun b8 _ => ?_
    refine JL.store_all (cs := pc c) fieldS rfl rfl rfl rfl .here rfl ?_
    have hN : ∀ w', Holds w [] (⟨b8, Row 46 (pc c), true⟩ :: (accE 9 q (o.map Z) ++ [⟨bn, Row 9 [Z nm], true⟩])) w' → NameAt bn nm w' := fun w' hw' => nameAt (M := [⟨bn, Row 9 [Z nm], true⟩]) (Sl.Holds.weak hw' (.drop _ _ _ (less_post _ _))) .here
    cases h1 : sameB c.1 nm
    · rw [h1, if_neg (by decide)] at hp
      repeat (first | refine JL.q (by first | (apply OQ.load_agg (cs := pc c); exact fieldA; exact fieldS; exact rfl; exact .here; exact rfl; exact Row.all) | (apply OQ.callP; exact (fun_named bn nm); exact hDi; exact hN; exact rfl; exact rfl; exact h1) | (apply OQ.move; exact rfl) | (apply OQ.assign; exact rfl) | (apply OQ.len; exact rfl; exact rfl) | (apply OQ.addN; exact rfl; exact rfl; exact (by (try simp only []); omega)) | (apply OQ.subN; exact rfl; exact rfl; exact (by (try simp only []); omega); exact (by (try simp only []); omega)) | (apply OQ.lssN; exact rfl; exact rfl) | (apply OQ.fld; exact rfl; exact rfl; exact rfl; exact (by decide); exact rfl)) rfl ?_ | refine JC.seq ?_ | refine JC.region ?_ | refine JC.block ?_ | refine JC.skip ?_ | refine JC.exit ?_ | refine JL.nil ?_ | refine JE.next ?_ | refine JE.blk_normal ?_ | refine JE.then_exit ?_ | refine JE.blk_hit ?_ | refine JE.blk_miss rfl ?_ | refine JE.then_ret ?_ | refine JE.blk_ret ?_ | refine JC.label ?_ | refine JL.gon rfl rfl ?_ | refine JL.gskip rfl rfl rfl rfl ?_ | refine JL.gskipU rfl rfl rfl rfl ?_)
      refine JC.cond rfl (fun h => by cases h) (fun _ => ?_)
      repeat (first | refine JL.q (by first | (apply OQ.move; exact rfl) | (apply OQ.assign; exact rfl) | (apply OQ.len; exact rfl; exact rfl) | (apply OQ.addN; exact rfl; exact rfl; exact (by (try simp only []); omega)) | (apply OQ.subN; exact rfl; exact rfl; exact (by (try simp only []); omega); exact (by (try simp only []); omega)) | (apply OQ.lssN; exact rfl; exact rfl) | (apply OQ.fld; exact rfl; exact rfl; exact rfl; exact (by decide); exact rfl)) rfl ?_ | refine JC.seq ?_ | refine JC.region ?_ | refine JC.block ?_ | refine JC.skip ?_ | refine JC.exit ?_ | refine JL.nil ?_ | refine JE.next ?_ | refine JE.blk_normal ?_ | refine JE.then_exit ?_ | refine JE.blk_hit ?_ | refine JE.blk_miss rfl ?_ | refine JE.then_ret ?_ | refine JE.blk_ret ?_ | refine JC.label ?_ | refine JL.gon rfl rfl ?_ | refine JL.gskip rfl rfl rfl rfl ?_ | refine JL.gskipU rfl rfl rfl rfl ?_)
      rw [← vA]
      exact JE.again (i := AllT.mk i o q) (AllT.mk (i + 1) o q) ⟨hi', by dsimp only; omega, hq, hp⟩ (by dsimp only; omega) (by repeat (first | exact SubE.nil | refine SubE.cons _ _ _ rfl ?_)) (.drop _ _ _ (Less.refl _))
    · rw [h1, if_pos rfl] at hp
      repeat (first | refine JL.q (by first | (apply OQ.load_agg (cs := pc c); exact fieldA; exact fieldS; exact rfl; exact .here; exact rfl; exact Row.all) | (apply OQ.callP; exact (fun_named bn nm); exact hDi; exact hN; exact rfl; exact rfl; exact h1) | (apply OQ.move; exact rfl) | (apply OQ.assign; exact rfl) | (apply OQ.len; exact rfl; exact rfl) | (apply OQ.addN; exact rfl; exact rfl; exact (by (try simp only []); omega)) | (apply OQ.subN; exact rfl; exact rfl; exact (by (try simp only []); omega); exact (by (try simp only []); omega)) | (apply OQ.lssN; exact rfl; exact rfl) | (apply OQ.fld; exact rfl; exact rfl; exact rfl; exact (by decide); exact rfl)) rfl ?_ | refine JC.seq ?_ | refine JC.region ?_ | refine JC.block ?_ | refine JC.skip ?_ | refine JC.exit ?_ | refine JL.nil ?_ | refine JE.next ?_ | refine JE.blk_normal ?_ | refine JE.then_exit ?_ | refine JE.blk_hit ?_ | refine JE.blk_miss rfl ?_ | refine JE.then_ret ?_ | refine JE.blk_ret ?_ | refine JC.label ?_ | refine JL.gon rfl rfl ?_ | refine JL.gskip rfl rfl rfl rfl ?_ | refine JL.gskipU rfl rfl rfl rfl ?_)
      refine JC.cond rfl (fun _ => ?_) (fun h => by cases h)
      repeat (first | refine JL.q (by first | (apply OQ.load; exact strC; exact rfl; exact .here; exact (Row.cell (v := Z c.2) rfl)) | (apply OQ.move; exact rfl) | (apply OQ.assign; exact rfl) | (apply OQ.len; exact rfl; exact rfl) | (apply OQ.addN; exact rfl; exact rfl; exact (by (try simp only []); omega)) | (apply OQ.subN; exact rfl; exact rfl; exact (by (try simp only []); omega); exact (by (try simp only []); omega)) | (apply OQ.lssN; exact rfl; exact rfl) | (apply OQ.fld; exact rfl; exact rfl; exact rfl; exact (by decide); exact rfl)) rfl ?_ | refine JC.seq ?_ | refine JC.region ?_ | refine JC.block ?_ | refine JC.skip ?_ | refine JC.exit ?_ | refine JL.nil ?_ | refine JE.next ?_ | refine JE.blk_normal ?_ | refine JE.then_exit ?_ | refine JE.blk_hit ?_ | refine JE.blk_miss rfl ?_ | refine JE.then_ret ?_ | refine JE.blk_ret ?_ | refine JC.label ?_ | refine JL.gon rfl rfl ?_ | refine JL.gskip rfl rfl rfl rfl ?_ | refine JL.gskipU rfl rfl rfl rfl ?_)
      refine JL.lit1 (v := Z c.2) Tryd.underlying28 strE rfl rfl rfl rfl fun bl _ => ?_
      refine JL.lessM (M' := ⟨bl, Row 9 [Z c.2], true⟩ :: (accE 9 q (o.map Z) ++ [⟨bn, Row 9 [Z nm], true⟩])) ?_ (.keep _ _ _ _ _ _ (fun _ h => h) (.drop _ _ _ (Less.refl _)))
      refine JL.appendT (p := c.2) (L := o) q Tryd.underlying28 strE hq rfl rfl rfl (by omega) (by omega) rfl fun b' cap' => ?_
      repeat (first | refine JL.q (by first | (apply OQ.move; exact rfl) | (apply OQ.assign; exact rfl) | (apply OQ.len; exact rfl; exact rfl) | (apply OQ.addN; exact rfl; exact rfl; exact (by (try simp only []); omega)) | (apply OQ.subN; exact rfl; exact rfl; exact (by (try simp only []); omega); exact (by (try simp only []); omega)) | (apply OQ.lssN; exact rfl; exact rfl) | (apply OQ.fld; exact rfl; exact rfl; exact rfl; exact (by decide); exact rfl)) rfl ?_ | refine JC.seq ?_ | refine JC.region ?_ | refine JC.block ?_ | refine JC.skip ?_ | refine JC.exit ?_ | refine JL.nil ?_ | refine JE.next ?_ | refine JE.blk_normal ?_ | refine JE.then_exit ?_ | refine JE.blk_hit ?_ | refine JE.blk_miss rfl ?_ | refine JE.then_ret ?_ | refine JE.blk_ret ?_ | refine JC.label ?_ | refine JL.gon rfl rfl ?_ | refine JL.gskip rfl rfl rfl rfl ?_ | refine JL.gskipU rfl rfl rfl rfl ?_)
      rw [← vA]
      have eN : (o ++ [c.2]).length = o.length + 1 := List.length_append
      exact JE.again (i := AllT.mk i o q) (AllT.mk (i + 1) (o ++ [c.2]) (some (b', cap'))) ⟨hi', by dsimp only; rw [eN]; omega, nofun, by dsimp only; rw [hp, List.append_assoc]; rfl⟩ (by dsimp only; omega) (by repeat (first | exact SubE.nil | refine SubE.cons _ _ _ rfl ?_)) (Less.refl _)
  · have hi' : ¬ i < f.l.length := of_decide_eq_false h
    clear h
    rw [List.drop_eq_nil_of_le (by omega), all_nil, List.append_nil] at hp
    repeat (first | refine JL.q (by first | (apply OQ.move; exact rfl) | (apply OQ.assign; exact rfl) | (apply OQ.len; exact rfl; exact rfl) | (apply OQ.addN; exact rfl; exact rfl; exact (by (try simp only []); omega)) | (apply OQ.subN; exact rfl; exact rfl; exact (by (try simp only []); omega); exact (by (try simp only []); omega)) | (apply OQ.lssN; exact rfl; exact rfl) | (apply OQ.fld; exact rfl; exact rfl; exact rfl; exact (by decide); exact rfl)) rfl ?_ | refine JC.seq ?_ | refine JC.region ?_ | refine JC.block ?_ | refine JC.skip ?_ | refine JC.exit ?_ | refine JL.nil ?_ | refine JE.next ?_ | refine JE.blk_normal ?_ | refine JE.then_exit ?_ | refine JE.blk_hit ?_ | refine JE.blk_miss rfl ?_ | refine JE.then_ret ?_ | refine JE.blk_ret ?_ | refine JC.label ?_ | refine JL.gon rfl rfl ?_ | refine JL.gskip rfl rfl rfl rfl ?_ | refine JL.gskipU rfl rfl rfl rfl ?_)
    refine JC.ret ?_
    repeat (first | refine JL.q (by first | (apply OQ.move; exact rfl) | (apply OQ.assign; exact rfl) | (apply OQ.len; exact rfl; exact rfl) | (apply OQ.addN; exact rfl; exact rfl; exact (by (try simp only []); omega)) | (apply OQ.subN; exact rfl; exact rfl; exact (by (try simp only []); omega); exact (by (try simp only []); omega)) | (apply OQ.lssN; exact rfl; exact rfl) | (apply OQ.fld; exact rfl; exact rfl; exact rfl; exact (by decide); exact rfl)) rfl ?_ | refine JC.seq ?_ | refine JC.region ?_ | refine JC.block ?_ | refine JC.skip ?_ | refine JC.exit ?_ | refine JL.nil ?_ | refine JE.next ?_ | refine JE.blk_normal ?_ | refine JE.then_exit ?_ | refine JE.blk_hit ?_ | refine JE.blk_miss rfl ?_ | refine JE.then_ret ?_ | refine JE.blk_ret ?_ | refine JC.label ?_ | refine JL.gon rfl rfl ?_ | refine JL.gskip rfl rfl rfl rfl ?_ | refine JL.gskipU rfl rfl rfl rfl ?_)
    refine JE.ret1 rfl (RV.tmp rfl) fun w' hw => ?_
    rw [hp]
    obtain ⟨z, z1, z2⟩ := accZ_ents (Sl.Holds.weak hw (less_of_sub (List.sublist_append_left _ _))) hq
    exact ⟨z, by rw [z1], z2⟩
end Go.Proofs.YtikhlddemdlmgaaDoor

/-
  Of no statement by itself: what the landed letter's Drop and Set give.
  Conditions: each theorem's own.
-/
namespace Go.Proofs.YtikhlddemdlmgaaDoor
set_option maxRecDepth 10000
open Sl Fld
instance {A : Prop} : Inhabited { q : Acc // q = none → A } := ⟨⟨some (0, 0), nofun⟩⟩
theorem accP_wr (e : TypeId) (q : Acc) (l : List Pr) : ∀ x ∈ accP e q l, x.wr = true := by
  intro x hx
  cases q with
  | none => cases hx
  | some p => rw [List.mem_singleton.1 hx]
theorem accP_ents {e : TypeId} (q : Acc) (l : List Pr) : Less (accLp q l).ents (accP e q l) := by
  cases q with
  | none => exact .nil _
  | some p => exact own2_ents
theorem accLp_n {q : Acc} {l : List Pr} : (accLp q l).ad = none → (accLp q l).l = [] := by
  cases q with
  | none => intro _; rfl
  | some p => nofun
theorem accV_one (q : Acc) (k : Nat) : (accV q k).oneCell' = true := by cases q <;> rfl
theorem accV_two (p q : Acc) (j k : Nat) : [accV p j, accV q k].all Value.oneCell' = true := by
  rw [List.all_cons, List.all_cons, accV_one, accV_one]
  rfl
theorem built_L (p q : Acc) (j k : Nat) : Tryd.prog.built 25 [(0, accV p j), (1, accV q k)] = some #[accV p j, accV q k] := by
  cases p <;> cases q <;> kernel_rfl
theorem clone8_any (s : Sl8) (w : World) (hs : s.ok w) (hl : s.l.length ≤ 4294967296) : Calls Tryd.prog 23 [s.v].toArray w fun e w' => ∃ q : { q : Acc // q = none → s.l = [] }, e = .returned (accV q.1 s.l.length) ∧ Holds w [] (accE 5 q.1 (s.l.map U8)) w' :=
  (clone_any s w hs hl).mono fun _ _ ⟨q, h1, h2, h3⟩ => ⟨⟨q, h2⟩, h1, h3⟩
abbrev DrT (f : List Pr) (s : List Bt) := { q : Acc // AccOk f q } × { q : Acc // q = none → s = [] } × Nat
set_option maxHeartbeats 32000000 in
theorem ldropA_any (f : Sl2) (s : Sl8) (nm : List Bt) (w : World) (hf : f.ok w) (hs : s.ok w) (hz : small2 f) (hl : f.l.length ≤ 1000000) (hl2 : s.l.length ≤ 4294967296) : Calls Tryd.prog 11 [.agg #[f.v, s.v], Z nm].toArray w fun e w' =>
    ∃ y : DrT f.l s.l, e = .returned (.agg #[accV y.1.1 (dropB nm f.l).length, accV y.2.1.1 s.l.length]) ∧ Holds w [] (accP 46 y.1.1 (dropB nm f.l) ++ accE 5 y.2.1.1 (s.l.map U8)) w' := by
  refine enter (n := 15) Tryd.func11 rfl rfl rfl (Holds.start w []) ?_
  refine JC.seq (JC.region (JL.box (r := [f.v, s.v]) rfl rfl rfl fun b2 _ => ?_))
  refine JL.alloc letZ rfl fun b4 _ => ?_
  repeat (first | refine JL.q (by first | (apply OQ.move; exact rfl) | (apply OQ.assign; exact rfl) | (apply OQ.len; exact rfl; exact rfl) | (apply OQ.addN; exact rfl; exact rfl; exact (by (try simp only []); omega)) | (apply OQ.subN; exact rfl; exact rfl; exact (by (try simp only []); omega); exact (by (try simp only []); omega)) | (apply OQ.lssN; exact rfl; exact rfl) | (apply OQ.fld; exact rfl; exact rfl; exact rfl; exact (by decide); exact rfl)) rfl ?_ | refine JC.seq ?_ | refine JC.region ?_ | refine JC.block ?_ | refine JC.skip ?_ | refine JC.exit ?_ | refine JL.nil ?_ | refine JE.next ?_ | refine JE.blk_normal ?_ | refine JE.then_exit ?_ | refine JE.blk_hit ?_ | refine JE.blk_miss rfl ?_ | refine JE.then_ret ?_ | refine JE.blk_ret ?_ | refine JC.label ?_ | refine JL.gon rfl rfl ?_ | refine JL.gskip rfl rfl rfl rfl ?_ | refine JL.gskipU rfl rfl rfl rfl ?_)
  have cd : ∀ (q : { q : Acc // AccOk f.l q }) (bn : Nat) (M0 : List Ent) (w' : World), Holds w' (keys (accP 46 q.1 f.l)) (accP 46 q.1 f.l ++ (⟨bn, Row 9 [Z nm], false⟩ :: M0)) w' → Calls Tryd.prog 21 [accV q.1 f.l.length, namedV bn].toArray w' fun e w'' => ∃ _ : Unit, e = .returned (accV q.1 (dropB nm f.l).length) ∧ Holds w' (keys (accP 46 q.1 f.l)) (accP 46 q.1 (dropB nm f.l)) w'' := fun q bn M0 w' h =>
    (del_any (C := NameAt bn nm) (D := Low) q.1 f.l (⟨bn, Row 9 [Z nm], false⟩ :: M0) (namedV bn) (fun c => sameB c.1 nm) w' h q.2.1 (fun_named bn nm) (fun w0 S w'' hw => nameAt hw .here) (low_of hz) hl).mono fun e w'' h => ⟨(), h⟩
  let vs : Nat → DrT f.l s.l → Value := fun j x => match j with
    | 0 => Pt b2 0
    | 1 => f.v
    | 2 => accV x.1.1 f.l.length
    | 3 => Z nm
    | 4 => namedV x.2.2
    | 5 => accV x.1.1 (dropB nm f.l).length
    | 6 => Pt b2 1
    | 7 => s.v
    | 8 => accV x.2.1.1 s.l.length
    | _ => .agg #[accV x.1.1 (dropB nm f.l).length, accV x.2.1.1 s.l.length]
  let Ms : Nat → DrT f.l s.l → List Ent := fun j x => match j with
    | 2 => accP 46 x.1.1 f.l
    | 4 => [⟨x.2.2, Row 9 [Z nm], true⟩]
    | 5 => accP 46 x.1.1 (dropB nm f.l)
    | 8 => accE 5 x.2.1.1 (s.l.map U8)
    | 9 => accP 46 x.1.1 (dropB nm f.l) ++ accE 5 x.2.1.1 (s.l.map U8)
    | 10 => ⟨b4, Row 25 [accV x.1.1 (dropB nm f.l).length, accV x.2.1.1 s.l.length], true⟩ :: (accP 46 x.1.1 (dropB nm f.l) ++ accE 5 x.2.1.1 (s.l.map U8))
    | 11 => [⟨b4, Row 25 [nil2.v, nilS.v], true⟩]
    | 12 => [⟨b2, Row 25 [f.v, s.v], true⟩]
    | _ => []
  refine JC.growR (g := ⟨[(1, Z nm), (2, Pt b2 0), (4, Pt b4 0)], 13, vs, Ms, (fun j => match j with | 1 => [(0, 5)] | 2 => [(1, 6)] | 4 => [(3, 8)] | 5 => [(2, 7), (4, 9)] | 7 => [(6, 11)] | 8 => [(7, 12)] | 9 => [(5, 10), (8, 13)] | 10 => [(9, 14)] | _ => []), (fun j => match j with | 1 => [12] | 5 => [2, 4] | 7 => [12] | 9 => [5, 8] | 10 => [11, 9] | _ => []), (fun j => match j with | 5 => [2, 4] | 9 => [5, 8] | 10 => [11, 9] | _ => []), (fun _ => none), fun _ => [], fun _ _ _ => True⟩) [] [10] mixT (by repeat (first | exact SubE.nil | refine SubE.cons _ _ _ rfl ?_)) (fun _ _ => .nil) (Less.refl _) (by kernel_rfl) (by kernel_rfl) (by kernel_rfl) ?_ ?_
  · refine ⟨?_, ?_, ?_, ?_, ?_, ?_, ?_, ?_, ?_, ?_, ?_, trivial⟩
    · (intro x EF MF Q kk; exact JL.q (OQ.fldx (o := 0) rfl rfl rfl (by decide) rfl rfl) rfl (JL.nil (kk default nofun)))
    · (intro x EF MF Q kk; exact JL.q (OQ.load fsC rfl .here (Row.cell (v := f.v) rfl)) rfl (JL.nil (kk default nofun)))
    · (intro x EF MF Q kk; exact JL.callg (ι := { q : Acc // AccOk f.l q }) (vs := [f.v]) (fun q => accV q.1 f.l.length) (fun q => accP 46 q.1 f.l) goes_clone2 rfl rfl (fun q => accP_wr _ _ _) (fun w' hw' => clone2_any f w' (hf.holds hw' rfl) hl) fun q => JL.nil (kk (q, default, 0) nofun))
    · (intro x EF MF Q kk; exact JL.q (OQ.move rfl) rfl (JL.nil (kk default nofun)))
    · (intro x EF MF Q kk; exact JL.callg (ι := Nat) (vs := [Z nm]) (fun bn => namedV bn) (fun bn => [⟨bn, Row 9 [Z nm], true⟩]) goes_named rfl rfl (fun bn e he => by rw [List.mem_singleton.1 he]) (fun w' _ => named_any nm w') fun bn => JL.nil (kk (default, default, bn) nofun))
    · (intro x EF MF Q kk; exact JL.eqM (List.append_assoc (accP 46 (x 2).1.1 f.l) [⟨(x 4).2.2, Row 9 [Z nm], true⟩] MF) (JL.callW (ι := Unit) (X := accP 46 (x 2).1.1 f.l) (M0 := ⟨(x 4).2.2, Row 9 [Z nm], true⟩ :: MF) (vs := [accV (x 2).1.1 f.l.length, namedV (x 4).2.2]) (fun _ => accV (x 2).1.1 (dropB nm f.l).length) (fun _ => accP 46 (x 2).1.1 (dropB nm f.l)) goes_del rfl rfl (accP_wr _ _ _) (fun _ => accP_wr _ _ _) (fun w' hw' => cd (x 2).1 (x 4).2.2 (cold MF) w' hw') fun _ => JL.nil (JE.less (less_mid _) (kk (x 2) nofun))))
    · (intro x EF MF Q kk; exact JL.q (OQ.fldx (o := 1) rfl rfl rfl (by decide) rfl rfl) rfl (JL.nil (kk default nofun)))
    · (intro x EF MF Q kk; exact JL.q (OQ.load bsC rfl .here (Row.cell (v := s.v) rfl)) rfl (JL.nil (kk default nofun)))
    · (intro x EF MF Q kk; exact JL.callg (ι := { q : Acc // q = none → s.l = [] }) (vs := [s.v]) (fun q => accV q.1 s.l.length) (fun q => accE 5 q.1 (s.l.map U8)) goes_clone rfl rfl (fun q => accE_wr _ _ _) (fun w' hw' => clone8_any s w' (hs.holds hw' rfl) hl2) fun q => JL.nil (kk (default, q, 0) nofun))
    · (intro x EF MF Q kk; refine JL.eqM (show (accP 46 (x 5).1.1 (dropB nm f.l) ++ (accE 5 (x 8).2.1.1 (s.l.map U8) ++ [])) ++ MF = (accP 46 (x 5).1.1 (dropB nm f.l) ++ accE 5 (x 8).2.1.1 (s.l.map U8)) ++ MF by rw [List.append_nil]) ?_; exact JL.q (OQ.buildL (a := accV (x 5).1.1 (dropB nm f.l).length) (b := accV (x 8).2.1.1 s.l.length) rfl rfl (built_L _ _ _ _)) rfl (JL.nil (kk ((x 5).1, (x 8).2.1, 0) nofun)))
    · (intro x EF MF Q kk; refine JL.eqM (show ⟨b4, Row 25 [nil2.v, nilS.v], true⟩ :: (((accP 46 (x 9).1.1 (dropB nm f.l) ++ accE 5 (x 9).2.1.1 (s.l.map U8)) ++ []) ++ MF) = ⟨b4, Row 25 [nil2.v, nilS.v], true⟩ :: ((accP 46 (x 9).1.1 (dropB nm f.l) ++ accE 5 (x 9).2.1.1 (s.l.map U8)) ++ MF) by rw [List.append_nil]) ?_; exact JL.store_all (cs := [accV (x 9).1.1 (dropB nm f.l).length, accV (x 9).2.1.1 s.l.length]) letS rfl rfl rfl (accV_two _ _ _ _) .here rfl (JL.nil (kk (x 9) nofun)))
  intro x hx
  show JE _ _ _ _ _ [(1, Z nm), (2, Pt b2 0), (4, Pt b4 0)] ((⟨b4, Row 25 [accV (x 10).1.1 (dropB nm f.l).length, accV (x 10).2.1.1 s.l.length], true⟩ :: (accP 46 (x 10).1.1 (dropB nm f.l) ++ accE 5 (x 10).2.1.1 (s.l.map U8))) ++ [])
  rw [List.append_nil]
  generalize x 10 = y
  clear hx x vs Ms cd
  repeat (first | refine JL.q (by first | (apply OQ.move; exact rfl) | (apply OQ.assign; exact rfl) | (apply OQ.len; exact rfl; exact rfl) | (apply OQ.addN; exact rfl; exact rfl; exact (by (try simp only []); omega)) | (apply OQ.subN; exact rfl; exact rfl; exact (by (try simp only []); omega); exact (by (try simp only []); omega)) | (apply OQ.lssN; exact rfl; exact rfl) | (apply OQ.fld; exact rfl; exact rfl; exact rfl; exact (by decide); exact rfl)) rfl ?_ | refine JC.seq ?_ | refine JC.region ?_ | refine JC.block ?_ | refine JC.skip ?_ | refine JC.exit ?_ | refine JL.nil ?_ | refine JE.next ?_ | refine JE.blk_normal ?_ | refine JE.then_exit ?_ | refine JE.blk_hit ?_ | refine JE.blk_miss rfl ?_ | refine JE.then_ret ?_ | refine JE.blk_ret ?_ | refine JC.label ?_ | refine JL.gon rfl rfl ?_ | refine JL.gskip rfl rfl rfl rfl ?_ | refine JL.gskipU rfl rfl rfl rfl ?_)
  refine JC.ret ?_
  repeat (first | refine JL.q (by first | (apply OQ.move; exact rfl) | (apply OQ.assign; exact rfl) | (apply OQ.len; exact rfl; exact rfl) | (apply OQ.addN; exact rfl; exact rfl; exact (by (try simp only []); omega)) | (apply OQ.subN; exact rfl; exact rfl; exact (by (try simp only []); omega); exact (by (try simp only []); omega)) | (apply OQ.lssN; exact rfl; exact rfl) | (apply OQ.fld; exact rfl; exact rfl; exact rfl; exact (by decide); exact rfl)) rfl ?_ | refine JC.seq ?_ | refine JC.region ?_ | refine JC.block ?_ | refine JC.skip ?_ | refine JC.exit ?_ | refine JL.nil ?_ | refine JE.next ?_ | refine JE.blk_normal ?_ | refine JE.then_exit ?_ | refine JE.blk_hit ?_ | refine JE.blk_miss rfl ?_ | refine JE.then_ret ?_ | refine JE.blk_ret ?_ | refine JC.label ?_ | refine JL.gon rfl rfl ?_ | refine JL.gskip rfl rfl rfl rfl ?_ | refine JL.gskipU rfl rfl rfl rfl ?_)
  exact JE.ret1 rfl (RV.cell_agg (cs := [accV y.1.1 (dropB nm f.l).length, accV y.2.1.1 s.l.length]) letA letS rfl .here rfl Row.all) fun w' hw => ⟨y, rfl, Sl.Holds.weak hw (.drop _ _ _ (Less.refl _))⟩
end Go.Proofs.YtikhlddemdlmgaaDoor

/-
  Of no statement by itself: what the landed letter's Set gives; Drop's and Set's answers as new memory.
  Conditions: each theorem's own.
-/
namespace Go.Proofs.YtikhlddemdlmgaaDoor
set_option maxRecDepth 10000
open Sl Fld
theorem less_two {A B C D : List Ent} (h : Less A B) (k : Less C D) : Less (A ++ C) (B ++ D) := by
  induction h with
  | nil N =>
    induction N with
    | nil => exact k
    | cons e N ih => exact .drop _ _ _ ih
  | keep b A A' wr N N' h _ ih => exact .keep b A A' wr _ _ h ih
  | drop e N N' _ ih => exact .drop e _ _ ih
theorem JC.perm {P : Program} {n : Nat} {w0 : World} {S : List Nat} {Q : Exit → Act → World → Prop} {c : Code} {E : Env} {M M' : List Ent} (h : JC P n w0 S Q c E M') (hp : M.Perm M') : JC P n w0 S Q c E M := ⟨fun a w ha hw => h.go a w ha (hw.perm' hp)⟩
theorem OQ.lenV {P : Program} {n : Nat} {E : Env} {C : World → Prop} {dst : Option Tmp} {t ty e : TypeId} {pos : String} {aft : Array Edge} {g : Option (Nat × Bool)} {x : Operand} {q : Acc} {k : Nat} (hu : P.underlying t = some (.slice e)) (hx : ev E x = some (accV q k)) (hq : q = none → k = 0) : OQ P n E C ⟨dst, .call ⟨.builtin .len, #[x], #[t]⟩, ty, pos, aft, g⟩ (N k) := by
  cases q with
  | none => rw [hq rfl]; exact OQ.len hu hx
  | some r => exact OQ.len hu hx
theorem build_ft {n : Nat} {E : Env} {C : World → Prop} {dst : Option Tmp} {ty : TypeId} {pos : String} {aft : Array Edge} {g : Option (Nat × Bool)} {x y : Operand} {a b : List Bt} (hx : ev E x = some (Z a)) (hy : ev E y = some (Z b)) : OQ Tryd.prog n E C ⟨dst, .build 46 #[(0, x), (1, y)], ty, pos, aft, g⟩ (.agg (pc (a, b)).toArray) := by
  refine OQ.run fun k hk w _ => ?_
  have h1 := hk.eval hx
  have h2 := hk.eval hy
  have h3 := run_build (P := Tryd.prog) w 46 #[(0, Z a), (1, Z b)] #[Z a, Z b] (by kernel_rfl)
  simp [execOp, h1, h2, Sem.run_bind, h3, pc]
theorem perm3X (a b c : Ent) (X Y : List Ent) : (a :: b :: c :: (X ++ Y)).Perm (X ++ (a :: b :: c :: Y)) := List.perm_append_comm_assoc [a, b, c] X Y
theorem goes_ldropA : Goes Tryd.prog 11 := ⟨_, Tryd.func11, rfl, by kernel_rfl⟩
theorem ldrop_any (f : Sl2) (s : Sl8) (nm : List Bt) (w : World) (hf : f.ok w) (hs : s.ok w) (hz : small2 f) (hl : f.l.length ≤ 1000000) (hl2 : s.l.length ≤ 4294967296) : Calls Tryd.prog 11 [.agg #[f.v, s.v], Z nm].toArray w fun e w' => ∃ z : Lt (dropB nm f.l) s.l, e = .returned z.v ∧ Holds w [] z.ents w' := by
  refine (ldropA_any f s nm w hf hs hz hl hl2).mono fun e w' ⟨y, h1, h2⟩ => ?_
  have hq : y.1.1 = none → dropB nm f.l = [] := fun h => by rw [y.1.2.1 h]; rfl
  refine ⟨⟨accLp y.1.1 (dropB nm f.l), accS y.2.1.1 s.l, accLp_l hq, accS_l y.2.1.2, accLp_n, accS_none⟩, ?_, ?_⟩
  · rw [h1, Lt.v, accLp_v, accS_v]
  · exact Sl.Holds.weak h2 (less_two (accP_ents _ _) (accS_ents _ _))
set_option maxHeartbeats 32000000 in
theorem lset_any (f : Sl2) (s : Sl8) (nm vl : List Bt) (w : World) (hf : f.ok w) (hs : s.ok w) (hz : small2 f) (hl : f.l.length ≤ 1000000) (hl2 : s.l.length ≤ 4294967296) : Calls Tryd.prog 10 [.agg #[f.v, s.v], Z nm, Z vl].toArray w fun e w' => ∃ z : Lt (setB nm vl f.l) s.l, e = .returned z.v ∧ Holds w [] z.ents w' := by
  refine enter (n := 32) Tryd.func10 rfl rfl rfl (Holds.start w []) ?_
  refine JC.seq (JC.region (JL.box (r := [f.v, s.v]) rfl rfl rfl fun b3 _ => ?_))
  refine JL.alloc letZ rfl fun b6 _ => ?_
  repeat (first | refine JL.q (by first | (apply OQ.load_agg (cs := [f.v, s.v]); exact letA; exact letS; exact rfl; exact (.there .here); exact rfl; exact Row.all) | (apply OQ.move; exact rfl) | (apply OQ.assign; exact rfl) | (apply OQ.len; exact rfl; exact rfl) | (apply OQ.addN; exact rfl; exact rfl; exact (by (try simp only []); omega)) | (apply OQ.subN; exact rfl; exact rfl; exact (by (try simp only []); omega); exact (by (try simp only []); omega)) | (apply OQ.lssN; exact rfl; exact rfl) | (apply OQ.fld; exact rfl; exact rfl; exact rfl; exact (by decide); exact rfl)) rfl ?_ | refine JC.seq ?_ | refine JC.region ?_ | refine JC.block ?_ | refine JC.skip ?_ | refine JC.exit ?_ | refine JL.nil ?_ | refine JE.next ?_ | refine JE.blk_normal ?_ | refine JE.then_exit ?_ | refine JE.blk_hit ?_ | refine JE.blk_miss rfl ?_ | refine JE.then_ret ?_ | refine JE.blk_ret ?_ | refine JC.label ?_ | refine JL.gon rfl rfl ?_ | refine JL.gskip rfl rfl rfl rfl ?_ | refine JL.gskipU rfl rfl rfl rfl ?_)
  refine JL.callg (ι := DrT f.l s.l) (vs := [.agg #[f.v, s.v], Z nm]) (fun y => .agg #[accV y.1.1 (dropB nm f.l).length, accV y.2.1.1 s.l.length]) (fun y => accP 46 y.1.1 (dropB nm f.l) ++ accE 5 y.2.1.1 (s.l.map U8)) goes_ldropA rfl rfl (fun y e he => by
    rcases List.mem_append.1 he with h | h
    · exact accP_wr _ _ _ e h
    · exact accE_wr _ _ _ e h) (fun w' hw' => ldropA_any f s nm w' (hf.holds hw' rfl) (hs.holds hw' rfl) hz hl hl2) fun y => ?_
  refine JL.alloc letZ rfl fun b7 _ => ?_
  refine JL.store_all (cs := [accV y.1.1 (dropB nm f.l).length, accV y.2.1.1 s.l.length]) letS rfl rfl rfl (accV_two _ _ _ _) .here rfl ?_
  repeat (first | refine JL.q (by first | (apply OQ.move; exact rfl) | (apply OQ.assign; exact rfl) | (apply OQ.len; exact rfl; exact rfl) | (apply OQ.addN; exact rfl; exact rfl; exact (by (try simp only []); omega)) | (apply OQ.subN; exact rfl; exact rfl; exact (by (try simp only []); omega); exact (by (try simp only []); omega)) | (apply OQ.lssN; exact rfl; exact rfl) | (apply OQ.fld; exact rfl; exact rfl; exact rfl; exact (by decide); exact rfl)) rfl ?_ | refine JC.seq ?_ | refine JC.region ?_ | refine JC.block ?_ | refine JC.skip ?_ | refine JC.exit ?_ | refine JL.nil ?_ | refine JE.next ?_ | refine JE.blk_normal ?_ | refine JE.then_exit ?_ | refine JE.blk_hit ?_ | refine JE.blk_miss rfl ?_ | refine JE.then_ret ?_ | refine JE.blk_ret ?_ | refine JC.label ?_ | refine JL.gon rfl rfl ?_ | refine JL.gskip rfl rfl rfl rfl ?_ | refine JL.gskipU rfl rfl rfl rfl ?_)
  have ci : ∀ (M : List Ent) (bn : Nat) (w' : World), Holds w [] (⟨bn, Row 9 [Z nm], true⟩ :: M) w' → Calls Tryd.prog 19 [f.v, namedV bn].toArray w' fun e w'' => e = .returned (.int .i64 (ixV (fun c => sameB c.1 nm) f.l)) ∧ Ext w' w'' := fun M bn w' hw' =>
    ixfun_any (C := NameAt bn nm) (D := Low) f (namedV bn) _ w' (hf.holds hw' rfl) (fun_named bn nm) (fun w'' hx => (nameAt hw' .here).ext hx) (low_of hz) (by omega)
  let vs : Nat → Nat → Value := fun j x => match j with
    | 0 => Pt b3 0
    | 1 => f.v
    | 2 => Z nm
    | 3 => namedV x
    | _ => .int .i64 (ixV (fun c => sameB c.1 nm) f.l)
  let Ms : Nat → Nat → List Ent := fun j x => match j with
    | 3 => [⟨x, Row 9 [Z nm], true⟩]
    | 6 => [⟨b3, Row 25 [f.v, s.v], true⟩]
    | 7 => (⟨b7, Row 25 [accV y.1.1 (dropB nm f.l).length, accV y.2.1.1 s.l.length], true⟩ :: ⟨b6, Row 25 [nil2.v, nilS.v], true⟩ :: (accP 46 y.1.1 (dropB nm f.l) ++ accE 5 y.2.1.1 (s.l.map U8)) : List Ent)
    | _ => []
  refine JC.perm (M' := ⟨b3, Row 25 [f.v, s.v], true⟩ :: (⟨b7, Row 25 [accV y.1.1 (dropB nm f.l).length, accV y.2.1.1 s.l.length], true⟩ :: ⟨b6, Row 25 [nil2.v, nilS.v], true⟩ :: (accP 46 y.1.1 (dropB nm f.l) ++ accE 5 y.2.1.1 (s.l.map U8)) : List Ent)) ?_ ((List.perm_append_comm.cons _).trans (List.perm_middle (l₁ := [_, _])))
  refine JC.growR (g := ⟨[(1, Z nm), (2, Z vl), (3, Pt b3 0), (6, Pt b6 0), (7, Pt b7 0)], 8, vs, Ms, (fun j => match j with | 1 => [(0, 12)] | 3 => [(2, 14)] | 4 => [(1, 13), (3, 15)] | 5 => [(4, 16)] | _ => []), (fun j => match j with | 1 => [6] | 4 => [3] | _ => []), (fun _ => []), (fun _ => none), fun _ => [], fun _ _ _ => True⟩) [(5, 8)] [7] mixT (by repeat (first | exact SubE.nil | refine SubE.cons _ _ _ rfl ?_)) (fun _ _ => .nil) ?_ (by kernel_rfl) (by kernel_rfl) (by kernel_rfl) ?_ ?_
  · show Less ([⟨b3, Row 25 [f.v, s.v], true⟩] ++ ((⟨b7, Row 25 [accV y.1.1 (dropB nm f.l).length, accV y.2.1.1 s.l.length], true⟩ :: ⟨b6, Row 25 [nil2.v, nilS.v], true⟩ :: (accP 46 y.1.1 (dropB nm f.l) ++ accE 5 y.2.1.1 (s.l.map U8)) : List Ent) ++ [])) _
    rw [List.append_nil]
    exact Less.refl _
  · refine ⟨?_, ?_, ?_, ?_, ?_, ?_, trivial⟩
    · (intro x EF MF Q kk; exact JL.q (OQ.fldx (o := 0) rfl rfl rfl (by decide) rfl rfl) rfl (JL.nil (kk default nofun)))
    · (intro x EF MF Q kk; exact JL.q (OQ.load fsC rfl .here (Row.cell (v := f.v) rfl)) rfl (JL.nil (kk default nofun)))
    · (intro x EF MF Q kk; exact JL.q (OQ.move rfl) rfl (JL.nil (kk default nofun)))
    · (intro x EF MF Q kk; exact JL.callg (ι := Nat) (vs := [Z nm]) (fun bn => namedV bn) (fun bn => [⟨bn, Row 9 [Z nm], true⟩]) goes_named rfl rfl (fun bn e he => by rw [List.mem_singleton.1 he]) (fun w' _ => named_any nm w') fun bn => JL.nil (kk bn nofun))
    · (intro x EF MF Q kk; exact JL.q (OQ.callx (vs := [f.v, namedV (x 3)]) goes_ixfun rfl (ci _ (x 3))) rfl (JL.nil (kk default nofun)))
    · (intro x EF MF Q kk; exact JL.q (OQ.assign rfl) rfl (JL.nil (kk default nofun)))
  intro x hx
  show JE _ _ _ _ _ [(8, .int .i64 (ixV (fun c => sameB c.1 nm) f.l)), (1, Z nm), (2, Z vl), (3, Pt b3 0), (6, Pt b6 0), (7, Pt b7 0)] ((⟨b7, Row 25 [accV y.1.1 (dropB nm f.l).length, accV y.2.1.1 s.l.length], true⟩ :: ⟨b6, Row 25 [nil2.v, nilS.v], true⟩ :: (accP 46 y.1.1 (dropB nm f.l) ++ accE 5 y.2.1.1 (s.l.map U8)) : List Ent) ++ [])
  rw [List.append_nil]
  clear ci hx x vs Ms
  have hq : y.1.1 = none → dropB nm f.l = [] := fun h => by rw [y.1.2.1 h]; rfl
  have hcap := y.1.2.2
  have hdl := drop_len nm f.l
  have hset := set_ix nm vl f.l
  have hxx := drop_ix_le nm (l := f.l)
  obtain ⟨at', hat, hsv, hai⟩ : ∃ at' : Nat, at' = (if ixP (fun c => sameB c.1 nm) f.l < f.l.length then ixP (fun c => sameB c.1 nm) f.l else (dropB nm f.l).length) ∧ setB nm vl f.l = (dropB nm f.l).take at' ++ (nm, vl) :: (dropB nm f.l).drop at' ∧ (at' = (dropB nm f.l).length ∨ (at' < (dropB nm f.l).length ∧ ∀ r, y.1.1 = some r → (dropB nm f.l).length + 1 ≤ r.2)) := by
    refine ⟨_, rfl, ?_, ?_⟩
    · by_cases hx : ixP (fun c => sameB c.1 nm) f.l < f.l.length
      · rw [hset, if_pos hx, if_pos hx]
      · rw [hset, if_neg hx, if_neg hx, List.take_length, List.drop_length]
    · by_cases hx : ixP (fun c => sameB c.1 nm) f.l < f.l.length
      · rw [if_pos hx]
        obtain ⟨h1, h2⟩ := hxx hx
        by_cases he : ixP (fun c => sameB c.1 nm) f.l = (dropB nm f.l).length
        · exact .inl he
        · exact .inr ⟨by omega, fun r hr => by have := hcap r hr; omega⟩
      · rw [if_neg hx]; exact .inl rfl
  refine JE.next ?_
  refine JC.mid (ι := Unit) (fun _ => [(8, N at'), (1, Z nm), (2, Z vl), (6, Pt b6 0), (7, Pt b7 0)]) (fun _ => (⟨b7, Row 25 [accV y.1.1 (dropB nm f.l).length, accV y.2.1.1 s.l.length], true⟩ :: ⟨b6, Row 25 [nil2.v, nilS.v], true⟩ :: (accP 46 y.1.1 (dropB nm f.l) ++ accE 5 y.2.1.1 (s.l.map U8)) : List Ent)) (fun _ => True) ?_ fun _ _ => ?_
  · by_cases hx : ixP (fun c => sameB c.1 nm) f.l < f.l.length
    · rw [if_pos hx] at hat
      rw [ixV_yes hx, ← hat]
      have h0 : decide (((at' : Nat) : Int) < 0) = false := decide_eq_false (by omega)
      repeat (first | refine JL.q (by first | (apply OQ.lssB (b := 0); exact rfl; exact rfl; exact h0) | (apply OQ.move; exact rfl) | (apply OQ.assign; exact rfl) | (apply OQ.len; exact rfl; exact rfl) | (apply OQ.addN; exact rfl; exact rfl; exact (by (try simp only []); omega)) | (apply OQ.subN; exact rfl; exact rfl; exact (by (try simp only []); omega); exact (by (try simp only []); omega)) | (apply OQ.lssN; exact rfl; exact rfl) | (apply OQ.fld; exact rfl; exact rfl; exact rfl; exact (by decide); exact rfl)) rfl ?_ | refine JC.seq ?_ | refine JC.region ?_ | refine JC.block ?_ | refine JC.skip ?_ | refine JC.exit ?_ | refine JL.nil ?_ | refine JE.next ?_ | refine JE.blk_normal ?_ | refine JE.then_exit ?_ | refine JE.blk_hit ?_ | refine JE.blk_miss rfl ?_ | refine JE.then_ret ?_ | refine JE.blk_ret ?_ | refine JC.label ?_ | refine JL.gon rfl rfl ?_ | refine JL.gskip rfl rfl rfl rfl ?_ | refine JL.gskipU rfl rfl rfl rfl ?_)
      refine JC.cond rfl (fun h => by cases h) (fun _ => ?_)
      refine JC.skip (JE.mid () trivial (by repeat (first | exact SubE.nil | refine SubE.cons _ _ _ rfl ?_)) (Less.refl _))
    · rw [if_neg hx] at hat
      rw [ixV_no hx]
      have h0 : decide ((-1 : Int) < 0) = true := rfl
      rw [hat]
      repeat (first | refine JL.q (by first | (apply OQ.lssB (b := 0); exact rfl; exact rfl; exact h0) | (apply OQ.move; exact rfl) | (apply OQ.assign; exact rfl) | (apply OQ.len; exact rfl; exact rfl) | (apply OQ.addN; exact rfl; exact rfl; exact (by (try simp only []); omega)) | (apply OQ.subN; exact rfl; exact rfl; exact (by (try simp only []); omega); exact (by (try simp only []); omega)) | (apply OQ.lssN; exact rfl; exact rfl) | (apply OQ.fld; exact rfl; exact rfl; exact rfl; exact (by decide); exact rfl)) rfl ?_ | refine JC.seq ?_ | refine JC.region ?_ | refine JC.block ?_ | refine JC.skip ?_ | refine JC.exit ?_ | refine JL.nil ?_ | refine JE.next ?_ | refine JE.blk_normal ?_ | refine JE.then_exit ?_ | refine JE.blk_hit ?_ | refine JE.blk_miss rfl ?_ | refine JE.then_ret ?_ | refine JE.blk_ret ?_ | refine JC.label ?_ | refine JL.gon rfl rfl ?_ | refine JL.gskip rfl rfl rfl rfl ?_ | refine JL.gskipU rfl rfl rfl rfl ?_)
      refine JC.cond rfl (fun _ => ?_) (fun h => by cases h)
      repeat (first | refine JL.q (by first | (apply OQ.load; exact fsC; exact rfl; exact .here; exact (Row.cell (v := accV y.1.1 (dropB nm f.l).length) rfl)) | (apply OQ.lenV; exact Tryd.underlying22; exact rfl; exact (fun h => by rw [hq h]; rfl)) | (apply OQ.move; exact rfl) | (apply OQ.assign; exact rfl) | (apply OQ.len; exact rfl; exact rfl) | (apply OQ.addN; exact rfl; exact rfl; exact (by (try simp only []); omega)) | (apply OQ.subN; exact rfl; exact rfl; exact (by (try simp only []); omega); exact (by (try simp only []); omega)) | (apply OQ.lssN; exact rfl; exact rfl) | (apply OQ.fld; exact rfl; exact rfl; exact rfl; exact (by decide); exact rfl)) rfl ?_ | refine JC.seq ?_ | refine JC.region ?_ | refine JC.block ?_ | refine JC.skip ?_ | refine JC.exit ?_ | refine JL.nil ?_ | refine JE.next ?_ | refine JE.blk_normal ?_ | refine JE.then_exit ?_ | refine JE.blk_hit ?_ | refine JE.blk_miss rfl ?_ | refine JE.then_ret ?_ | refine JE.blk_ret ?_ | refine JC.label ?_ | refine JL.gon rfl rfl ?_ | refine JL.gskip rfl rfl rfl rfl ?_ | refine JL.gskipU rfl rfl rfl rfl ?_)
      exact JE.mid () trivial (by repeat (first | exact SubE.nil | refine SubE.cons _ _ _ rfl ?_)) (Less.refl _)
  clear hat hset hxx
  repeat (first | refine JL.q (by first | (apply OQ.load; exact fsC; exact rfl; exact .here; exact (Row.cell (v := accV y.1.1 (dropB nm f.l).length) rfl)) | (apply build_ft (a := nm) (b := vl); exact rfl; exact rfl) | (apply OQ.move; exact rfl) | (apply OQ.assign; exact rfl) | (apply OQ.len; exact rfl; exact rfl) | (apply OQ.addN; exact rfl; exact rfl; exact (by (try simp only []); omega)) | (apply OQ.subN; exact rfl; exact rfl; exact (by (try simp only []); omega); exact (by (try simp only []); omega)) | (apply OQ.lssN; exact rfl; exact rfl) | (apply OQ.fld; exact rfl; exact rfl; exact rfl; exact (by decide); exact rfl)) rfl ?_ | refine JC.seq ?_ | refine JC.region ?_ | refine JC.block ?_ | refine JC.skip ?_ | refine JC.exit ?_ | refine JL.nil ?_ | refine JE.next ?_ | refine JE.blk_normal ?_ | refine JE.then_exit ?_ | refine JE.blk_hit ?_ | refine JE.blk_miss rfl ?_ | refine JE.then_ret ?_ | refine JE.blk_ret ?_ | refine JC.label ?_ | refine JL.gon rfl rfl ?_ | refine JL.gskip rfl rfl rfl rfl ?_ | refine JL.gskipU rfl rfl rfl rfl ?_)
  refine JL.litA (cs := pc (nm, vl)) Tryd.underlying22 fieldI rfl (by decide) (by decide) rfl rfl rfl fun bl _ => ?_
  refine JL.perm ?_ (perm3X _ _ _ _ _)
  refine JL.callW (ι := Nat × Nat) (X := accP 46 y.1.1 (dropB nm f.l)) (vs := [accV y.1.1 (dropB nm f.l).length, N at', .slice (some ⟨bl, 0, none⟩) 1 1]) (fun r => accV (some r) (setB nm vl f.l).length) (fun r => accP 46 (some r) (setB nm vl f.l)) goes_ins rfl rfl (accP_wr _ _ _) (fun r => accP_wr _ _ _) (fun w' hw' => ?_) fun r => ?_
  · rw [hsv]
    exact ins_any y.1.1 (dropB nm f.l) (nm, vl) at' bl w' (Sl.Holds.weak hw' (less_two (Less.refl _) (.keep _ _ _ _ _ _ (fun _ h => h) (.nil _)))) hq (by omega) hai
  repeat (first | refine JL.q (by first | (apply OQ.move; exact rfl) | (apply OQ.assign; exact rfl) | (apply OQ.len; exact rfl; exact rfl) | (apply OQ.addN; exact rfl; exact rfl; exact (by (try simp only []); omega)) | (apply OQ.subN; exact rfl; exact rfl; exact (by (try simp only []); omega); exact (by (try simp only []); omega)) | (apply OQ.lssN; exact rfl; exact rfl) | (apply OQ.fld; exact rfl; exact rfl; exact rfl; exact (by decide); exact rfl)) rfl ?_ | refine JC.seq ?_ | refine JC.region ?_ | refine JC.block ?_ | refine JC.skip ?_ | refine JC.exit ?_ | refine JL.nil ?_ | refine JE.next ?_ | refine JE.blk_normal ?_ | refine JE.then_exit ?_ | refine JE.blk_hit ?_ | refine JE.blk_miss rfl ?_ | refine JE.then_ret ?_ | refine JE.blk_ret ?_ | refine JC.label ?_ | refine JL.gon rfl rfl ?_ | refine JL.gskip rfl rfl rfl rfl ?_ | refine JL.gskipU rfl rfl rfl rfl ?_)
  refine JL.store_eq (b := b7) (r := [accV y.1.1 (dropB nm f.l).length, accV y.2.1.1 s.l.length]) (r' := [accV (some r) (setB nm vl f.l).length, accV y.2.1.1 s.l.length]) rfl rfl rfl (accV_one _ _) rfl (.there (.there .here)) (show 0 < 2 from Nat.zero_lt_succ _) rfl ?_
  repeat (first | refine JL.q (by first | (apply OQ.load_agg (cs := [accV (some r) (setB nm vl f.l).length, accV y.2.1.1 s.l.length]); exact letA; exact letS; exact rfl; exact (.there (.there .here)); exact rfl; exact Row.all) | (apply OQ.move; exact rfl) | (apply OQ.assign; exact rfl) | (apply OQ.len; exact rfl; exact rfl) | (apply OQ.addN; exact rfl; exact rfl; exact (by (try simp only []); omega)) | (apply OQ.subN; exact rfl; exact rfl; exact (by (try simp only []); omega); exact (by (try simp only []); omega)) | (apply OQ.lssN; exact rfl; exact rfl) | (apply OQ.fld; exact rfl; exact rfl; exact rfl; exact (by decide); exact rfl)) rfl ?_ | refine JC.seq ?_ | refine JC.region ?_ | refine JC.block ?_ | refine JC.skip ?_ | refine JC.exit ?_ | refine JL.nil ?_ | refine JE.next ?_ | refine JE.blk_normal ?_ | refine JE.then_exit ?_ | refine JE.blk_hit ?_ | refine JE.blk_miss rfl ?_ | refine JE.then_ret ?_ | refine JE.blk_ret ?_ | refine JC.label ?_ | refine JL.gon rfl rfl ?_ | refine JL.gskip rfl rfl rfl rfl ?_ | refine JL.gskipU rfl rfl rfl rfl ?_)
  refine JL.store_all (cs := [accV (some r) (setB nm vl f.l).length, accV y.2.1.1 s.l.length]) letS rfl rfl rfl (accV_two _ _ _ _) (.there (.there (.there .here))) rfl ?_
  repeat (first | refine JL.q (by first | (apply OQ.move; exact rfl) | (apply OQ.assign; exact rfl) | (apply OQ.len; exact rfl; exact rfl) | (apply OQ.addN; exact rfl; exact rfl; exact (by (try simp only []); omega)) | (apply OQ.subN; exact rfl; exact rfl; exact (by (try simp only []); omega); exact (by (try simp only []); omega)) | (apply OQ.lssN; exact rfl; exact rfl) | (apply OQ.fld; exact rfl; exact rfl; exact rfl; exact (by decide); exact rfl)) rfl ?_ | refine JC.seq ?_ | refine JC.region ?_ | refine JC.block ?_ | refine JC.skip ?_ | refine JC.exit ?_ | refine JL.nil ?_ | refine JE.next ?_ | refine JE.blk_normal ?_ | refine JE.then_exit ?_ | refine JE.blk_hit ?_ | refine JE.blk_miss rfl ?_ | refine JE.then_ret ?_ | refine JE.blk_ret ?_ | refine JC.label ?_ | refine JL.gon rfl rfl ?_ | refine JL.gskip rfl rfl rfl rfl ?_ | refine JL.gskipU rfl rfl rfl rfl ?_)
  refine JC.ret ?_
  repeat (first | refine JL.q (by first | (apply OQ.move; exact rfl) | (apply OQ.assign; exact rfl) | (apply OQ.len; exact rfl; exact rfl) | (apply OQ.addN; exact rfl; exact rfl; exact (by (try simp only []); omega)) | (apply OQ.subN; exact rfl; exact rfl; exact (by (try simp only []); omega); exact (by (try simp only []); omega)) | (apply OQ.lssN; exact rfl; exact rfl) | (apply OQ.fld; exact rfl; exact rfl; exact rfl; exact (by decide); exact rfl)) rfl ?_ | refine JC.seq ?_ | refine JC.region ?_ | refine JC.block ?_ | refine JC.skip ?_ | refine JC.exit ?_ | refine JL.nil ?_ | refine JE.next ?_ | refine JE.blk_normal ?_ | refine JE.then_exit ?_ | refine JE.blk_hit ?_ | refine JE.blk_miss rfl ?_ | refine JE.then_ret ?_ | refine JE.blk_ret ?_ | refine JC.label ?_ | refine JL.gon rfl rfl ?_ | refine JL.gskip rfl rfl rfl rfl ?_ | refine JL.gskipU rfl rfl rfl rfl ?_)
  refine JE.ret1 rfl (RV.cell_agg (cs := [accV (some r) (setB nm vl f.l).length, accV y.2.1.1 s.l.length]) letA letS rfl (.there (.there (.there .here))) rfl Row.all) fun w' hw => ?_
  refine ⟨⟨accLp (some r) (setB nm vl f.l), accS y.2.1.1 s.l, accLp_l nofun, accS_l y.2.1.2, accLp_n, accS_none⟩, by rw [Lt.v, accLp_v, accS_v], Sl.Holds.weak hw (less_two (accP_ents (some r) (setB nm vl f.l)) (.drop _ _ _ (.drop _ _ _ (.drop _ _ _ (accS_ents _ _)))))⟩
end Go.Proofs.YtikhlddemdlmgaaDoor

/-
  Of no statement by itself: what the landed letter's head and Write give; so letter's functions owe nothing (letterOk).
  Conditions: each theorem's own.
-/
namespace Go.Proofs.YtikhlddemdlmgaaDoor
set_option maxRecDepth 10000
open Sl Fld
namespace Fld
def mkS (m : List By) (p : Pr) : List By := if m.length ≤ 65536 then m ++ foldB p.1 p.2 else m
def mkH (l : List Pr) : List By := l.foldl mkS []
def allG (l : List Pr) : Bool := l.all fun p => goodF p.1 p.2
def hdO (l : List Pr) : List By := if allG l then mkH l ++ [13, 10] else []
def hdK (l : List Pr) : Nat := if allG l then 0 else 3
theorem mk_fold : ∀ (l : List Pr) (m : List By), (m.length + (headB l).length ≤ 65536 → l.foldl mkS m = m ++ headB l) ∧ (65536 < m.length + (headB l).length → 65536 < (l.foldl mkS m).length)
  | [], m => ⟨fun _ => by simp [headB], fun h => by simpa [headB] using h⟩
  | p :: l, m => by
    obtain ⟨i1, i2⟩ := mk_fold l (mkS m p)
    have e : (headB (p :: l)) = foldB p.1 p.2 ++ headB l := by simp [headB]
    rw [e, List.length_append, List.foldl_cons]
    by_cases hm : m.length ≤ 65536
    · have hs : mkS m p = m ++ foldB p.1 p.2 := if_pos hm
      rw [hs, List.length_append] at i1 i2
      rw [hs]
      exact ⟨fun h => by rw [i1 (by omega), List.append_assoc], fun h => i2 (by omega)⟩
    · have hs : mkS m p = m := if_neg hm
      rw [hs] at i1 i2
      rw [hs]
      exact ⟨fun h => by omega, fun h => i2 (by omega)⟩
theorem writeK_is (l : List Pr) (b : List By) : writeK l b = if allG l then (if 200 < l.length ∨ 65536 < (hdO l).length ∨ 2097152 < (hdO l).length + b.length then 4 else 0) else 3 := by
  have ha : (l.all fun p => nameB p.1 && valB p.2) = allG l := rfl
  unfold writeK
  rw [ha]
  cases hg : allG l
  · rfl
  · have ho : hdO l = mkH l ++ [13, 10] := by rw [hdO, hg]; rfl
    rw [if_pos rfl, if_pos rfl, ho, List.length_append]
    obtain ⟨i1, i2⟩ := mk_fold l []
    simp only [List.length_nil, Nat.zero_add, List.nil_append] at i1 i2
    have hk : l.foldl mkS [] = mkH l := rfl
    rw [hk] at i1 i2
    by_cases hh : (headB l).length ≤ 65536
    · rw [i1 hh]
      simp only [List.length_cons, List.length_nil]
    · have := i2 (by omega)
      rw [if_pos (.inr (.inl (by omega))), if_pos (.inr (.inl (by simp only [List.length_cons, List.length_nil]; omega)))]
theorem writeO_is {l : List Pr} {b : List By} (h : writeK l b = 0) : writeO l b = hdO l ++ b := by
  rw [writeO, if_pos h]
  rw [writeK_is] at h
  cases hg : allG l
  · rw [hg] at h; cases h
  · rw [hg, if_pos rfl] at h
    split at h
    · cases h
    · next hn =>
      have ho : hdO l = mkH l ++ [13, 10] := by rw [hdO, hg]; rfl
      rw [ho, List.length_append] at hn
      rw [ho]
      obtain ⟨i1, i2⟩ := mk_fold l []
      simp only [List.length_nil, Nat.zero_add, List.nil_append] at i1 i2
      have hk : l.foldl mkS [] = mkH l := rfl
      rw [hk] at i1 i2
      by_cases hh : (headB l).length ≤ 65536
      · rw [i1 hh]
      · have := i2 (by omega)
        exact absurd (.inr (.inl (by simp only [List.length_cons, List.length_nil]; omega))) hn
theorem mk_len : ∀ (l : List Pr) (m : List By), allG l = true → m.length ≤ 100000 → (l.foldl mkS m).length ≤ 100000
  | [], _, _, h => h
  | p :: l, m, hg, h => by
    have hg2 : (goodF p.1 p.2 && allG l) = true := hg
    rw [Bool.and_eq_true] at hg2
    have hgp : nameB p.1 = true ∧ valB p.2 = true := by simpa [goodF] using hg2.1
    have l1 := nameB_len hgp.1
    have l2 := valB_len hgp.2
    have l3 := foldB_len p.1 p.2
    rw [List.foldl_cons]
    refine mk_len l _ hg2.2 ?_
    unfold mkS
    split
    · rw [List.length_append]; omega
    · exact h
theorem hdO_len (l : List Pr) : (hdO l).length ≤ 100002 := by
  cases hg : allG l
  · rw [hdO, hg]; exact Nat.zero_le _
  · rw [hdO, hg, if_pos rfl, List.length_append]
    have := mk_len l [] hg (Nat.zero_le _)
    have hk : l.foldl mkS [] = mkH l := rfl
    rw [hk] at this
    simp only [List.length_cons, List.length_nil]
    omega
theorem writeO_no {l : List Pr} {b : List By} (h : writeK l b ≠ 0) : writeO l b = [] := by rw [writeO, if_neg h]
end Fld
theorem goes_lhead : Goes Tryd.prog 25 := ⟨_, Tryd.func25, rfl, by kernel_rfl⟩
structure HdT where
  i : Nat
  o : List Bt
  q : Acc
set_option maxHeartbeats 32000000 in
theorem lhead_any (f : Sl2) (w : World) (hf : f.ok w) (hz : small2 f) (hl : f.l.length ≤ 1000000) : Calls Tryd.prog 25 [f.v].toArray w fun e w' => ∃ q : { q : Acc // q = none → hdO f.l = [] }, e = .returned (.tuple #[accV q.1 (hdO f.l).length, N (hdK f.l)]) ∧ Holds w [] (accE 5 q.1 ((hdO f.l).map U8)) w' := by
  refine enter (n := 32) Tryd.func25 rfl rfl rfl (Holds.start w []) ?_
  repeat (first | refine JL.q (by first | (apply OQ.len; exact Tryd.underlying22; exact rfl) | (apply OQ.move; exact rfl) | (apply OQ.assign; exact rfl) | (apply OQ.len; exact rfl; exact rfl) | (apply OQ.addN; exact rfl; exact rfl; exact (by (try simp only []); omega)) | (apply OQ.subN; exact rfl; exact rfl; exact (by (try simp only []); omega); exact (by (try simp only []); omega)) | (apply OQ.lssN; exact rfl; exact rfl) | (apply OQ.fld; exact rfl; exact rfl; exact rfl; exact (by decide); exact rfl)) rfl ?_ | refine JC.seq ?_ | refine JC.region ?_ | refine JC.block ?_ | refine JC.skip ?_ | refine JC.exit ?_ | refine JL.nil ?_ | refine JE.next ?_ | refine JE.blk_normal ?_ | refine JE.then_exit ?_ | refine JE.blk_hit ?_ | refine JE.blk_miss rfl ?_ | refine JE.then_ret ?_ | refine JE.blk_ret ?_ | refine JC.label ?_ | refine JL.gon rfl rfl ?_ | refine JL.gskip rfl rfl rfl rfl ?_ | refine JL.gskipU rfl rfl rfl rfl ?_)
  refine JC.loop (fun z : HdT => [(4, accV z.q z.o.length), (9, f.v), (10, N f.l.length), (11, N z.i)]) (fun z => accE 5 z.q (z.o.map U8) ++ []) (fun z => f.l.length - z.i) (fun z => z.i ≤ f.l.length ∧ (z.q = none → z.o = []) ∧ z.o.length ≤ 100000 ∧ allG f.l = allG (f.l.drop z.i) ∧ mkH f.l = (f.l.drop z.i).foldl mkS z.o) ⟨0, [], none⟩ ⟨Nat.zero_le _, fun _ => rfl, Nat.zero_le _, rfl, rfl⟩ (by repeat (first | exact SubE.nil | refine SubE.cons _ _ _ rfl ?_)) (.nil _) ?_
  rintro ⟨i, o, q⟩ ⟨hi, hq, ho, hg, hm⟩
  dsimp only at hi hq ho hg hm ⊢
  repeat (first | refine JL.q (by first | (apply OQ.move; exact rfl) | (apply OQ.assign; exact rfl) | (apply OQ.len; exact rfl; exact rfl) | (apply OQ.addN; exact rfl; exact rfl; exact (by (try simp only []); omega)) | (apply OQ.subN; exact rfl; exact rfl; exact (by (try simp only []); omega); exact (by (try simp only []); omega)) | (apply OQ.lssN; exact rfl; exact rfl) | (apply OQ.fld; exact rfl; exact rfl; exact rfl; exact (by decide); exact rfl)) rfl ?_ | refine JC.seq ?_ | refine JC.region ?_ | refine JC.block ?_ | refine JC.skip ?_ | refine JC.exit ?_ | refine JL.nil ?_ | refine JE.next ?_ | refine JE.blk_normal ?_ | refine JE.then_exit ?_ | refine JE.blk_hit ?_ | refine JE.blk_miss rfl ?_ | refine JE.then_ret ?_ | refine JE.blk_ret ?_ | refine JC.label ?_ | refine JL.gon rfl rfl ?_ | refine JL.gskip rfl rfl rfl rfl ?_ | refine JL.gskipU rfl rfl rfl rfl ?_)
  refine JC.cond rfl (fun h => ?_) (fun h => ?_)
  · have hi' : i < f.l.length := of_decide_eq_true h
    clear h hi
    obtain ⟨ba, ja, eA, la, ca1, ca2⟩ := hf.at hi'
    have vA : f.v = .slice (some ⟨ba, ja, none⟩) f.l.length f.cap := by rw [← eA]; rfl
    have cA := pair_cells ca1 ca2
    have hDi := hz _ (mem_getD hi')
    rw [drop_pr hi'] at hg hm
    generalize f.l.getD i ([], []) = c at hg hm cA hDi
    obtain ⟨n, v⟩ := c
    rw [List.foldl_cons] at hm
    have hg2 : allG f.l = (goodF n v && allG (f.l.drop (i + 1))) := hg
    clear hg
    rw [vA]
    repeat (first | refine JL.q (by first | (apply OQ.idxS; exact Tryd.underlying22; exact fieldS; exact rfl; exact rfl; exact hi') | (apply OQ.load_agg_old (cs := pc (n, v)); exact fieldA; exact rfl; exact fieldS; exact la; exact (by simp); exact cA) | (apply OQ.move; exact rfl) | (apply OQ.assign; exact rfl) | (apply OQ.len; exact rfl; exact rfl) | (apply OQ.addN; exact rfl; exact rfl; exact (by (try simp only []); omega)) | (apply OQ.subN; exact rfl; exact rfl; exact (by (try simp only []); omega); exact (by (try simp only []); omega)) | (apply OQ.lssN; exact rfl; exact rfl) | (apply OQ.fld; exact rfl; exact rfl; exact rfl; exact (by decide); exact rfl)) rfl ?_ | refine JC.seq ?_ | refine JC.region ?_ | refine JC.block ?_ | refine JC.skip ?_ | refine JC.exit ?_ | refine JL.nil ?_ | refine JE.next ?_ | refine JE.blk_normal ?_ | refine JE.then_exit ?_ | refine JE.blk_hit ?_ | refine JE.blk_miss rfl ?_ | refine JE.then_ret ?_ | refine JE.blk_ret ?_ | refine JC.label ?_ | refine JL.gon rfl rfl ?_ | refine JL.gskip rfl rfl rfl rfl ?_ | refine JL.gskipU rfl rfl rfl rfl ?_)
    refine JL.alloc fieldZb rfl fun b8 _ => ?_
    refine JL.store_all (cs := pc (n, v)) fieldS rfl rfl rfl rfl .here rfl ?_
    repeat (first | refine JL.q (by first | (apply OQ.load_agg (cs := pc (n, v)); exact fieldA; exact fieldS; exact rfl; exact .here; exact rfl; exact Row.all) | (apply OQ.move; exact rfl) | (apply OQ.assign; exact rfl) | (apply OQ.len; exact rfl; exact rfl) | (apply OQ.addN; exact rfl; exact rfl; exact (by (try simp only []); omega)) | (apply OQ.subN; exact rfl; exact rfl; exact (by (try simp only []); omega); exact (by (try simp only []); omega)) | (apply OQ.lssN; exact rfl; exact rfl) | (apply OQ.fld; exact rfl; exact rfl; exact rfl; exact (by decide); exact rfl)) rfl ?_ | refine JC.seq ?_ | refine JC.region ?_ | refine JC.block ?_ | refine JC.skip ?_ | refine JC.exit ?_ | refine JL.nil ?_ | refine JE.next ?_ | refine JE.blk_normal ?_ | refine JE.then_exit ?_ | refine JE.blk_hit ?_ | refine JE.blk_miss rfl ?_ | refine JE.then_ret ?_ | refine JE.blk_ret ?_ | refine JC.label ?_ | refine JL.gon rfl rfl ?_ | refine JL.gskip rfl rfl rfl rfl ?_ | refine JL.gskipU rfl rfl rfl rfl ?_)
    refine JL.callg (vs := [.agg (pc (n, v)).toArray]) (ι := { x : Sl8 // Ans x (foldR n v) }) (fun x => .tuple #[x.1.v, N (codeF n v)]) (fun x => x.1.ents) goes_ffold rfl rfl (fun x => x.1.ents_wr) (fun w' _ => ffold_any n v w' hDi.1 hDi.2) ?_
    rintro ⟨x, hx1, hx2⟩
    dsimp only
    cases h1 : goodF n v
    · rw [h1] at hg2
      have hc : codeF n v = 3 := by rw [codeF, h1]; rfl
      have hO : hdO f.l = [] := by rw [hdO, hg2]; rfl
      have hK : hdK f.l = 3 := by rw [hdK, hg2]; rfl
      have h0 : decide (((3 : Nat) : Int) = 0) = false := rfl
      rw [hc, hO, hK]
      repeat (first | refine JL.q (by first | (apply OQ.extract; exact rfl; exact rfl) | (apply OQ.neB (a := ((3 : Nat) : Int)) (b := 0); exact rfl; exact rfl; exact h0) | (apply OQ.move; exact rfl) | (apply OQ.assign; exact rfl) | (apply OQ.len; exact rfl; exact rfl) | (apply OQ.addN; exact rfl; exact rfl; exact (by (try simp only []); omega)) | (apply OQ.subN; exact rfl; exact rfl; exact (by (try simp only []); omega); exact (by (try simp only []); omega)) | (apply OQ.lssN; exact rfl; exact rfl) | (apply OQ.fld; exact rfl; exact rfl; exact rfl; exact (by decide); exact rfl)) rfl ?_ | refine JC.seq ?_ | refine JC.region ?_ | refine JC.block ?_ | refine JC.skip ?_ | refine JC.exit ?_ | refine JL.nil ?_ | refine JE.next ?_ | refine JE.blk_normal ?_ | refine JE.then_exit ?_ | refine JE.blk_hit ?_ | refine JE.blk_miss rfl ?_ | refine JE.then_ret ?_ | refine JE.blk_ret ?_ | refine JC.label ?_ | refine JL.gon rfl rfl ?_ | refine JL.gskip rfl rfl rfl rfl ?_ | refine JL.gskipU rfl rfl rfl rfl ?_)
      refine JC.cond rfl (fun _ => ?_) (fun h => by cases h)
      repeat (first | refine JL.q (by first | (apply OQ.move; exact rfl) | (apply OQ.assign; exact rfl) | (apply OQ.len; exact rfl; exact rfl) | (apply OQ.addN; exact rfl; exact rfl; exact (by (try simp only []); omega)) | (apply OQ.subN; exact rfl; exact rfl; exact (by (try simp only []); omega); exact (by (try simp only []); omega)) | (apply OQ.lssN; exact rfl; exact rfl) | (apply OQ.fld; exact rfl; exact rfl; exact rfl; exact (by decide); exact rfl)) rfl ?_ | refine JC.seq ?_ | refine JC.region ?_ | refine JC.block ?_ | refine JC.skip ?_ | refine JC.exit ?_ | refine JL.nil ?_ | refine JE.next ?_ | refine JE.blk_normal ?_ | refine JE.then_exit ?_ | refine JE.blk_hit ?_ | refine JE.blk_miss rfl ?_ | refine JE.then_ret ?_ | refine JE.blk_ret ?_ | refine JC.label ?_ | refine JL.gon rfl rfl ?_ | refine JL.gskip rfl rfl rfl rfl ?_ | refine JL.gskipU rfl rfl rfl rfl ?_)
      refine JC.ret ?_
      repeat (first | refine JL.q (by first | (apply OQ.move; exact rfl) | (apply OQ.assign; exact rfl) | (apply OQ.len; exact rfl; exact rfl) | (apply OQ.addN; exact rfl; exact rfl; exact (by (try simp only []); omega)) | (apply OQ.subN; exact rfl; exact rfl; exact (by (try simp only []); omega); exact (by (try simp only []); omega)) | (apply OQ.lssN; exact rfl; exact rfl) | (apply OQ.fld; exact rfl; exact rfl; exact rfl; exact (by decide); exact rfl)) rfl ?_ | refine JC.seq ?_ | refine JC.region ?_ | refine JC.block ?_ | refine JC.skip ?_ | refine JC.exit ?_ | refine JL.nil ?_ | refine JE.next ?_ | refine JE.blk_normal ?_ | refine JE.then_exit ?_ | refine JE.blk_hit ?_ | refine JE.blk_miss rfl ?_ | refine JE.then_ret ?_ | refine JE.blk_ret ?_ | refine JC.label ?_ | refine JL.gon rfl rfl ?_ | refine JL.gskip rfl rfl rfl rfl ?_ | refine JL.gskipU rfl rfl rfl rfl ?_)
      exact JE.ret2 rfl (RV.tmp rfl) (RV.tmp rfl) fun w' hw => ⟨⟨none, fun _ => rfl⟩, rfl, Sl.Holds.weak hw (.nil _)⟩
    · rw [h1, Bool.true_and] at hg2
      have hc : codeF n v = 0 := by rw [codeF, h1]; rfl
      have hR : foldR n v = foldB n v := by rw [foldR, h1]; rfl
      have h0 : decide (((0 : Nat) : Int) = 0) = true := rfl
      have hgp : nameB n = true ∧ valB v = true := by simpa [goodF] using h1
      have l1 := nameB_len hgp.1
      have l2 := valB_len hgp.2
      have l3 := foldB_len n v
      rw [hR] at hx1
      rw [hc]
      cases h2 : decide ((o.length : Int) ≤ 65536)
      · have h2' := of_decide_eq_false h2
        have hs : mkS o (n, v) = o := if_neg (by omega)
        rw [hs] at hm
        repeat (first | refine JL.q (by first | (apply OQ.extract; exact rfl; exact rfl) | (apply OQ.neB (a := ((0 : Nat) : Int)) (b := 0); exact rfl; exact rfl; exact h0) | (apply OQ.move; exact rfl) | (apply OQ.assign; exact rfl) | (apply OQ.len; exact rfl; exact rfl) | (apply OQ.addN; exact rfl; exact rfl; exact (by (try simp only []); omega)) | (apply OQ.subN; exact rfl; exact rfl; exact (by (try simp only []); omega); exact (by (try simp only []); omega)) | (apply OQ.lssN; exact rfl; exact rfl) | (apply OQ.fld; exact rfl; exact rfl; exact rfl; exact (by decide); exact rfl)) rfl ?_ | refine JC.seq ?_ | refine JC.region ?_ | refine JC.block ?_ | refine JC.skip ?_ | refine JC.exit ?_ | refine JL.nil ?_ | refine JE.next ?_ | refine JE.blk_normal ?_ | refine JE.then_exit ?_ | refine JE.blk_hit ?_ | refine JE.blk_miss rfl ?_ | refine JE.then_ret ?_ | refine JE.blk_ret ?_ | refine JC.label ?_ | refine JL.gon rfl rfl ?_ | refine JL.gskip rfl rfl rfl rfl ?_ | refine JL.gskipU rfl rfl rfl rfl ?_)
        refine JC.cond rfl (fun h => by cases h) (fun _ => ?_)
        repeat (first | refine JL.q (by first | (apply OQ.lenV; exact Tryd.underlying23; exact rfl; exact (fun h => by rw [hq h]; rfl)) | (apply OQ.leqB (b := 65536); exact rfl; exact rfl; exact h2) | (apply OQ.move; exact rfl) | (apply OQ.assign; exact rfl) | (apply OQ.len; exact rfl; exact rfl) | (apply OQ.addN; exact rfl; exact rfl; exact (by (try simp only []); omega)) | (apply OQ.subN; exact rfl; exact rfl; exact (by (try simp only []); omega); exact (by (try simp only []); omega)) | (apply OQ.lssN; exact rfl; exact rfl) | (apply OQ.fld; exact rfl; exact rfl; exact rfl; exact (by decide); exact rfl)) rfl ?_ | refine JC.seq ?_ | refine JC.region ?_ | refine JC.block ?_ | refine JC.skip ?_ | refine JC.exit ?_ | refine JL.nil ?_ | refine JE.next ?_ | refine JE.blk_normal ?_ | refine JE.then_exit ?_ | refine JE.blk_hit ?_ | refine JE.blk_miss rfl ?_ | refine JE.then_ret ?_ | refine JE.blk_ret ?_ | refine JC.label ?_ | refine JL.gon rfl rfl ?_ | refine JL.gskip rfl rfl rfl rfl ?_ | refine JL.gskipU rfl rfl rfl rfl ?_)
        refine JC.cond rfl (fun h => by cases h) (fun _ => ?_)
        repeat (first | refine JL.q (by first | (apply OQ.move; exact rfl) | (apply OQ.assign; exact rfl) | (apply OQ.len; exact rfl; exact rfl) | (apply OQ.addN; exact rfl; exact rfl; exact (by (try simp only []); omega)) | (apply OQ.subN; exact rfl; exact rfl; exact (by (try simp only []); omega); exact (by (try simp only []); omega)) | (apply OQ.lssN; exact rfl; exact rfl) | (apply OQ.fld; exact rfl; exact rfl; exact rfl; exact (by decide); exact rfl)) rfl ?_ | refine JC.seq ?_ | refine JC.region ?_ | refine JC.block ?_ | refine JC.skip ?_ | refine JC.exit ?_ | refine JL.nil ?_ | refine JE.next ?_ | refine JE.blk_normal ?_ | refine JE.then_exit ?_ | refine JE.blk_hit ?_ | refine JE.blk_miss rfl ?_ | refine JE.then_ret ?_ | refine JE.blk_ret ?_ | refine JC.label ?_ | refine JL.gon rfl rfl ?_ | refine JL.gskip rfl rfl rfl rfl ?_ | refine JL.gskipU rfl rfl rfl rfl ?_)
        rw [← vA]
        exact JE.again (i := HdT.mk i o q) (HdT.mk (i + 1) o q) ⟨hi', hq, ho, hg2, hm⟩ (by dsimp only; omega) (by repeat (first | exact SubE.nil | refine SubE.cons _ _ _ rfl ?_)) (less_of_sub ((List.sublist_cons_self _ _).trans (List.sublist_append_right _ _)))
      · have h2' := of_decide_eq_true h2
        have hs : mkS o (n, v) = o ++ foldB n v := if_pos (by omega)
        rw [hs] at hm
        repeat (first | refine JL.q (by first | (apply OQ.extract; exact rfl; exact rfl) | (apply OQ.neB (a := ((0 : Nat) : Int)) (b := 0); exact rfl; exact rfl; exact h0) | (apply OQ.move; exact rfl) | (apply OQ.assign; exact rfl) | (apply OQ.len; exact rfl; exact rfl) | (apply OQ.addN; exact rfl; exact rfl; exact (by (try simp only []); omega)) | (apply OQ.subN; exact rfl; exact rfl; exact (by (try simp only []); omega); exact (by (try simp only []); omega)) | (apply OQ.lssN; exact rfl; exact rfl) | (apply OQ.fld; exact rfl; exact rfl; exact rfl; exact (by decide); exact rfl)) rfl ?_ | refine JC.seq ?_ | refine JC.region ?_ | refine JC.block ?_ | refine JC.skip ?_ | refine JC.exit ?_ | refine JL.nil ?_ | refine JE.next ?_ | refine JE.blk_normal ?_ | refine JE.then_exit ?_ | refine JE.blk_hit ?_ | refine JE.blk_miss rfl ?_ | refine JE.then_ret ?_ | refine JE.blk_ret ?_ | refine JC.label ?_ | refine JL.gon rfl rfl ?_ | refine JL.gskip rfl rfl rfl rfl ?_ | refine JL.gskipU rfl rfl rfl rfl ?_)
        refine JC.cond rfl (fun h => by cases h) (fun _ => ?_)
        repeat (first | refine JL.q (by first | (apply OQ.lenV; exact Tryd.underlying23; exact rfl; exact (fun h => by rw [hq h]; rfl)) | (apply OQ.leqB (b := 65536); exact rfl; exact rfl; exact h2) | (apply OQ.move; exact rfl) | (apply OQ.assign; exact rfl) | (apply OQ.len; exact rfl; exact rfl) | (apply OQ.addN; exact rfl; exact rfl; exact (by (try simp only []); omega)) | (apply OQ.subN; exact rfl; exact rfl; exact (by (try simp only []); omega); exact (by (try simp only []); omega)) | (apply OQ.lssN; exact rfl; exact rfl) | (apply OQ.fld; exact rfl; exact rfl; exact rfl; exact (by decide); exact rfl)) rfl ?_ | refine JC.seq ?_ | refine JC.region ?_ | refine JC.block ?_ | refine JC.skip ?_ | refine JC.exit ?_ | refine JL.nil ?_ | refine JE.next ?_ | refine JE.blk_normal ?_ | refine JE.then_exit ?_ | refine JE.blk_hit ?_ | refine JE.blk_miss rfl ?_ | refine JE.then_ret ?_ | refine JE.blk_ret ?_ | refine JC.label ?_ | refine JL.gon rfl rfl ?_ | refine JL.gskip rfl rfl rfl rfl ?_ | refine JL.gskipU rfl rfl rfl rfl ?_)
        refine JC.cond rfl (fun _ => ?_) (fun h => by cases h)
        repeat (first | refine JL.q (by first | (apply OQ.move; exact rfl) | (apply OQ.assign; exact rfl) | (apply OQ.len; exact rfl; exact rfl) | (apply OQ.addN; exact rfl; exact rfl; exact (by (try simp only []); omega)) | (apply OQ.subN; exact rfl; exact rfl; exact (by (try simp only []); omega); exact (by (try simp only []); omega)) | (apply OQ.lssN; exact rfl; exact rfl) | (apply OQ.fld; exact rfl; exact rfl; exact rfl; exact (by decide); exact rfl)) rfl ?_ | refine JC.seq ?_ | refine JC.region ?_ | refine JC.block ?_ | refine JC.skip ?_ | refine JC.exit ?_ | refine JL.nil ?_ | refine JE.next ?_ | refine JE.blk_normal ?_ | refine JE.then_exit ?_ | refine JE.blk_hit ?_ | refine JE.blk_miss rfl ?_ | refine JE.then_ret ?_ | refine JE.blk_ret ?_ | refine JC.label ?_ | refine JL.gon rfl rfl ?_ | refine JL.gskip rfl rfl rfl rfl ?_ | refine JL.gskipU rfl rfl rfl rfl ?_)
        refine JL.lessM (M' := x.ents ++ (accE 5 q (o.map U8) ++ [])) ?_ (less_mid _)
        refine JL.perm ?_ (List.perm_append_comm_assoc _ _ _)
        refine JL.appendQ (xs := o.map U8) (cs := x.l.map U8) (m := x.l.length) (ad := x.ad) (sc := x.cap) q Tryd.underlying23 u8e (fun h => by rw [hq h]; rfl) (by rw [List.length_map]; rfl) rfl (by rw [List.length_map]) (fun w' hw' => (Sl8.ents_ok (Sl.Holds.weak hw' (less_of_sub (List.sublist_append_right _ _))) hx2).reads) (all8U _) rfl (by rw [List.length_map, hx1]; omega) (by rw [List.length_map, hx1]; omega) rfl fun q' hq' => ?_
        repeat (first | refine JL.q (by first | (apply OQ.move; exact rfl) | (apply OQ.assign; exact rfl) | (apply OQ.len; exact rfl; exact rfl) | (apply OQ.addN; exact rfl; exact rfl; exact (by (try simp only []); omega)) | (apply OQ.subN; exact rfl; exact rfl; exact (by (try simp only []); omega); exact (by (try simp only []); omega)) | (apply OQ.lssN; exact rfl; exact rfl) | (apply OQ.fld; exact rfl; exact rfl; exact rfl; exact (by decide); exact rfl)) rfl ?_ | refine JC.seq ?_ | refine JC.region ?_ | refine JC.block ?_ | refine JC.skip ?_ | refine JC.exit ?_ | refine JL.nil ?_ | refine JE.next ?_ | refine JE.blk_normal ?_ | refine JE.then_exit ?_ | refine JE.blk_hit ?_ | refine JE.blk_miss rfl ?_ | refine JE.then_ret ?_ | refine JE.blk_ret ?_ | refine JC.label ?_ | refine JL.gon rfl rfl ?_ | refine JL.gskip rfl rfl rfl rfl ?_ | refine JL.gskipU rfl rfl rfl rfl ?_)
        rw [← vA, hx1, ← List.map_append]
        rw [hx1, ← List.map_append] at hq'
        rw [List.length_map]
        exact JE.again (i := HdT.mk i o q) (HdT.mk (i + 1) (o ++ foldB n v) q') ⟨hi', fun h => by simpa using hq' h, by dsimp only; rw [List.length_append]; omega, hg2, hm⟩ (by dsimp only; omega) (by repeat (first | exact SubE.nil | refine SubE.cons _ _ _ rfl ?_)) (less_app2 (.nil _) _)
  · have hi' : ¬ i < f.l.length := of_decide_eq_false h
    clear h
    rw [List.drop_eq_nil_of_le (by omega)] at hg hm
    have hG : allG f.l = true := hg
    have hO : hdO f.l = o ++ [13, 10] := by rw [hdO, hG, if_pos rfl, hm]; rfl
    have hK : hdK f.l = 0 := by rw [hdK, hG]; rfl
    rw [hO, hK]
    repeat (first | refine JL.q (by first | (apply OQ.move; exact rfl) | (apply OQ.assign; exact rfl) | (apply OQ.len; exact rfl; exact rfl) | (apply OQ.addN; exact rfl; exact rfl; exact (by (try simp only []); omega)) | (apply OQ.subN; exact rfl; exact rfl; exact (by (try simp only []); omega); exact (by (try simp only []); omega)) | (apply OQ.lssN; exact rfl; exact rfl) | (apply OQ.fld; exact rfl; exact rfl; exact rfl; exact (by decide); exact rfl)) rfl ?_ | refine JC.seq ?_ | refine JC.region ?_ | refine JC.block ?_ | refine JC.skip ?_ | refine JC.exit ?_ | refine JL.nil ?_ | refine JE.next ?_ | refine JE.blk_normal ?_ | refine JE.then_exit ?_ | refine JE.blk_hit ?_ | refine JE.blk_miss rfl ?_ | refine JE.then_ret ?_ | refine JE.blk_ret ?_ | refine JC.label ?_ | refine JL.gon rfl rfl ?_ | refine JL.gskip rfl rfl rfl rfl ?_ | refine JL.gskipU rfl rfl rfl rfl ?_)
    refine JL.appendZ (r := [13, 10]) (xs := o.map U8) q Tryd.underlying23 Tryd.underlying9 u8e (fun h => by rw [hq h]; rfl) (by rw [List.length_map]; rfl) rfl (by decide) (by rw [List.length_map]; simp only [List.length_cons, List.length_nil]; omega) rfl fun r => ?_
    rw [← List.map_append, List.length_map]
    repeat (first | refine JL.q (by first | (apply OQ.move; exact rfl) | (apply OQ.assign; exact rfl) | (apply OQ.len; exact rfl; exact rfl) | (apply OQ.addN; exact rfl; exact rfl; exact (by (try simp only []); omega)) | (apply OQ.subN; exact rfl; exact rfl; exact (by (try simp only []); omega); exact (by (try simp only []); omega)) | (apply OQ.lssN; exact rfl; exact rfl) | (apply OQ.fld; exact rfl; exact rfl; exact rfl; exact (by decide); exact rfl)) rfl ?_ | refine JC.seq ?_ | refine JC.region ?_ | refine JC.block ?_ | refine JC.skip ?_ | refine JC.exit ?_ | refine JL.nil ?_ | refine JE.next ?_ | refine JE.blk_normal ?_ | refine JE.then_exit ?_ | refine JE.blk_hit ?_ | refine JE.blk_miss rfl ?_ | refine JE.then_ret ?_ | refine JE.blk_ret ?_ | refine JC.label ?_ | refine JL.gon rfl rfl ?_ | refine JL.gskip rfl rfl rfl rfl ?_ | refine JL.gskipU rfl rfl rfl rfl ?_)
    refine JC.ret ?_
    repeat (first | refine JL.q (by first | (apply OQ.move; exact rfl) | (apply OQ.assign; exact rfl) | (apply OQ.len; exact rfl; exact rfl) | (apply OQ.addN; exact rfl; exact rfl; exact (by (try simp only []); omega)) | (apply OQ.subN; exact rfl; exact rfl; exact (by (try simp only []); omega); exact (by (try simp only []); omega)) | (apply OQ.lssN; exact rfl; exact rfl) | (apply OQ.fld; exact rfl; exact rfl; exact rfl; exact (by decide); exact rfl)) rfl ?_ | refine JC.seq ?_ | refine JC.region ?_ | refine JC.block ?_ | refine JC.skip ?_ | refine JC.exit ?_ | refine JL.nil ?_ | refine JE.next ?_ | refine JE.blk_normal ?_ | refine JE.then_exit ?_ | refine JE.blk_hit ?_ | refine JE.blk_miss rfl ?_ | refine JE.then_ret ?_ | refine JE.blk_ret ?_ | refine JC.label ?_ | refine JL.gon rfl rfl ?_ | refine JL.gskip rfl rfl rfl rfl ?_ | refine JL.gskipU rfl rfl rfl rfl ?_)
    exact JE.ret2 rfl (RV.tmp rfl) (RV.tmp rfl) fun w' hw => ⟨⟨some r, nofun⟩, rfl, Sl.Holds.weak hw (by rw [List.append_nil]; exact Less.refl _)⟩
end Go.Proofs.YtikhlddemdlmgaaDoor

/-
  Of no statement by itself: what the landed letter's Write gives; so letter's functions owe nothing (letterOk).
  Conditions: each theorem's own.
-/
namespace Go.Proofs.YtikhlddemdlmgaaDoor
set_option maxRecDepth 10000
open Sl Fld
set_option maxHeartbeats 32000000 in
theorem lwrite_any (f : Sl2) (s : Sl8) (w : World) (hf : f.ok w) (hs : s.ok w) (hz : small2 f) (hl : f.l.length ≤ 1000000) (hl2 : s.l.length ≤ 4294967296) : Calls Tryd.prog 17 [.agg #[f.v, s.v]].toArray w fun e w' => ∃ y : { y : Sl8 // y.l = writeO f.l s.l }, e = .returned (.tuple #[y.1.v, N (writeK f.l s.l)]) ∧ Ext w w' ∧ y.1.ok w' := by
  refine enter (n := 37) Tryd.func17 rfl rfl rfl (Holds.start w []) ?_
  refine JC.seq (JC.region (JL.box (r := [f.v, s.v]) rfl rfl rfl fun b1 _ => ?_))
  repeat (first | refine JL.q (by first | (apply OQ.load; exact fsC; exact rfl; exact .here; exact (Row.cell (v := f.v) rfl)) | (apply OQ.move; exact rfl) | (apply OQ.assign; exact rfl) | (apply OQ.len; exact rfl; exact rfl) | (apply OQ.addN; exact rfl; exact rfl; exact (by (try simp only []); omega)) | (apply OQ.subN; exact rfl; exact rfl; exact (by (try simp only []); omega); exact (by (try simp only []); omega)) | (apply OQ.lssN; exact rfl; exact rfl) | (apply OQ.fld; exact rfl; exact rfl; exact rfl; exact (by decide); exact rfl)) rfl ?_ | refine JC.seq ?_ | refine JC.region ?_ | refine JC.block ?_ | refine JC.skip ?_ | refine JC.exit ?_ | refine JL.nil ?_ | refine JE.next ?_ | refine JE.blk_normal ?_ | refine JE.then_exit ?_ | refine JE.blk_hit ?_ | refine JE.blk_miss rfl ?_ | refine JE.then_ret ?_ | refine JE.blk_ret ?_ | refine JC.label ?_ | refine JL.gon rfl rfl ?_ | refine JL.gskip rfl rfl rfl rfl ?_ | refine JL.gskipU rfl rfl rfl rfl ?_)
  refine JL.callg (vs := [f.v]) (ι := { q : Acc // q = none → hdO f.l = [] }) (fun q => .tuple #[accV q.1 (hdO f.l).length, N (hdK f.l)]) (fun q => accE 5 q.1 ((hdO f.l).map U8)) goes_lhead rfl rfl (fun q => accE_wr _ _ _) (fun w' hw' => lhead_any f w' (hf.holds hw' rfl) hz hl) ?_
  rintro ⟨q, hq⟩
  dsimp only at hq ⊢
  have hwk := writeK_is f.l s.l
  cases hg : allG f.l
  · have hk : hdK f.l = 3 := by rw [hdK, hg]; rfl
    have hwr : writeK f.l s.l = 3 := by rw [hwk, hg]; rfl
    have hwo := writeO_no (l := f.l) (b := s.l) (by rw [hwr]; decide)
    have h0 : decide (((3 : Nat) : Int) = 0) = false := rfl
    rw [hk, hwr]
    repeat (first | refine JL.q (by first | (apply OQ.extract; exact rfl; exact rfl) | (apply OQ.neB (a := ((3 : Nat) : Int)) (b := 0); exact rfl; exact rfl; exact h0) | (apply OQ.move; exact rfl) | (apply OQ.assign; exact rfl) | (apply OQ.len; exact rfl; exact rfl) | (apply OQ.addN; exact rfl; exact rfl; exact (by (try simp only []); omega)) | (apply OQ.subN; exact rfl; exact rfl; exact (by (try simp only []); omega); exact (by (try simp only []); omega)) | (apply OQ.lssN; exact rfl; exact rfl) | (apply OQ.fld; exact rfl; exact rfl; exact rfl; exact (by decide); exact rfl)) rfl ?_ | refine JC.seq ?_ | refine JC.region ?_ | refine JC.block ?_ | refine JC.skip ?_ | refine JC.exit ?_ | refine JL.nil ?_ | refine JE.next ?_ | refine JE.blk_normal ?_ | refine JE.then_exit ?_ | refine JE.blk_hit ?_ | refine JE.blk_miss rfl ?_ | refine JE.then_ret ?_ | refine JE.blk_ret ?_ | refine JC.label ?_ | refine JL.gon rfl rfl ?_ | refine JL.gskip rfl rfl rfl rfl ?_ | refine JL.gskipU rfl rfl rfl rfl ?_)
    refine JC.cond rfl (fun _ => ?_) (fun h => by cases h)
    repeat (first | refine JL.q (by first | (apply OQ.move; exact rfl) | (apply OQ.assign; exact rfl) | (apply OQ.len; exact rfl; exact rfl) | (apply OQ.addN; exact rfl; exact rfl; exact (by (try simp only []); omega)) | (apply OQ.subN; exact rfl; exact rfl; exact (by (try simp only []); omega); exact (by (try simp only []); omega)) | (apply OQ.lssN; exact rfl; exact rfl) | (apply OQ.fld; exact rfl; exact rfl; exact rfl; exact (by decide); exact rfl)) rfl ?_ | refine JC.seq ?_ | refine JC.region ?_ | refine JC.block ?_ | refine JC.skip ?_ | refine JC.exit ?_ | refine JL.nil ?_ | refine JE.next ?_ | refine JE.blk_normal ?_ | refine JE.then_exit ?_ | refine JE.blk_hit ?_ | refine JE.blk_miss rfl ?_ | refine JE.then_ret ?_ | refine JE.blk_ret ?_ | refine JC.label ?_ | refine JL.gon rfl rfl ?_ | refine JL.gskip rfl rfl rfl rfl ?_ | refine JL.gskipU rfl rfl rfl rfl ?_)
    refine JC.ret ?_
    repeat (first | refine JL.q (by first | (apply OQ.move; exact rfl) | (apply OQ.assign; exact rfl) | (apply OQ.len; exact rfl; exact rfl) | (apply OQ.addN; exact rfl; exact rfl; exact (by (try simp only []); omega)) | (apply OQ.subN; exact rfl; exact rfl; exact (by (try simp only []); omega); exact (by (try simp only []); omega)) | (apply OQ.lssN; exact rfl; exact rfl) | (apply OQ.fld; exact rfl; exact rfl; exact rfl; exact (by decide); exact rfl)) rfl ?_ | refine JC.seq ?_ | refine JC.region ?_ | refine JC.block ?_ | refine JC.skip ?_ | refine JC.exit ?_ | refine JL.nil ?_ | refine JE.next ?_ | refine JE.blk_normal ?_ | refine JE.then_exit ?_ | refine JE.blk_hit ?_ | refine JE.blk_miss rfl ?_ | refine JE.then_ret ?_ | refine JE.blk_ret ?_ | refine JC.label ?_ | refine JL.gon rfl rfl ?_ | refine JL.gskip rfl rfl rfl rfl ?_ | refine JL.gskipU rfl rfl rfl rfl ?_)
    exact JE.ret2 rfl (RV.tmp rfl) (RV.tmp rfl) fun w' hw => ⟨⟨nilS, by rw [hwo]; rfl⟩, rfl, hw.chg, nilS_ok w'⟩
  · have hk : hdK f.l = 0 := by rw [hdK, hg]; rfl
    have h0 : decide (((0 : Nat) : Int) = 0) = true := rfl
    have hO := hdO_len f.l
    rw [hg, if_pos rfl] at hwk
    rw [hk]
    repeat (first | refine JL.q (by first | (apply OQ.extract; exact rfl; exact rfl) | (apply OQ.neB (a := ((0 : Nat) : Int)) (b := 0); exact rfl; exact rfl; exact h0) | (apply OQ.move; exact rfl) | (apply OQ.assign; exact rfl) | (apply OQ.len; exact rfl; exact rfl) | (apply OQ.addN; exact rfl; exact rfl; exact (by (try simp only []); omega)) | (apply OQ.subN; exact rfl; exact rfl; exact (by (try simp only []); omega); exact (by (try simp only []); omega)) | (apply OQ.lssN; exact rfl; exact rfl) | (apply OQ.fld; exact rfl; exact rfl; exact rfl; exact (by decide); exact rfl)) rfl ?_ | refine JC.seq ?_ | refine JC.region ?_ | refine JC.block ?_ | refine JC.skip ?_ | refine JC.exit ?_ | refine JL.nil ?_ | refine JE.next ?_ | refine JE.blk_normal ?_ | refine JE.then_exit ?_ | refine JE.blk_hit ?_ | refine JE.blk_miss rfl ?_ | refine JE.then_ret ?_ | refine JE.blk_ret ?_ | refine JC.label ?_ | refine JL.gon rfl rfl ?_ | refine JL.gskip rfl rfl rfl rfl ?_ | refine JL.gskipU rfl rfl rfl rfl ?_)
    refine JC.cond rfl (fun h => by cases h) (fun _ => ?_)
    refine JC.perm (M' := [⟨b1, Row 25 [f.v, s.v], true⟩] ++ accE 5 q ((hdO f.l).map U8)) ?_ List.perm_append_comm
    cases h1 : decide ((200 : Int) < (f.l.length : Int)) <;> cases h2 : decide ((65536 : Int) < ((hdO f.l).length : Int)) <;> cases h3 : decide ((2097152 : Int) < (((hdO f.l).length + s.l.length : Nat) : Int))
    all_goals (repeat (first | refine JL.q (by first | (apply OQ.load; exact fsC; exact rfl; exact .here; exact (Row.cell (v := f.v) rfl)) | (apply OQ.load; exact bsC; exact rfl; exact .here; exact (Row.cell (v := s.v) rfl)) | (apply OQ.len; exact Tryd.underlying22; exact rfl) | (apply OQ.len; exact Tryd.underlying23; exact rfl) | (apply OQ.lenV; exact Tryd.underlying23; exact rfl; exact (fun h => by rw [hq h]; rfl)) | (apply OQ.gtrB (b := 200); exact rfl; exact rfl; exact h1) | (apply OQ.gtrB (b := 65536); exact rfl; exact rfl; exact h2) | (apply OQ.gtrB (b := 2097152); exact rfl; exact rfl; exact h3) | (apply OQ.pick_t; exact rfl; exact rfl) | (apply OQ.pick_f; exact rfl; exact rfl) | (apply OQ.move; exact rfl) | (apply OQ.assign; exact rfl) | (apply OQ.len; exact rfl; exact rfl) | (apply OQ.addN; exact rfl; exact rfl; exact (by (try simp only []); omega)) | (apply OQ.subN; exact rfl; exact rfl; exact (by (try simp only []); omega); exact (by (try simp only []); omega)) | (apply OQ.lssN; exact rfl; exact rfl) | (apply OQ.fld; exact rfl; exact rfl; exact rfl; exact (by decide); exact rfl)) rfl ?_ | refine JC.seq ?_ | refine JC.region ?_ | refine JC.block ?_ | refine JC.skip ?_ | refine JC.exit ?_ | refine JL.nil ?_ | refine JE.next ?_ | refine JE.blk_normal ?_ | refine JE.then_exit ?_ | refine JE.blk_hit ?_ | refine JE.blk_miss rfl ?_ | refine JE.then_ret ?_ | refine JE.blk_ret ?_ | refine JC.label ?_ | refine JL.gon rfl rfl ?_ | refine JL.gskip rfl rfl rfl rfl ?_ | refine JL.gskipU rfl rfl rfl rfl ?_))
    all_goals refine JC.cond rfl (fun h => ?_) (fun h => ?_)
    all_goals first | (exfalso; revert h; decide) | skip
    all_goals clear h
    all_goals first
      | (have hwr : writeK f.l s.l = 4 := by
           rw [hwk, if_pos]
           first
             | exact .inl (by have := of_decide_eq_true h1; omega)
             | exact .inr (.inl (by have := of_decide_eq_true h2; omega))
             | exact .inr (.inr (by have := of_decide_eq_true h3; omega))
         have hwo := writeO_no (l := f.l) (b := s.l) (by rw [hwr]; decide)
         rw [hwr]
         (repeat (first | refine JL.q (by first | (apply OQ.move; exact rfl) | (apply OQ.assign; exact rfl) | (apply OQ.len; exact rfl; exact rfl) | (apply OQ.addN; exact rfl; exact rfl; exact (by (try simp only []); omega)) | (apply OQ.subN; exact rfl; exact rfl; exact (by (try simp only []); omega); exact (by (try simp only []); omega)) | (apply OQ.lssN; exact rfl; exact rfl) | (apply OQ.fld; exact rfl; exact rfl; exact rfl; exact (by decide); exact rfl)) rfl ?_ | refine JC.seq ?_ | refine JC.region ?_ | refine JC.block ?_ | refine JC.skip ?_ | refine JC.exit ?_ | refine JL.nil ?_ | refine JE.next ?_ | refine JE.blk_normal ?_ | refine JE.then_exit ?_ | refine JE.blk_hit ?_ | refine JE.blk_miss rfl ?_ | refine JE.then_ret ?_ | refine JE.blk_ret ?_ | refine JC.label ?_ | refine JL.gon rfl rfl ?_ | refine JL.gskip rfl rfl rfl rfl ?_ | refine JL.gskipU rfl rfl rfl rfl ?_))
         refine JC.ret ?_
         (repeat (first | refine JL.q (by first | (apply OQ.move; exact rfl) | (apply OQ.assign; exact rfl) | (apply OQ.len; exact rfl; exact rfl) | (apply OQ.addN; exact rfl; exact rfl; exact (by (try simp only []); omega)) | (apply OQ.subN; exact rfl; exact rfl; exact (by (try simp only []); omega); exact (by (try simp only []); omega)) | (apply OQ.lssN; exact rfl; exact rfl) | (apply OQ.fld; exact rfl; exact rfl; exact rfl; exact (by decide); exact rfl)) rfl ?_ | refine JC.seq ?_ | refine JC.region ?_ | refine JC.block ?_ | refine JC.skip ?_ | refine JC.exit ?_ | refine JL.nil ?_ | refine JE.next ?_ | refine JE.blk_normal ?_ | refine JE.then_exit ?_ | refine JE.blk_hit ?_ | refine JE.blk_miss rfl ?_ | refine JE.then_ret ?_ | refine JE.blk_ret ?_ | refine JC.label ?_ | refine JL.gon rfl rfl ?_ | refine JL.gskip rfl rfl rfl rfl ?_ | refine JL.gskipU rfl rfl rfl rfl ?_))
         exact JE.ret2 rfl (RV.tmp rfl) (RV.tmp rfl) fun w' hw => ⟨⟨nilS, by rw [hwo]; rfl⟩, rfl, hw.chg, nilS_ok w'⟩)
      | skip
    have hwr : writeK f.l s.l = 0 := by
      rw [hwk, if_neg]
      have k1 := of_decide_eq_false h1
      have k2 := of_decide_eq_false h2
      have k3 := of_decide_eq_false h3
      omega
    have hwo := writeO_is (l := f.l) (b := s.l) hwr
    rw [hwr]
    repeat (first | refine JL.q (by first | (apply OQ.load; exact bsC; exact rfl; exact .here; exact (Row.cell (v := s.v) rfl)) | (apply OQ.move; exact rfl) | (apply OQ.assign; exact rfl) | (apply OQ.len; exact rfl; exact rfl) | (apply OQ.addN; exact rfl; exact rfl; exact (by (try simp only []); omega)) | (apply OQ.subN; exact rfl; exact rfl; exact (by (try simp only []); omega); exact (by (try simp only []); omega)) | (apply OQ.lssN; exact rfl; exact rfl) | (apply OQ.fld; exact rfl; exact rfl; exact rfl; exact (by decide); exact rfl)) rfl ?_ | refine JC.seq ?_ | refine JC.region ?_ | refine JC.block ?_ | refine JC.skip ?_ | refine JC.exit ?_ | refine JL.nil ?_ | refine JE.next ?_ | refine JE.blk_normal ?_ | refine JE.then_exit ?_ | refine JE.blk_hit ?_ | refine JE.blk_miss rfl ?_ | refine JE.then_ret ?_ | refine JE.blk_ret ?_ | refine JC.label ?_ | refine JL.gon rfl rfl ?_ | refine JL.gskip rfl rfl rfl rfl ?_ | refine JL.gskipU rfl rfl rfl rfl ?_)
    refine JL.perm (M' := accE 5 q ((hdO f.l).map U8) ++ [⟨b1, Row 25 [f.v, s.v], true⟩]) ?_ List.perm_append_comm
    refine JL.appendQ (xs := (hdO f.l).map U8) (cs := s.l.map U8) (m := s.l.length) (ad := s.ad) (sc := s.cap) q Tryd.underlying23 u8e (fun h => by rw [hq h]; rfl) (by rw [List.length_map]; rfl) rfl (by rw [List.length_map]) (fun w' hw' => (hs.holds hw' rfl).reads) (all8U _) rfl (by rw [List.length_map]; omega) (by rw [List.length_map]; omega) rfl fun q' hq' => ?_
    rw [← List.map_append] at hq' ⊢
    rw [List.length_map]
    repeat (first | refine JL.q (by first | (apply OQ.move; exact rfl) | (apply OQ.assign; exact rfl) | (apply OQ.len; exact rfl; exact rfl) | (apply OQ.addN; exact rfl; exact rfl; exact (by (try simp only []); omega)) | (apply OQ.subN; exact rfl; exact rfl; exact (by (try simp only []); omega); exact (by (try simp only []); omega)) | (apply OQ.lssN; exact rfl; exact rfl) | (apply OQ.fld; exact rfl; exact rfl; exact rfl; exact (by decide); exact rfl)) rfl ?_ | refine JC.seq ?_ | refine JC.region ?_ | refine JC.block ?_ | refine JC.skip ?_ | refine JC.exit ?_ | refine JL.nil ?_ | refine JE.next ?_ | refine JE.blk_normal ?_ | refine JE.then_exit ?_ | refine JE.blk_hit ?_ | refine JE.blk_miss rfl ?_ | refine JE.then_ret ?_ | refine JE.blk_ret ?_ | refine JC.label ?_ | refine JL.gon rfl rfl ?_ | refine JL.gskip rfl rfl rfl rfl ?_ | refine JL.gskipU rfl rfl rfl rfl ?_)
    refine JC.ret ?_
    repeat (first | refine JL.q (by first | (apply OQ.move; exact rfl) | (apply OQ.assign; exact rfl) | (apply OQ.len; exact rfl; exact rfl) | (apply OQ.addN; exact rfl; exact rfl; exact (by (try simp only []); omega)) | (apply OQ.subN; exact rfl; exact rfl; exact (by (try simp only []); omega); exact (by (try simp only []); omega)) | (apply OQ.lssN; exact rfl; exact rfl) | (apply OQ.fld; exact rfl; exact rfl; exact rfl; exact (by decide); exact rfl)) rfl ?_ | refine JC.seq ?_ | refine JC.region ?_ | refine JC.block ?_ | refine JC.skip ?_ | refine JC.exit ?_ | refine JL.nil ?_ | refine JE.next ?_ | refine JE.blk_normal ?_ | refine JE.then_exit ?_ | refine JE.blk_hit ?_ | refine JE.blk_miss rfl ?_ | refine JE.then_ret ?_ | refine JE.blk_ret ?_ | refine JC.label ?_ | refine JL.gon rfl rfl ?_ | refine JL.gskip rfl rfl rfl rfl ?_ | refine JL.gskipU rfl rfl rfl rfl ?_)
    refine JE.ret2 rfl (RV.tmp rfl) (RV.tmp rfl) fun w' hw => ⟨⟨accS q' (hdO f.l ++ s.l), ?_⟩, ?_, hw.chg, acc_ok hw⟩
    · rw [hwo]; exact accS_l fun h => by simpa using hq' h
    · dsimp only
      rw [accS_v]
      rfl
theorem letterOk : LetterOk where
  get := fun f s nm w hf _ hz hl _ _ => lget_any f s nm w hf hz (by omega)
  all := fun f s nm w hf _ hz hl _ _ => lall_any f s nm w hf hz (by omega)
  set := fun f s nm vl w hf hs hz hl hl2 _ _ => lset_any f s nm vl w hf hs hz (by omega) (by omega)
  drop := fun f s nm w hf hs hz hl hl2 _ => ldrop_any f s nm w hf hs hz (by omega) (by omega)
  write := fun f s w hf hs hz hl hl2 _ => lwrite_any f s w hf hs hz (by omega) (by omega)
end Go.Proofs.YtikhlddemdlmgaaDoor

/-
  Of no statement by itself: literals of slices of two elements with many cells; over X's partial knowledge, for any program P.
  Conditions: each rule's own hypotheses.
-/
namespace Go.Proofs.YtikhlddemdlmgaaDoor
namespace Sl
section
variable {P : Program} {n : Nat} {w0 : World} {S : List Nat} {ops : Array Oper} {Q : Exit → Act → World → Prop} {l : List Oper} {E : Env} {M : List Ent}
variable {d : Nat} {t e ty : TypeId} {pos : String} {aft : Array Edge} {v z : Value} {x y : Operand} {sz by' : Nat} {cs ds : List Value}
theorem buildA2_run {w : World} (hu : P.underlying t = some (.slice e)) (hi : EI P e z sz by') (_hz : z.cells.size = sz) (h0 : 0 < sz) (hsm : sz ≤ 8388608) (hl : cs.length = sz) (hl2 : ds.length = sz) :
    (Instr.buildSlice t 2 #[(0, .agg cs.toArray), (1, .agg ds.toArray)]).run P w = .ok (.slice (some ⟨w.heap.size, 0, none⟩) 2 2) { w with heap := w.heap.push (.cells (cs ++ ds).toArray e (0, 0)) } := by
  have h3 : (underlying t).run P w = .ok (.slice e) w := run_underlying hu w
  obtain ⟨i, h4, h5, _⟩ := hi.get
  obtain ⟨r, h6, h7, h8⟩ := Great.fill_dense h0 [.agg cs.toArray, .agg ds.toArray] 0 ((Array.range (2 * sz)).map (z.cells[· % z.cells.size]!)) (by intro v hv; simp only [List.mem_cons, List.not_mem_nil, or_false] at hv; rcases hv with rfl | rfl <;> simp [Value.cells, hl, hl2]) (by simp)
  have hr : r = (cs ++ ds).toArray := by
    apply Array.ext_getElem?
    intro k
    rw [h8 k]
    by_cases hk : k < 2 * sz
    · rw [if_pos (by simp; omega)]
      by_cases h1 : k < sz
      · rw [List.getElem?_toArray, List.getElem?_append_left (by omega)]
        simp [Nat.div_eq_of_lt h1, Nat.mod_eq_of_lt h1, Value.cells]
      · have e1 : k / sz = 1 := by
          rw [Nat.div_eq_iff h0]; omega
        have e2 : k % sz = k - sz := by
          rw [Nat.mod_eq_sub_mod (by omega), Nat.mod_eq_of_lt (by omega)]
        rw [List.getElem?_toArray, List.getElem?_append_right (by omega), hl]
        simp [e1, e2, Value.cells]
    · rw [if_neg (by simp; omega), Array.getElem?_eq_none (by simp; omega), Array.getElem?_eq_none (by simp; omega)]
  subst hr
  have h11 : (zeroValue e).run P w = .ok z w := by simp [zeroValue, typeInfo, h4, h5]
  have h12 : ¬ (16777216 < 2 * sz) := by omega
  have h13 : ¬ (2 * sz = 0) := by omega
  have h14 : ¬ (sz = 0) := by omega
  simp only [List.zipIdx_cons, List.zipIdx_nil, List.map_cons, List.map_nil] at h6
  simp [Instr.buildSlice, Sem.run_bind, h3, sizeOf_run hi.sz, h11, h12, h13, h14, h6, newRow, newObj, Sem.run]
theorem JL.litA2 (hu : P.underlying t = some (.slice e)) (hi : EI P e z sz by') (hz : z.cells.size = sz) (h0 : 0 < sz) (hsm : sz ≤ 8388608) (hx : ev E x = some (.agg cs.toArray)) (hy : ev E y = some (.agg ds.toArray)) (hl : cs.length = sz) (hl2 : ds.length = sz) (hd : Nat.blt d n = true)
    (k : ∀ b, w0.heap.size ≤ b → JL P n w0 S ops Q l ((d, .slice (some ⟨b, 0, none⟩) 2 2) :: E) (⟨b, Row e (cs ++ ds), true⟩ :: M)) : JL P n w0 S ops Q (⟨some d, .buildSlice t 2 #[(0, x), (1, y)], ty, pos, aft, none⟩ :: l) E M :=
  ⟨fun a w ha hw => wpList_plain rfl fun K hK => by
    unfold Oper.wp
    have hm : (#[(0, x), (1, y)] : Array (Nat × Operand)).map (fun (i, x) => (i, a.eval x)) = #[(0, .agg cs.toArray), (1, .agg ds.toArray)] := by simp [ha.eval hx, ha.eval hy]
    simp only [execOp, hm, Sem.run_bind, buildA2_run hu hi hz h0 hsm hl hl2, Result.andThen_ok]
    exact hK _ _ ((k w.heap.size hw.chg.size).go _ _ (ha.put d _ hd) (hw.push _ rfl rfl rfl rfl rfl))⟩
end
end Sl
end Go.Proofs.YtikhlddemdlmgaaDoor

/-
  Of no statement by itself: loops whose rounds leave worlds that are the new beginning; over X's partial knowledge, for any program P.
  Conditions: each rule's own hypotheses.
-/
namespace Go.Proofs.YtikhlddemdlmgaaDoor
open Sl
theorem JC.reb {P : Program} {n : Nat} {w0 : World} {S S' : List Nat} {Q : Exit → Act → World → Prop} {c : Code} {E : Env} {M M' : List Ent} (hM : ∀ w1, Holds w0 S M w1 → Holds w1 S' M' w1) (h : ∀ w1, Holds w0 S M w1 → JC P n w1 S' Q c E M') : JC P n w0 S Q c E M :=
  ⟨fun a w ha hw => (h w hw).go a w ha (hM w hw)⟩
theorem JC.loopb {P : Program} {n : Nat} {w0 : World} {S : List Nat} {Q : Exit → Act → World → Prop} {E : Env} {M : List Ent} {ι : Type} (W : ι → World) (Ei : ι → Env) (Mi : ι → List Ent) (μ : ι → Nat) (I : ι → Prop) {c : Code} (i : ι) (hi : I i) (hE : SubE E (Ei i)) (hM : ∀ w, Holds w0 S M w → Holds (W i) [] (Mi i) w)
    (h : ∀ i, I i → JC P n (W i) [] (Exit.then (fun a' w' => ∃ j, I j ∧ μ j < μ i ∧ Knows n (Ei j) a' ∧ Holds (W j) [] (Mi j) w') Q) c (Ei i) (Mi i)) : JC P n w0 S Q (.loop c) E M := by
  refine ⟨fun a w ha hw => ?_⟩
  have ha' := ha.sub hE
  have hw' := hM w hw
  clear ha hw hE hM
  have key : ∀ m i, μ i = m → I i → ∀ a w, Knows n (Ei i) a → Holds (W i) [] (Mi i) w → ∀ (b : Frame) (k : List Item) (cs : List Frame),
      ∃ e a' w', Q e a' w' ∧ Arrives P (lone (b.at a (.code c :: .inLoop c :: k)) cs w) b k cs e a' w' := by
    intro m
    induction m using Nat.strongRecOn with
    | _ m ih =>
      intro i hm hI a w ha hw b k cs
      obtain ⟨e, a₁, w₁, hq, harr⟩ := (h i hI).go a w ha hw b (.inLoop c :: k) cs
      cases e with
      | normal =>
        obtain ⟨j, hj, hlt, ha₁, hw₁⟩ := hq
        obtain ⟨e₂, a₂, w₂, hq₂, harr₂⟩ := ih (μ j) (hm ▸ hlt) j rfl hj a₁ w₁ ha₁ hw₁ b k cs
        exact ⟨e₂, a₂, w₂, hq₂, .of_steps (Steps.trans harr (.one step_inLoop)) harr₂⟩
      | exit id => exact ⟨_, a₁, w₁, hq, .pass (x := .inLoop c) rfl (fun _ _ => .inl (by simp)) harr⟩
      | goto l => exact ⟨_, a₁, w₁, hq, .pass (x := .inLoop c) rfl (fun _ _ => .inl (by simp)) harr⟩
      | ret => exact ⟨_, a₁, w₁, hq, .pass (x := .inLoop c) rfl (fun _ _ => .inl (by simp)) harr⟩
      | panic ch => exact ⟨_, a₁, w₁, hq, .pass (x := .inLoop c) rfl (fun _ _ => .inl (by simp)) harr⟩
      | outgrown => exact ⟨_, a₁, w₁, hq, .pass (x := .inLoop c) rfl (fun _ _ => .inl (by simp)) harr⟩
  intro b k cs
  obtain ⟨e, a', w', hq, harr⟩ := key _ i rfl hi a w ha' hw' b k cs
  exact ⟨e, a', w', hq, .of_steps (.one step_loop) harr⟩
theorem JE.againb {n : Nat} {w0 : World} {S : List Nat} {Q : Exit → Act → World → Prop} {E : Env} {M : List Ent} {ι : Type} {W : ι → World} {Ei : ι → Env} {Mi : ι → List Ent} {μ : ι → Nat} {I : ι → Prop} {i : ι} (j : World → ι) (h : ∀ w', Holds w0 S M w' → I (j w') ∧ μ (j w') < μ i ∧ Holds (W (j w')) [] (Mi (j w')) w') (hE : ∀ w', SubE E (Ei (j w'))) :
    JE n w0 S (Exit.then (fun a' w' => ∃ j, I j ∧ μ j < μ i ∧ Knows n (Ei j) a' ∧ Holds (W j) [] (Mi j) w') Q) .normal E M :=
  ⟨fun _ w' ha hw => ⟨j w', (h w' hw).1, (h w' hw).2.1, ha.sub (hE w'), (h w' hw).2.2⟩⟩
end Go.Proofs.YtikhlddemdlmgaaDoor
