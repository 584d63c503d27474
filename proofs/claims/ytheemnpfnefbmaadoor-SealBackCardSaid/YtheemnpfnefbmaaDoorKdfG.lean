/-
  Of no statement by itself: what the reference's Keys gives.
  Conditions: the theorem's own.
-/
import Derived.Test.YtheemnpfnefbmaaDoorKdfE
import Derived.Test.YtheemnpfnefbmaaDoorSlj
namespace Go.Proofs.YtheemnpfnefbmaaDoor
open Sl Sha

theorem goes_rkeys : Goes Tryd.prog 35 := ⟨_, Tryd.func35, rfl, by kernel_rfl⟩
def kj (l : List B) (i j : Nat) : List Value := (((l.drop (32 * i)).take j) ++ List.replicate (32 - j) 0).map U8
theorem kj_length (l : List B) (i j m : Nat) (hl : l.length = 32 * m) (hi : i < m) (hj : j ≤ 32) : (kj l i j).length = 32 := by
  simp [kj]; omega
theorem kj_set (l : List B) (i j m : Nat) (hl : l.length = 32 * m) (hi : i < m) (hj : j < 32) : (kj l i j).set j (U8 (l.getD (32 * i + j) 0)) = kj l i (j + 1) := by
  have h1 : ((l.drop (32 * i)).take j).length = j := by simp; omega
  have h2 : j < (l.drop (32 * i)).length := by simp; omega
  rw [kj, kj, ← List.map_set, List.set_append_right _ _ (by omega), h1, Nat.sub_self, show 32 - j = (32 - (j + 1)) + 1 by omega, List.replicate_succ, List.set_cons_zero, List.take_succ_eq_append_getElem h2, List.append_assoc]
  congr 2
  simp [List.getD, show 32 * i + j < l.length by omega]
theorem kj_all (l : List B) (i : Nat) : kj l i 32 = ((l.drop (32 * i)).take 32).map U8 := by simp [kj]

set_option maxHeartbeats 16000000 in
theorem rkeys_any (k s : Sl8) (p : ByteArray) (m : Nat) (hm : m ≤ 255) (w : World) (hk : k.ok w) (hs : s.ok w) (hkl : k.l.length < 35184372088000) (hsl : s.l.length < 35184372088000) (hpl : p.size < 35184372080000) :
    Calls Tryd.prog 35 [k.v, s.v, .string p, N m].toArray w fun e w' => ∃ x : Nat × Nat, e = .returned (.slice (some ⟨x.1, 0, none⟩) m x.2) ∧ Holds w [] [⟨x.1, Own 23 32 m x.2 ((expd (hmac k.l s.l) (bytesOf p) (32 * m)).map U8), true⟩] w' := by
  refine enter (n := 47) Tryd.func35 rfl rfl rfl (Holds.start w []) ?_
  repeat (first | refine JL.q (by first | (apply OQ.callx; exact goes_rextract; exact rfl; exact (fun w' hw' => rextract_any k s w' (hk.holds hw' rfl) (hs.holds hw' rfl) hkl hsl)) | (apply OQ.move; exact rfl) | (apply OQ.assign; exact rfl) | (apply OQ.addN; exact rfl; exact rfl; exact (by (try simp only []); omega)) | (apply OQ.mulN; exact rfl; exact rfl; exact (by (try simp only []); omega)) | (apply OQ.lssN; exact rfl; exact rfl) | (apply OQ.idxA0; exact rfl; exact rfl; exact rfl; exact rfl; exact (by (try simp only []); omega)) | (apply OQ.idxS1; exact rfl; exact rfl; exact rfl; exact rfl; exact (by (try simp only []); omega))) rfl ?_ | refine JC.seq ?_ | refine JC.region ?_ | refine JC.block ?_ | refine JC.skip ?_ | refine JC.exit ?_ | refine JL.nil ?_ | refine JE.next ?_ | refine JE.blk_normal ?_ | refine JE.then_exit ?_ | refine JE.blk_hit ?_ | refine JE.blk_miss rfl ?_ | refine JE.then_ret ?_ | refine JE.blk_ret ?_ | refine JC.label ?_ | refine JL.gon rfl rfl ?_ | refine JL.gskip rfl rfl rfl rfl ?_)
  refine JL.s2b Tryd.underlying9 Tryd.underlying33 Tryd.underlying5 rfl rfl fun b18 cap18 => ?_
  repeat (first | refine JL.q (by first | (apply OQ.move; exact rfl) | (apply OQ.assign; exact rfl) | (apply OQ.addN; exact rfl; exact rfl; exact (by (try simp only []); omega)) | (apply OQ.mulN; exact rfl; exact rfl; exact (by (try simp only []); omega)) | (apply OQ.lssN; exact rfl; exact rfl) | (apply OQ.idxA0; exact rfl; exact rfl; exact rfl; exact rfl; exact (by (try simp only []); omega)) | (apply OQ.idxS1; exact rfl; exact rfl; exact rfl; exact rfl; exact (by (try simp only []); omega))) rfl ?_ | refine JC.seq ?_ | refine JC.region ?_ | refine JC.block ?_ | refine JC.skip ?_ | refine JC.exit ?_ | refine JL.nil ?_ | refine JE.next ?_ | refine JE.blk_normal ?_ | refine JE.then_exit ?_ | refine JE.blk_hit ?_ | refine JE.blk_miss rfl ?_ | refine JE.then_ret ?_ | refine JE.blk_ret ?_ | refine JC.label ?_ | refine JL.gon rfl rfl ?_ | refine JL.gskip rfl rfl rfl rfl ?_)
  refine JL.callg (ι := { s' : Sl8 // Gave s' (expd (hmac k.l s.l) (bytesOf p) (32 * m)) s'.cap }) (fun i => i.1.v) (fun i => i.1.ents) goes_rexpand rfl rfl (fun i => Sl8.ents_wr _) (fun w' hw' => (rexpand_any (hmac k.l s.l) (hmac_length _ _) ⟨some ⟨b18, 0, none⟩, cap18, bytesOf p⟩ (32 * m) (by omega) w' (Sl8.ents_ok hw' (fun h => by cases h)) (by rw [bytesOf_length]; exact hpl)).mono fun e w2 ⟨s', h1, h2, h3⟩ => ⟨⟨s', h2⟩, h1, h3⟩) ?_
  rintro ⟨s', hs'⟩
  try dsimp only
  repeat (first | refine JL.q (by first | (apply OQ.move; exact rfl) | (apply OQ.assign; exact rfl) | (apply OQ.addN; exact rfl; exact rfl; exact (by (try simp only []); omega)) | (apply OQ.mulN; exact rfl; exact rfl; exact (by (try simp only []); omega)) | (apply OQ.lssN; exact rfl; exact rfl) | (apply OQ.idxA0; exact rfl; exact rfl; exact rfl; exact rfl; exact (by (try simp only []); omega)) | (apply OQ.idxS1; exact rfl; exact rfl; exact rfl; exact rfl; exact (by (try simp only []); omega))) rfl ?_ | refine JC.seq ?_ | refine JC.region ?_ | refine JC.block ?_ | refine JC.skip ?_ | refine JC.exit ?_ | refine JL.nil ?_ | refine JE.next ?_ | refine JE.blk_normal ?_ | refine JE.then_exit ?_ | refine JE.blk_hit ?_ | refine JE.blk_miss rfl ?_ | refine JE.then_ret ?_ | refine JE.blk_ret ?_ | refine JC.label ?_ | refine JL.gon rfl rfl ?_ | refine JL.gskip rfl rfl rfl rfl ?_)
  refine JL.litZ Tryd.underlying63 e25 rfl fun b22 _ => ?_
  repeat (first | refine JL.q (by first | (apply OQ.move; exact rfl) | (apply OQ.assign; exact rfl) | (apply OQ.addN; exact rfl; exact rfl; exact (by (try simp only []); omega)) | (apply OQ.mulN; exact rfl; exact rfl; exact (by (try simp only []); omega)) | (apply OQ.lssN; exact rfl; exact rfl) | (apply OQ.idxA0; exact rfl; exact rfl; exact rfl; exact rfl; exact (by (try simp only []); omega)) | (apply OQ.idxS1; exact rfl; exact rfl; exact rfl; exact rfl; exact (by (try simp only []); omega))) rfl ?_ | refine JC.seq ?_ | refine JC.region ?_ | refine JC.block ?_ | refine JC.skip ?_ | refine JC.exit ?_ | refine JL.nil ?_ | refine JE.next ?_ | refine JE.blk_normal ?_ | refine JE.then_exit ?_ | refine JE.blk_hit ?_ | refine JE.blk_miss rfl ?_ | refine JE.then_ret ?_ | refine JE.blk_ret ?_ | refine JC.label ?_ | refine JL.gon rfl rfl ?_ | refine JL.gskip rfl rfl rfl rfl ?_)
  have hl : s'.l.length = 32 * m := by rw [hs'.val, expd_length]
  refine JC.loop (ι := Nat × Nat × Nat) (fun i => [(3, N m), (9, s'.v), (10, .slice (some ⟨i.2.1, 0, none⟩) i.1 i.2.2), (11, N i.1)]) (fun i => ⟨i.2.1, Own 23 32 i.1 i.2.2 ((s'.l.take (32 * i.1)).map U8), true⟩ :: s'.ents)
    (fun i => m - i.1) (fun i => i.1 ≤ m) (0, b22, 0) (by dsimp only; omega) (by repeat (first | exact SubE.nil | refine SubE.cons _ _ _ rfl ?_)) (.keep _ _ _ _ _ _ (fun _ h => h) (less_pre _ _)) ?_
  rintro ⟨i, b10, cap10⟩ hi
  dsimp only at hi ⊢
  repeat (first | refine JL.q (by first | (apply OQ.move; exact rfl) | (apply OQ.assign; exact rfl) | (apply OQ.addN; exact rfl; exact rfl; exact (by (try simp only []); omega)) | (apply OQ.mulN; exact rfl; exact rfl; exact (by (try simp only []); omega)) | (apply OQ.lssN; exact rfl; exact rfl) | (apply OQ.idxA0; exact rfl; exact rfl; exact rfl; exact rfl; exact (by (try simp only []); omega)) | (apply OQ.idxS1; exact rfl; exact rfl; exact rfl; exact rfl; exact (by (try simp only []); omega))) rfl ?_ | refine JC.seq ?_ | refine JC.region ?_ | refine JC.block ?_ | refine JC.skip ?_ | refine JC.exit ?_ | refine JL.nil ?_ | refine JE.next ?_ | refine JE.blk_normal ?_ | refine JE.then_exit ?_ | refine JE.blk_hit ?_ | refine JE.blk_miss rfl ?_ | refine JE.then_ret ?_ | refine JE.blk_ret ?_ | refine JC.label ?_ | refine JL.gon rfl rfl ?_ | refine JL.gskip rfl rfl rfl rfl ?_)
  refine JC.cond rfl (fun h => ?_) (fun h => ?_)
  · have hi' : i < m := of_decide_eq_true h
    clear h hi
    obtain ⟨ad, cap, l⟩ := s'
    cases ad with
    | none =>
      have : l = [] := hs'.none rfl
      have hl : l.length = 32 * m := hl
      rw [this] at hl
      simp at hl
      omega
    | some a =>
    obtain ⟨b, j0, sp⟩ := a
    refine JC.fact (.there .here) (fun o ho => ho.2.2) fun hsp => ?_
    have hsp : sp = none := hsp
    subst hsp
    have hl : l.length = 32 * m := hl
    repeat (first | refine JL.q (by first | (apply OQ.move; exact rfl) | (apply OQ.assign; exact rfl) | (apply OQ.addN; exact rfl; exact rfl; exact (by (try simp only []); omega)) | (apply OQ.mulN; exact rfl; exact rfl; exact (by (try simp only []); omega)) | (apply OQ.lssN; exact rfl; exact rfl) | (apply OQ.idxA0; exact rfl; exact rfl; exact rfl; exact rfl; exact (by (try simp only []); omega)) | (apply OQ.idxS1; exact rfl; exact rfl; exact rfl; exact rfl; exact (by (try simp only []); omega))) rfl ?_ | refine JC.seq ?_ | refine JC.region ?_ | refine JC.block ?_ | refine JC.skip ?_ | refine JC.exit ?_ | refine JL.nil ?_ | refine JE.next ?_ | refine JE.blk_normal ?_ | refine JE.then_exit ?_ | refine JE.blk_hit ?_ | refine JE.blk_miss rfl ?_ | refine JE.then_ret ?_ | refine JE.blk_ret ?_ | refine JC.label ?_ | refine JL.gon rfl rfl ?_ | refine JL.gskip rfl rfl rfl rfl ?_)
    refine JL.q (OQ.pure (v := .agg ((List.replicate 32 (0 : B)).map U8).toArray) rfl rfl (by kernel_rfl)) rfl ?_
    refine JL.alloc zc25 rfl fun b12 _ => ?_
    refine JL.store_all s25 rfl rfl (by simp) (all8 _) .here (by simp) ?_
    repeat (first | refine JL.q (by first | (apply OQ.move; exact rfl) | (apply OQ.assign; exact rfl) | (apply OQ.addN; exact rfl; exact rfl; exact (by (try simp only []); omega)) | (apply OQ.mulN; exact rfl; exact rfl; exact (by (try simp only []); omega)) | (apply OQ.lssN; exact rfl; exact rfl) | (apply OQ.idxA0; exact rfl; exact rfl; exact rfl; exact rfl; exact (by (try simp only []); omega)) | (apply OQ.idxS1; exact rfl; exact rfl; exact rfl; exact rfl; exact (by (try simp only []); omega))) rfl ?_ | refine JC.seq ?_ | refine JC.region ?_ | refine JC.block ?_ | refine JC.skip ?_ | refine JC.exit ?_ | refine JL.nil ?_ | refine JE.next ?_ | refine JE.blk_normal ?_ | refine JE.then_exit ?_ | refine JE.blk_hit ?_ | refine JE.blk_miss rfl ?_ | refine JE.then_ret ?_ | refine JE.blk_ret ?_ | refine JC.label ?_ | refine JL.gon rfl rfl ?_ | refine JL.gskip rfl rfl rfl rfl ?_)
    refine JC.loop (fun j : Nat => [(3, N m), (9, .slice (some ⟨b, j0, none⟩) l.length cap), (10, .slice (some ⟨b10, 0, none⟩) i cap10), (11, N i), (12, Pt b12 0), (13, N j)])
      (fun j => [⟨b12, Row 23 (kj l i j), true⟩, ⟨b10, Own 23 32 i cap10 ((l.take (32 * i)).map U8), true⟩, ⟨b, fun o => hasCells o j0 (l.map U8) ∧ l.length ≤ cap ∧ (none : Option Nat) = none, true⟩]) (fun j => 32 - j) (fun j => j ≤ 32) 0 (by omega) (by repeat (first | exact SubE.nil | refine SubE.cons _ _ _ rfl ?_))
      (.keep _ _ _ _ _ _ (fun o ho => by simpa [kj] using ho) (.keep _ _ _ _ _ _ (fun _ h => h) (.keep _ _ _ _ _ _ (fun _ h => h) (Less.nil _)))) ?_
    intro j hj
    repeat (first | refine JL.q (by first | (apply OQ.move; exact rfl) | (apply OQ.assign; exact rfl) | (apply OQ.addN; exact rfl; exact rfl; exact (by (try simp only []); omega)) | (apply OQ.mulN; exact rfl; exact rfl; exact (by (try simp only []); omega)) | (apply OQ.lssN; exact rfl; exact rfl) | (apply OQ.idxA0; exact rfl; exact rfl; exact rfl; exact rfl; exact (by (try simp only []); omega)) | (apply OQ.idxS1; exact rfl; exact rfl; exact rfl; exact rfl; exact (by (try simp only []); omega))) rfl ?_ | refine JC.seq ?_ | refine JC.region ?_ | refine JC.block ?_ | refine JC.skip ?_ | refine JC.exit ?_ | refine JL.nil ?_ | refine JE.next ?_ | refine JE.blk_normal ?_ | refine JE.then_exit ?_ | refine JE.blk_hit ?_ | refine JE.blk_miss rfl ?_ | refine JE.then_ret ?_ | refine JE.blk_ret ?_ | refine JC.label ?_ | refine JL.gon rfl rfl ?_ | refine JL.gskip rfl rfl rfl rfl ?_)
    refine JC.cond rfl (fun h => ?_) (fun h => ?_)
    · have hj' : j < 32 := of_decide_eq_true h
      clear h hj
      have hx : 32 * i + j < l.length := by omega
      have hat := map_at (r := l) U8 0 hx
      repeat (first | refine JL.q (by first | (apply OQ.idxS1; exact Tryd.underlying33; exact s5; exact rfl; exact rfl; exact hx) | (apply OQ.load; exact c5; exact rfl; exact (.there (.there .here)); exact (fun o ho => has_cell ho.1 hat)) | (apply OQ.move; exact rfl) | (apply OQ.assign; exact rfl) | (apply OQ.addN; exact rfl; exact rfl; exact (by (try simp only []); omega)) | (apply OQ.mulN; exact rfl; exact rfl; exact (by (try simp only []); omega)) | (apply OQ.lssN; exact rfl; exact rfl) | (apply OQ.idxA0; exact rfl; exact rfl; exact rfl; exact rfl; exact (by (try simp only []); omega)) | (apply OQ.idxS1; exact rfl; exact rfl; exact rfl; exact rfl; exact (by (try simp only []); omega))) rfl ?_ | refine JC.seq ?_ | refine JC.region ?_ | refine JC.block ?_ | refine JC.skip ?_ | refine JC.exit ?_ | refine JL.nil ?_ | refine JE.next ?_ | refine JE.blk_normal ?_ | refine JE.then_exit ?_ | refine JE.blk_hit ?_ | refine JE.blk_miss rfl ?_ | refine JE.then_ret ?_ | refine JE.blk_ret ?_ | refine JC.label ?_ | refine JL.gon rfl rfl ?_ | refine JL.gskip rfl rfl rfl rfl ?_)
      refine JL.store_eq s5 rfl rfl rfl rfl .here (by rw [kj_length l i j m hl hi' (by omega)]; exact hj') (kj_set l i j m hl hi' hj') ?_
      repeat (first | refine JL.q (by first | (apply OQ.move; exact rfl) | (apply OQ.assign; exact rfl) | (apply OQ.addN; exact rfl; exact rfl; exact (by (try simp only []); omega)) | (apply OQ.mulN; exact rfl; exact rfl; exact (by (try simp only []); omega)) | (apply OQ.lssN; exact rfl; exact rfl) | (apply OQ.idxA0; exact rfl; exact rfl; exact rfl; exact rfl; exact (by (try simp only []); omega)) | (apply OQ.idxS1; exact rfl; exact rfl; exact rfl; exact rfl; exact (by (try simp only []); omega))) rfl ?_ | refine JC.seq ?_ | refine JC.region ?_ | refine JC.block ?_ | refine JC.skip ?_ | refine JC.exit ?_ | refine JL.nil ?_ | refine JE.next ?_ | refine JE.blk_normal ?_ | refine JE.then_exit ?_ | refine JE.blk_hit ?_ | refine JE.blk_miss rfl ?_ | refine JE.then_ret ?_ | refine JE.blk_ret ?_ | refine JC.label ?_ | refine JL.gon rfl rfl ?_ | refine JL.gskip rfl rfl rfl rfl ?_)
      exact JE.again (i := j) (j + 1) (by omega) (by omega) (by repeat (first | exact SubE.nil | refine SubE.cons _ _ _ rfl ?_)) (Less.refl _)
    · have hj' : ¬ j < 32 := of_decide_eq_false h
      obtain rfl : j = 32 := by omega
      clear h hj hj'
      have hkl' := kj_length l i 32 m hl hi' (Nat.le_refl _)
      rw [kj_all] at hkl' ⊢
      repeat (first | refine JL.q (by first | (apply OQ.load_agg (cs := ((l.drop (32 * i)).take 32).map U8); exact a25; exact s25; exact rfl; exact .here; exact hkl'; exact Row.all) | (apply OQ.move; exact rfl) | (apply OQ.assign; exact rfl) | (apply OQ.addN; exact rfl; exact rfl; exact (by (try simp only []); omega)) | (apply OQ.mulN; exact rfl; exact rfl; exact (by (try simp only []); omega)) | (apply OQ.lssN; exact rfl; exact rfl) | (apply OQ.idxA0; exact rfl; exact rfl; exact rfl; exact rfl; exact (by (try simp only []); omega)) | (apply OQ.idxS1; exact rfl; exact rfl; exact rfl; exact rfl; exact (by (try simp only []); omega))) rfl ?_ | refine JC.seq ?_ | refine JC.region ?_ | refine JC.block ?_ | refine JC.skip ?_ | refine JC.exit ?_ | refine JL.nil ?_ | refine JE.next ?_ | refine JE.blk_normal ?_ | refine JE.then_exit ?_ | refine JE.blk_hit ?_ | refine JE.blk_miss rfl ?_ | refine JE.then_ret ?_ | refine JE.blk_ret ?_ | refine JC.label ?_ | refine JL.gon rfl rfl ?_ | refine JL.gskip rfl rfl rfl rfl ?_)
      refine JL.litA Tryd.underlying63 e25 rfl (by decide) (by decide) rfl hkl' rfl fun b44 _ => ?_
      refine JL.append (cs := ((l.drop (32 * i)).take 32).map U8) (fun b' cap' => [⟨b44, Row 23 (((l.drop (32 * i)).take 32).map U8), true⟩, ⟨b12, Row 23 (((l.drop (32 * i)).take 32).map U8), true⟩, ⟨b', Own 23 32 (i + 1) cap' ((l.take (32 * i)).map U8 ++ ((l.drop (32 * i)).take 32).map U8), true⟩, ⟨b, fun o => hasCells o j0 (l.map U8) ∧ l.length ≤ cap ∧ (none : Option Nat) = none, true⟩]) Tryd.underlying63 e25 rfl rfl (by intro _ _; repeat (first | exact Repl.here | apply Repl.there)) hkl' (fun w' hw' => ?_) (of_u8 _) rfl (by decide) (by omega) (by omega) rfl fun b10' cap10' => ?_
      · obtain ⟨o, ho, hA⟩ := hw'.get .here
        exact Reads.block ho (Row.all _ hA)
      rw [← List.map_append, ← List.take_add, show 32 * i + 32 = 32 * (i + 1) by omega]
      repeat (first | refine JL.q (by first | (apply OQ.move; exact rfl) | (apply OQ.assign; exact rfl) | (apply OQ.addN; exact rfl; exact rfl; exact (by (try simp only []); omega)) | (apply OQ.mulN; exact rfl; exact rfl; exact (by (try simp only []); omega)) | (apply OQ.lssN; exact rfl; exact rfl) | (apply OQ.idxA0; exact rfl; exact rfl; exact rfl; exact rfl; exact (by (try simp only []); omega)) | (apply OQ.idxS1; exact rfl; exact rfl; exact rfl; exact rfl; exact (by (try simp only []); omega))) rfl ?_ | refine JC.seq ?_ | refine JC.region ?_ | refine JC.block ?_ | refine JC.skip ?_ | refine JC.exit ?_ | refine JL.nil ?_ | refine JE.next ?_ | refine JE.blk_normal ?_ | refine JE.then_exit ?_ | refine JE.blk_hit ?_ | refine JE.blk_miss rfl ?_ | refine JE.then_ret ?_ | refine JE.blk_ret ?_ | refine JC.label ?_ | refine JL.gon rfl rfl ?_ | refine JL.gskip rfl rfl rfl rfl ?_)
      exact JE.again (ι := Nat × Nat × Nat) (i := (i, b10, cap10)) (i + 1, b10', cap10') (by dsimp only; omega) (by dsimp only; omega) (by repeat (first | exact SubE.nil | refine SubE.cons _ _ _ rfl ?_)) (.drop _ _ _ (.drop _ _ _ (Less.refl _)))
  · have hi' : ¬ i < m := of_decide_eq_false h
    obtain rfl : i = m := by omega
    clear h hi hi'
    repeat (first | refine JL.q (by first | (apply OQ.move; exact rfl) | (apply OQ.assign; exact rfl) | (apply OQ.addN; exact rfl; exact rfl; exact (by (try simp only []); omega)) | (apply OQ.mulN; exact rfl; exact rfl; exact (by (try simp only []); omega)) | (apply OQ.lssN; exact rfl; exact rfl) | (apply OQ.idxA0; exact rfl; exact rfl; exact rfl; exact rfl; exact (by (try simp only []); omega)) | (apply OQ.idxS1; exact rfl; exact rfl; exact rfl; exact rfl; exact (by (try simp only []); omega))) rfl ?_ | refine JC.seq ?_ | refine JC.region ?_ | refine JC.block ?_ | refine JC.skip ?_ | refine JC.exit ?_ | refine JL.nil ?_ | refine JE.next ?_ | refine JE.blk_normal ?_ | refine JE.then_exit ?_ | refine JE.blk_hit ?_ | refine JE.blk_miss rfl ?_ | refine JE.then_ret ?_ | refine JE.blk_ret ?_ | refine JC.label ?_ | refine JL.gon rfl rfl ?_ | refine JL.gskip rfl rfl rfl rfl ?_)
    refine JC.ret ?_
    repeat (first | refine JL.q (by first | (apply OQ.move; exact rfl) | (apply OQ.assign; exact rfl) | (apply OQ.addN; exact rfl; exact rfl; exact (by (try simp only []); omega)) | (apply OQ.mulN; exact rfl; exact rfl; exact (by (try simp only []); omega)) | (apply OQ.lssN; exact rfl; exact rfl) | (apply OQ.idxA0; exact rfl; exact rfl; exact rfl; exact rfl; exact (by (try simp only []); omega)) | (apply OQ.idxS1; exact rfl; exact rfl; exact rfl; exact rfl; exact (by (try simp only []); omega))) rfl ?_ | refine JC.seq ?_ | refine JC.region ?_ | refine JC.block ?_ | refine JC.skip ?_ | refine JC.exit ?_ | refine JL.nil ?_ | refine JE.next ?_ | refine JE.blk_normal ?_ | refine JE.then_exit ?_ | refine JE.blk_hit ?_ | refine JE.blk_miss rfl ?_ | refine JE.then_ret ?_ | refine JE.blk_ret ?_ | refine JC.label ?_ | refine JL.gon rfl rfl ?_ | refine JL.gskip rfl rfl rfl rfl ?_)
    refine JE.ret1 rfl (RV.tmp rfl) fun w' hw => ⟨(b10, cap10), rfl, hw.weak (.keep _ _ _ _ _ _ (fun o ho => ?_) (Less.nil _))⟩
    rw [List.take_of_length_le (by omega), hs'.val] at ho
    exact ho
end Go.Proofs.YtheemnpfnefbmaaDoor
