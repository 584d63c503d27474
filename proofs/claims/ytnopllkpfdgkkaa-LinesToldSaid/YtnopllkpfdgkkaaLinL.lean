/-
  Of no statement by itself: what despatchlaw08's LinesStuff gives.
  Conditions: each theorem's own.
-/
import Derived.Test.YtnopllkpfdgkkaaLinE
import Derived.Test.YtnopllkpfdgkkaaLinD
import Derived.Test.YtnopllkpfdgkkaaLinG
namespace Go.Proofs.Ytnopllkpfdgkkaa
open Sl Lin
theorem stB_le (b : List Lin.By) : (stB b).length ≤ 4 * b.length + 7 := by
  have h1 := laidB_len b
  have h2 := congrArg List.length (splB_join (laidB b))
  have h3 := join_stuff_len (splB (laidB b)).1
  unfold stB
  rw [List.length_append] at h2 ⊢
  simp only [List.length_cons, List.length_nil]
  omega
theorem un1_len : ∀ (ls : List (List Lin.By)) (p : List (List Lin.By) × List (List Lin.By)), un1 ls = some p → (joinB p.1).length + (joinB p.2).length ≤ (joinB ls).length
  | [], _, h => by cases h
  | l :: ls, p, h => by
    have e2 : joinB (l :: ls) = (l ++ [13, 10]) ++ joinB ls := rfl
    have hu : (unL l).length ≤ l.length := by unfold unL; split <;> simp
    rw [un1] at h
    rw [e2]
    split at h
    · obtain rfl := (Option.some.inj h).symm
      simp [joinB]
      omega
    · cases h1 : un1 ls with
      | none => rw [h1] at h; cases h
      | some q =>
        rw [h1] at h
        obtain rfl := (Option.some.inj h).symm
        have ih := un1_len ls q h1
        have e1 : joinB (unL l :: q.1) = (unL l ++ [13, 10]) ++ joinB q.1 := rfl
        simp only [e1, List.length_append, List.length_cons, List.length_nil] at *
        omega
theorem unA_len (b : List Lin.By) : (unA b).1.length ≤ b.length ∧ (unA b).2.1.length ≤ b.length := by
  have h2 := congrArg List.length (splB_join b)
  rw [List.length_append] at h2
  unfold unA unB
  cases h : un1 (splB b).1 with
  | none => simp
  | some p =>
    have := un1_len _ _ h
    simp
    omega
set_option maxHeartbeats 16000000 in
theorem law_linesStuff (s : Sl8) (w : World) (hs : s.ok w) (hm : MaxOk w) : Calls Try.prog 4 [s.v].toArray w fun e w' => e = .returned (.bool true) ∧ Ext w w' := by
  refine enter (n := 48) Try.func4 rfl rfl rfl (Holds.start w []) ?_
  repeat (first | refine JL.q (by first | (apply OQ.callx; exact goes_speaks8; exact rfl; exact (fun w' _ => speaks8_any w')) | (apply OQ.not; exact rfl) | (apply OQ.move; exact rfl) | (apply OQ.assign; exact rfl) | (apply OQ.len; exact rfl; exact rfl) | (apply OQ.addN; exact rfl; exact rfl; exact (by (try simp only []); omega)) | (apply OQ.lssN; exact rfl; exact rfl) | (apply OQ.leqN; exact rfl; exact rfl)) rfl ?_ | refine JC.seq ?_ | refine JC.region ?_ | refine JC.block ?_ | refine JC.skip ?_ | refine JC.exit ?_ | refine JL.nil ?_ | refine JE.next ?_ | refine JE.blk_normal ?_ | refine JE.then_exit ?_ | refine JE.blk_hit ?_ | refine JE.blk_miss rfl ?_ | refine JE.then_ret ?_ | refine JE.blk_ret ?_ | refine JC.label ?_ | refine JL.gon rfl rfl ?_ | refine JL.gskip rfl rfl rfl rfl ?_ | refine JL.gskipU rfl rfl rfl rfl ?_)
  refine JC.cond_false rfl rfl ?_
  by_cases g : 2000 < s.l.length
  · repeat (first | refine JL.q (by first | (apply OQ.gtrN_t; exact rfl; exact rfl; exact g) | (apply OQ.move; exact rfl) | (apply OQ.assign; exact rfl) | (apply OQ.len; exact rfl; exact rfl) | (apply OQ.addN; exact rfl; exact rfl; exact (by (try simp only []); omega)) | (apply OQ.lssN; exact rfl; exact rfl) | (apply OQ.leqN; exact rfl; exact rfl)) rfl ?_ | refine JC.seq ?_ | refine JC.region ?_ | refine JC.block ?_ | refine JC.skip ?_ | refine JC.exit ?_ | refine JL.nil ?_ | refine JE.next ?_ | refine JE.blk_normal ?_ | refine JE.then_exit ?_ | refine JE.blk_hit ?_ | refine JE.blk_miss rfl ?_ | refine JE.then_ret ?_ | refine JE.blk_ret ?_ | refine JC.label ?_ | refine JL.gon rfl rfl ?_ | refine JL.gskip rfl rfl rfl rfl ?_ | refine JL.gskipU rfl rfl rfl rfl ?_)
    refine JC.cond_true rfl rfl ?_
    repeat (first | refine JL.q (by first | (apply OQ.move; exact rfl) | (apply OQ.assign; exact rfl) | (apply OQ.len; exact rfl; exact rfl) | (apply OQ.addN; exact rfl; exact rfl; exact (by (try simp only []); omega)) | (apply OQ.lssN; exact rfl; exact rfl) | (apply OQ.leqN; exact rfl; exact rfl)) rfl ?_ | refine JC.seq ?_ | refine JC.region ?_ | refine JC.block ?_ | refine JC.skip ?_ | refine JC.exit ?_ | refine JL.nil ?_ | refine JE.next ?_ | refine JE.blk_normal ?_ | refine JE.then_exit ?_ | refine JE.blk_hit ?_ | refine JE.blk_miss rfl ?_ | refine JE.then_ret ?_ | refine JE.blk_ret ?_ | refine JC.label ?_ | refine JL.gon rfl rfl ?_ | refine JL.gskip rfl rfl rfl rfl ?_ | refine JL.gskipU rfl rfl rfl rfl ?_)
    refine JC.ret ?_
    repeat (first | refine JL.q (by first | (apply OQ.move; exact rfl) | (apply OQ.assign; exact rfl) | (apply OQ.len; exact rfl; exact rfl) | (apply OQ.addN; exact rfl; exact rfl; exact (by (try simp only []); omega)) | (apply OQ.lssN; exact rfl; exact rfl) | (apply OQ.leqN; exact rfl; exact rfl)) rfl ?_ | refine JC.seq ?_ | refine JC.region ?_ | refine JC.block ?_ | refine JC.skip ?_ | refine JC.exit ?_ | refine JL.nil ?_ | refine JE.next ?_ | refine JE.blk_normal ?_ | refine JE.then_exit ?_ | refine JE.blk_hit ?_ | refine JE.blk_miss rfl ?_ | refine JE.then_ret ?_ | refine JE.blk_ret ?_ | refine JC.label ?_ | refine JL.gon rfl rfl ?_ | refine JL.gskip rfl rfl rfl rfl ?_ | refine JL.gskipU rfl rfl rfl rfl ?_)
    exact JE.ret1 rfl (RV.tmp rfl) fun w' hw => ⟨rfl, hw.chg⟩
  have hul := unA_len s.l
  have hsl := stB_le s.l
  repeat (first | refine JL.q (by first | (apply OQ.gtrN_f; exact rfl; exact rfl; exact g) | (apply OQ.move; exact rfl) | (apply OQ.assign; exact rfl) | (apply OQ.len; exact rfl; exact rfl) | (apply OQ.addN; exact rfl; exact rfl; exact (by (try simp only []); omega)) | (apply OQ.lssN; exact rfl; exact rfl) | (apply OQ.leqN; exact rfl; exact rfl)) rfl ?_ | refine JC.seq ?_ | refine JC.region ?_ | refine JC.block ?_ | refine JC.skip ?_ | refine JC.exit ?_ | refine JL.nil ?_ | refine JE.next ?_ | refine JE.blk_normal ?_ | refine JE.then_exit ?_ | refine JE.blk_hit ?_ | refine JE.blk_miss rfl ?_ | refine JE.then_ret ?_ | refine JE.blk_ret ?_ | refine JC.label ?_ | refine JL.gon rfl rfl ?_ | refine JL.gskip rfl rfl rfl rfl ?_ | refine JL.gskipU rfl rfl rfl rfl ?_)
  refine JC.cond_false rfl rfl ?_
  repeat (first | refine JL.q (by first | (apply OQ.move; exact rfl) | (apply OQ.assign; exact rfl) | (apply OQ.len; exact rfl; exact rfl) | (apply OQ.addN; exact rfl; exact rfl; exact (by (try simp only []); omega)) | (apply OQ.lssN; exact rfl; exact rfl) | (apply OQ.leqN; exact rfl; exact rfl)) rfl ?_ | refine JC.seq ?_ | refine JC.region ?_ | refine JC.block ?_ | refine JC.skip ?_ | refine JC.exit ?_ | refine JL.nil ?_ | refine JE.next ?_ | refine JE.blk_normal ?_ | refine JE.then_exit ?_ | refine JE.blk_hit ?_ | refine JE.blk_miss rfl ?_ | refine JE.then_ret ?_ | refine JE.blk_ret ?_ | refine JC.label ?_ | refine JL.gon rfl rfl ?_ | refine JL.gskip rfl rfl rfl rfl ?_ | refine JL.gskipU rfl rfl rfl rfl ?_)
  refine JL.lit0O Try.underlying22 u8e rfl fun b0 _ => ?_
  repeat (first | refine JL.q (by first | (apply OQ.move; exact rfl) | (apply OQ.assign; exact rfl) | (apply OQ.len; exact rfl; exact rfl) | (apply OQ.addN; exact rfl; exact rfl; exact (by (try simp only []); omega)) | (apply OQ.lssN; exact rfl; exact rfl) | (apply OQ.leqN; exact rfl; exact rfl)) rfl ?_ | refine JC.seq ?_ | refine JC.region ?_ | refine JC.block ?_ | refine JC.skip ?_ | refine JC.exit ?_ | refine JL.nil ?_ | refine JE.next ?_ | refine JE.blk_normal ?_ | refine JE.then_exit ?_ | refine JE.blk_hit ?_ | refine JE.blk_miss rfl ?_ | refine JE.then_ret ?_ | refine JE.blk_ret ?_ | refine JC.label ?_ | refine JL.gon rfl rfl ?_ | refine JL.gskip rfl rfl rfl rfl ?_ | refine JL.gskipU rfl rfl rfl rfl ?_)
  refine JL.append (cs := s.l.map U8) (m := s.l.length) (ad := s.ad) (sc := s.cap) (xs := []) (fun b' cap' => [⟨b', Own 5 1 (0 + s.l.length) cap' ([] ++ s.l.map U8), true⟩]) Try.underlying22 u8e rfl rfl (by intro _ _; repeat (first | exact Repl.here | apply Repl.there)) (by simp) (fun w' hw' => (hs.holds hw' rfl).reads) (all8U _) rfl (by decide) (by omega) (by omega) rfl fun b1 cap1 => ?_
  rw [Nat.zero_add, List.nil_append]
  refine JL.callw (vs := [Sl8.v ⟨some ⟨b1, 0, none⟩, cap1, s.l⟩]) (S' := []) (ι := { q : Sl8 × Sl8 // q.1.l = (unA s.l).1 ∧ q.2.l = (unA s.l).2.1 }) (fun q => .tuple #[q.1.1.v, q.1.2.v, N (unA s.l).2.2]) (fun q w2 => q.1.1.ok w2 ∧ q.1.2.ok w2) [] goes_aunst rfl rfl
    (fun w' hw' => (aunst_any ⟨some ⟨b1, 0, none⟩, cap1, s.l⟩ w' (ownb_ok hw' .here) (show s.l.length ≤ 4000000 by omega) (hm.ext hw'.chg)).mono fun e w2 ⟨q, h1, h2, h3, h4, h5⟩ => ⟨⟨q, h2, h3⟩, h1, h4, h5⟩) (.nil _) (by simp) ?_
  rintro ⟨⟨y1, x1⟩, hy1, hx1⟩ w1 hw1 ⟨oky1, okx1⟩
  replace hm := hm.ext hw1.chg
  dsimp only at hy1 hx1 oky1 okx1 ⊢
  replace hs := hs.holds hw1 rfl
  repeat (first | refine JL.q (by first | (apply OQ.extract; exact rfl; exact rfl) | (apply OQ.move; exact rfl) | (apply OQ.assign; exact rfl) | (apply OQ.len; exact rfl; exact rfl) | (apply OQ.addN; exact rfl; exact rfl; exact (by (try simp only []); omega)) | (apply OQ.lssN; exact rfl; exact rfl) | (apply OQ.leqN; exact rfl; exact rfl)) rfl ?_ | refine JC.seq ?_ | refine JC.region ?_ | refine JC.block ?_ | refine JC.skip ?_ | refine JC.exit ?_ | refine JL.nil ?_ | refine JE.next ?_ | refine JE.blk_normal ?_ | refine JE.then_exit ?_ | refine JE.blk_hit ?_ | refine JE.blk_miss rfl ?_ | refine JE.then_ret ?_ | refine JE.blk_ret ?_ | refine JC.label ?_ | refine JL.gon rfl rfl ?_ | refine JL.gskip rfl rfl rfl rfl ?_ | refine JL.gskipU rfl rfl rfl rfl ?_)
  refine JL.callw (vs := [s.v]) (S' := []) (ι := { q : Sl8 × Sl8 // q.1.l = (unA s.l).1 ∧ q.2.l = (unA s.l).2.1 }) (fun q => .tuple #[q.1.1.v, q.1.2.v, N (unA s.l).2.2]) (fun q w2 => q.1.1.ok w2 ∧ q.1.2.ok w2) [] goes_runst rfl rfl
    (fun w' hw' => (runst_any s w' (hs.holds hw' rfl) (by omega)).mono fun e w2 ⟨q, h1, h2, h3, h4, h5⟩ => ⟨⟨q, h2, h3⟩, h1, h4, h5⟩) (.nil _) (by simp) ?_
  rintro ⟨⟨y2, x2⟩, hy2, hx2⟩ w2 hw2 ⟨oky2, okx2⟩
  replace hm := hm.ext hw2.chg
  dsimp only at hy2 hx2 oky2 okx2 ⊢
  replace hs := hs.holds hw2 rfl
  replace oky1 := oky1.holds hw2 rfl
  replace okx1 := okx1.holds hw2 rfl
  repeat (first | refine JL.q (by first | (apply OQ.extract; exact rfl; exact rfl) | (apply OQ.move; exact rfl) | (apply OQ.assign; exact rfl) | (apply OQ.len; exact rfl; exact rfl) | (apply OQ.addN; exact rfl; exact rfl; exact (by (try simp only []); omega)) | (apply OQ.lssN; exact rfl; exact rfl) | (apply OQ.leqN; exact rfl; exact rfl)) rfl ?_ | refine JC.seq ?_ | refine JC.region ?_ | refine JC.block ?_ | refine JC.skip ?_ | refine JC.exit ?_ | refine JL.nil ?_ | refine JE.next ?_ | refine JE.blk_normal ?_ | refine JE.then_exit ?_ | refine JE.blk_hit ?_ | refine JE.blk_miss rfl ?_ | refine JE.then_ret ?_ | refine JE.blk_ret ?_ | refine JC.label ?_ | refine JL.gon rfl rfl ?_ | refine JL.gskip rfl rfl rfl rfl ?_ | refine JL.gskipU rfl rfl rfl rfl ?_)
  refine JL.callb (vs := [s.v]) (S' := []) [] goes_astuff rfl rfl (fun w' hw' => astuff_any s w' (hs.holds hw' rfl) (by omega)) (.nil _) (by simp) ?_
  intro p hp w3 hw3 okp
  replace hm := hm.ext hw3.chg
  replace hs := hs.holds hw3 rfl
  replace oky1 := oky1.holds hw3 rfl
  replace okx1 := okx1.holds hw3 rfl
  replace oky2 := oky2.holds hw3 rfl
  replace okx2 := okx2.holds hw3 rfl
  repeat (first | refine JL.q (by first | (apply OQ.move; exact rfl) | (apply OQ.assign; exact rfl) | (apply OQ.len; exact rfl; exact rfl) | (apply OQ.addN; exact rfl; exact rfl; exact (by (try simp only []); omega)) | (apply OQ.lssN; exact rfl; exact rfl) | (apply OQ.leqN; exact rfl; exact rfl)) rfl ?_ | refine JC.seq ?_ | refine JC.region ?_ | refine JC.block ?_ | refine JC.skip ?_ | refine JC.exit ?_ | refine JL.nil ?_ | refine JE.next ?_ | refine JE.blk_normal ?_ | refine JE.then_exit ?_ | refine JE.blk_hit ?_ | refine JE.blk_miss rfl ?_ | refine JE.then_ret ?_ | refine JE.blk_ret ?_ | refine JC.label ?_ | refine JL.gon rfl rfl ?_ | refine JL.gskip rfl rfl rfl rfl ?_ | refine JL.gskipU rfl rfl rfl rfl ?_)
  refine JL.callb (vs := [s.v]) (S' := []) [] goes_rstuff rfl rfl (fun w' hw' => rstuff_g s w' (hs.holds hw' rfl) (by omega)) (.nil _) (by simp) ?_
  intro q hq w4 hw4 okq
  replace hm := hm.ext hw4.chg
  replace oky1 := oky1.holds hw4 rfl
  replace okx1 := okx1.holds hw4 rfl
  replace oky2 := oky2.holds hw4 rfl
  replace okx2 := okx2.holds hw4 rfl
  replace okp := okp.holds hw4 rfl
  repeat (first | refine JL.q (by first | (apply OQ.callx (vs := [p.v, q.v]); exact goes_same; exact rfl; exact (fun w' hw' => same_t rfl rfl (okp.holds hw' rfl) (okq.holds hw' rfl) (by rw [hp]; omega) (by rw [hp, hq]))) | (apply OQ.callx (vs := [y1.v, y2.v]); exact goes_same; exact rfl; exact (fun w' hw' => same_t rfl rfl (oky1.holds hw' rfl) (oky2.holds hw' rfl) (by rw [hy1]; omega) (by rw [hy1, hy2]))) | (apply OQ.callx (vs := [x1.v, x2.v]); exact goes_same; exact rfl; exact (fun w' hw' => same_t rfl rfl (okx1.holds hw' rfl) (okx2.holds hw' rfl) (by rw [hx1]; omega) (by rw [hx1, hx2]))) | (apply OQ.eqi_t; exact rfl; exact rfl; exact rfl) | (apply OQ.pick_t; exact rfl; exact rfl) | (apply OQ.move; exact rfl) | (apply OQ.assign; exact rfl) | (apply OQ.len; exact rfl; exact rfl) | (apply OQ.addN; exact rfl; exact rfl; exact (by (try simp only []); omega)) | (apply OQ.lssN; exact rfl; exact rfl) | (apply OQ.leqN; exact rfl; exact rfl)) rfl ?_ | refine JC.seq ?_ | refine JC.region ?_ | refine JC.block ?_ | refine JC.skip ?_ | refine JC.exit ?_ | refine JL.nil ?_ | refine JE.next ?_ | refine JE.blk_normal ?_ | refine JE.then_exit ?_ | refine JE.blk_hit ?_ | refine JE.blk_miss rfl ?_ | refine JE.then_ret ?_ | refine JE.blk_ret ?_ | refine JC.label ?_ | refine JL.gon rfl rfl ?_ | refine JL.gskip rfl rfl rfl rfl ?_ | refine JL.gskipU rfl rfl rfl rfl ?_)
  refine JC.ret (JE.ret1 rfl (RV.tmp rfl) ?_)
  exact fun w' hw => ⟨rfl, hw1.chg.trans (hw2.chg.trans (hw3.chg.trans (hw4.chg.trans hw.chg)))⟩
end Go.Proofs.Ytnopllkpfdgkkaa
