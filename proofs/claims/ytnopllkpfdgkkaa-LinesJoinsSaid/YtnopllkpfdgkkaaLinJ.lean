/-
  Of no statement by itself: what despatchlaw08's LinesJoins gives.
  Conditions: each theorem's own.
-/
import Derived.Test.YtnopllkpfdgkkaaLinE
import Derived.Test.YtnopllkpfdgkkaaLinD
import Derived.Test.YtnopllkpfdgkkaaLinP
import Derived.Test.YtnopllkpfdgkkaaSls
namespace Go.Proofs.Ytnopllkpfdgkkaa
open Sl Lin
theorem join_step {ls : List (List Lin.By)} {i : Nat} (h : i < ls.length) : joinB (ls.take (i + 1)) = joinB (ls.take i) ++ (ls[i] ++ [13, 10]) := by
  rw [List.take_succ_eq_append_getElem h, joinB_append]
  simp [joinB]
set_option maxHeartbeats 16000000 in
theorem law_linesJoins (s : Sl8) (z : Int) (w : World) (hs : s.ok w) (hm : MaxOk w) : Calls Try.prog 7 [s.v, .int .i64 z].toArray w fun e w' => e = .returned (.bool true) ∧ Ext w w' := by
  refine enter (n := 79) Try.func7 rfl rfl rfl (Holds.start w []) ?_
  repeat (first | refine JL.q (by first | (apply OQ.callx; exact goes_speaks8; exact rfl; exact (fun w' _ => speaks8_any w')) | (apply OQ.not; exact rfl) | (apply OQ.move; exact rfl) | (apply OQ.assign; exact rfl) | (apply OQ.len; exact rfl; exact rfl) | (apply OQ.addN; exact rfl; exact rfl; exact (by (try simp only []); omega)) | (apply OQ.subN; exact rfl; exact rfl; exact (by (try simp only []); omega); exact (by (try simp only []); omega)) | (apply OQ.lssN; exact rfl; exact rfl)) rfl ?_ | refine JC.seq ?_ | refine JC.region ?_ | refine JC.block ?_ | refine JC.skip ?_ | refine JC.exit ?_ | refine JL.nil ?_ | refine JE.next ?_ | refine JE.blk_normal ?_ | refine JE.then_exit ?_ | refine JE.blk_hit ?_ | refine JE.blk_miss rfl ?_ | refine JE.then_ret ?_ | refine JE.blk_ret ?_ | refine JC.label ?_ | refine JL.gon rfl rfl ?_ | refine JL.gskip rfl rfl rfl rfl ?_ | refine JL.gskipU rfl rfl rfl rfl ?_)
  refine JC.cond_false rfl rfl ?_
  by_cases g1 : 2000 < s.l.length
  · repeat (first | refine JL.q (by first | (apply OQ.gtrN_t; exact rfl; exact rfl; exact g1) | (apply OQ.move; exact rfl) | (apply OQ.assign; exact rfl) | (apply OQ.len; exact rfl; exact rfl) | (apply OQ.addN; exact rfl; exact rfl; exact (by (try simp only []); omega)) | (apply OQ.subN; exact rfl; exact rfl; exact (by (try simp only []); omega); exact (by (try simp only []); omega)) | (apply OQ.lssN; exact rfl; exact rfl)) rfl ?_ | refine JC.seq ?_ | refine JC.region ?_ | refine JC.block ?_ | refine JC.skip ?_ | refine JC.exit ?_ | refine JL.nil ?_ | refine JE.next ?_ | refine JE.blk_normal ?_ | refine JE.then_exit ?_ | refine JE.blk_hit ?_ | refine JE.blk_miss rfl ?_ | refine JE.then_ret ?_ | refine JE.blk_ret ?_ | refine JC.label ?_ | refine JL.gon rfl rfl ?_ | refine JL.gskip rfl rfl rfl rfl ?_ | refine JL.gskipU rfl rfl rfl rfl ?_)
    refine JC.cond_true rfl rfl ?_
    repeat (first | refine JL.q (by first | (apply OQ.move; exact rfl) | (apply OQ.assign; exact rfl) | (apply OQ.len; exact rfl; exact rfl) | (apply OQ.addN; exact rfl; exact rfl; exact (by (try simp only []); omega)) | (apply OQ.subN; exact rfl; exact rfl; exact (by (try simp only []); omega); exact (by (try simp only []); omega)) | (apply OQ.lssN; exact rfl; exact rfl)) rfl ?_ | refine JC.seq ?_ | refine JC.region ?_ | refine JC.block ?_ | refine JC.skip ?_ | refine JC.exit ?_ | refine JL.nil ?_ | refine JE.next ?_ | refine JE.blk_normal ?_ | refine JE.then_exit ?_ | refine JE.blk_hit ?_ | refine JE.blk_miss rfl ?_ | refine JE.then_ret ?_ | refine JE.blk_ret ?_ | refine JC.label ?_ | refine JL.gon rfl rfl ?_ | refine JL.gskip rfl rfl rfl rfl ?_ | refine JL.gskipU rfl rfl rfl rfl ?_)
    refine JC.ret ?_
    repeat (first | refine JL.q (by first | (apply OQ.move; exact rfl) | (apply OQ.assign; exact rfl) | (apply OQ.len; exact rfl; exact rfl) | (apply OQ.addN; exact rfl; exact rfl; exact (by (try simp only []); omega)) | (apply OQ.subN; exact rfl; exact rfl; exact (by (try simp only []); omega); exact (by (try simp only []); omega)) | (apply OQ.lssN; exact rfl; exact rfl)) rfl ?_ | refine JC.seq ?_ | refine JC.region ?_ | refine JC.block ?_ | refine JC.skip ?_ | refine JC.exit ?_ | refine JL.nil ?_ | refine JE.next ?_ | refine JE.blk_normal ?_ | refine JE.then_exit ?_ | refine JE.blk_hit ?_ | refine JE.blk_miss rfl ?_ | refine JE.then_ret ?_ | refine JE.blk_ret ?_ | refine JC.label ?_ | refine JL.gon rfl rfl ?_ | refine JL.gskip rfl rfl rfl rfl ?_ | refine JL.gskipU rfl rfl rfl rfl ?_)
    exact JE.ret1 rfl (RV.tmp rfl) fun w' hw => ⟨rfl, hw.chg⟩
  have hJ := splB_join s.l
  have hJl := congrArg List.length hJ
  rw [List.length_append] at hJl
  repeat (first | refine JL.q (by first | (apply OQ.gtrN_f; exact rfl; exact rfl; exact g1) | (apply OQ.move; exact rfl) | (apply OQ.assign; exact rfl) | (apply OQ.len; exact rfl; exact rfl) | (apply OQ.addN; exact rfl; exact rfl; exact (by (try simp only []); omega)) | (apply OQ.subN; exact rfl; exact rfl; exact (by (try simp only []); omega); exact (by (try simp only []); omega)) | (apply OQ.lssN; exact rfl; exact rfl)) rfl ?_ | refine JC.seq ?_ | refine JC.region ?_ | refine JC.block ?_ | refine JC.skip ?_ | refine JC.exit ?_ | refine JL.nil ?_ | refine JE.next ?_ | refine JE.blk_normal ?_ | refine JE.then_exit ?_ | refine JE.blk_hit ?_ | refine JE.blk_miss rfl ?_ | refine JE.then_ret ?_ | refine JE.blk_ret ?_ | refine JC.label ?_ | refine JL.gon rfl rfl ?_ | refine JL.gskip rfl rfl rfl rfl ?_ | refine JL.gskipU rfl rfl rfl rfl ?_)
  refine JC.cond_false rfl rfl ?_
  repeat (first | refine JL.q (by first | (apply OQ.move; exact rfl) | (apply OQ.assign; exact rfl) | (apply OQ.len; exact rfl; exact rfl) | (apply OQ.addN; exact rfl; exact rfl; exact (by (try simp only []); omega)) | (apply OQ.subN; exact rfl; exact rfl; exact (by (try simp only []); omega); exact (by (try simp only []); omega)) | (apply OQ.lssN; exact rfl; exact rfl)) rfl ?_ | refine JC.seq ?_ | refine JC.region ?_ | refine JC.block ?_ | refine JC.skip ?_ | refine JC.exit ?_ | refine JL.nil ?_ | refine JE.next ?_ | refine JE.blk_normal ?_ | refine JE.then_exit ?_ | refine JE.blk_hit ?_ | refine JE.blk_miss rfl ?_ | refine JE.then_ret ?_ | refine JE.blk_ret ?_ | refine JC.label ?_ | refine JL.gon rfl rfl ?_ | refine JL.gskip rfl rfl rfl rfl ?_ | refine JL.gskipU rfl rfl rfl rfl ?_)
  refine JL.callw (vs := [s.v]) (S' := []) (ι := { q : SlL × Sl8 // q.1.ls = (splB s.l).1 ∧ q.2.l = (splB s.l).2 }) (fun q => .tuple #[q.1.1.v, q.1.2.v]) (fun q w2 => q.1.1.ok w2 ∧ q.1.2.ok w2) [] goes_asplit rfl rfl
    (fun w' hw' => (asplit_any s w' (hs.holds hw' rfl) (by omega) (hm.ext hw'.chg)).mono fun e w2 ⟨q, h1, h2, h3, h4, h5⟩ => ⟨⟨q, h2, h3⟩, h1, h4, h5⟩) (.nil _) (by simp) ?_
  rintro ⟨⟨L, x⟩, hL, hx⟩ w1 hw1 ⟨okL, okx⟩
  replace hm := hm.ext hw1.chg
  dsimp only at hL hx okL okx ⊢
  replace hs := hs.holds hw1 rfl
  have hE := hw1.chg
  rw [← hL, ← hx] at hJ hJl
  unfold SlL.ls at hJ hJl
  have hTl := join_take_len (L.rs.map Sl8.l)
  have hLl := join_lines_len (L.rs.map Sl8.l)
  rw [List.length_map] at hLl
  repeat (first | refine JL.q (by first | (apply OQ.extract; exact rfl; exact rfl) | (apply OQ.move; exact rfl) | (apply OQ.assign; exact rfl) | (apply OQ.len; exact rfl; exact rfl) | (apply OQ.addN; exact rfl; exact rfl; exact (by (try simp only []); omega)) | (apply OQ.subN; exact rfl; exact rfl; exact (by (try simp only []); omega); exact (by (try simp only []); omega)) | (apply OQ.lssN; exact rfl; exact rfl)) rfl ?_ | refine JC.seq ?_ | refine JC.region ?_ | refine JC.block ?_ | refine JC.skip ?_ | refine JC.exit ?_ | refine JL.nil ?_ | refine JE.next ?_ | refine JE.blk_normal ?_ | refine JE.then_exit ?_ | refine JE.blk_hit ?_ | refine JE.blk_miss rfl ?_ | refine JE.then_ret ?_ | refine JE.blk_ret ?_ | refine JC.label ?_ | refine JL.gon rfl rfl ?_ | refine JL.gskip rfl rfl rfl rfl ?_ | refine JL.gskipU rfl rfl rfl rfl ?_)
  refine JL.lit0O Try.underlying22 u8e rfl fun b0 _ => ?_
  repeat (first | refine JL.q (by first | (apply OQ.move; exact rfl) | (apply OQ.assign; exact rfl) | (apply OQ.len; exact rfl; exact rfl) | (apply OQ.addN; exact rfl; exact rfl; exact (by (try simp only []); omega)) | (apply OQ.subN; exact rfl; exact rfl; exact (by (try simp only []); omega); exact (by (try simp only []); omega)) | (apply OQ.lssN; exact rfl; exact rfl)) rfl ?_ | refine JC.seq ?_ | refine JC.region ?_ | refine JC.block ?_ | refine JC.skip ?_ | refine JC.exit ?_ | refine JL.nil ?_ | refine JE.next ?_ | refine JE.blk_normal ?_ | refine JE.then_exit ?_ | refine JE.blk_hit ?_ | refine JE.blk_miss rfl ?_ | refine JE.then_ret ?_ | refine JE.blk_ret ?_ | refine JC.label ?_ | refine JL.gon rfl rfl ?_ | refine JL.gskip rfl rfl rfl rfl ?_ | refine JL.gskipU rfl rfl rfl rfl ?_)
  refine JC.loop (fun q : Nat × Nat × Nat => [(0, s.v), (1, .int .i64 z), (6, x.v), (7, .slice (some ⟨q.2.1, 0, none⟩) (joinB ((L.rs.map Sl8.l).take q.1)).length q.2.2), (27, L.v), (28, N L.rs.length), (29, N q.1)])
    (fun q => [⟨q.2.1, Own 5 1 (joinB ((L.rs.map Sl8.l).take q.1)).length q.2.2 ((joinB ((L.rs.map Sl8.l).take q.1)).map U8), true⟩])
    (fun q => L.rs.length - q.1) (fun q => q.1 ≤ L.rs.length) (0, b0, 0) (Nat.zero_le _) (by repeat (first | exact SubE.nil | refine SubE.cons _ _ _ rfl ?_)) (.keep _ _ _ _ _ _ (fun _ h => h) (.nil _)) ?_
  rintro ⟨i, b, cap⟩ hi
  simp only at hi
  repeat (first | refine JL.q (by first | (apply OQ.move; exact rfl) | (apply OQ.assign; exact rfl) | (apply OQ.len; exact rfl; exact rfl) | (apply OQ.addN; exact rfl; exact rfl; exact (by (try simp only []); omega)) | (apply OQ.subN; exact rfl; exact rfl; exact (by (try simp only []); omega); exact (by (try simp only []); omega)) | (apply OQ.lssN; exact rfl; exact rfl)) rfl ?_ | refine JC.seq ?_ | refine JC.region ?_ | refine JC.block ?_ | refine JC.skip ?_ | refine JC.exit ?_ | refine JL.nil ?_ | refine JE.next ?_ | refine JE.blk_normal ?_ | refine JE.then_exit ?_ | refine JE.blk_hit ?_ | refine JE.blk_miss rfl ?_ | refine JE.then_ret ?_ | refine JE.blk_ret ?_ | refine JC.label ?_ | refine JL.gon rfl rfl ?_ | refine JL.gskip rfl rfl rfl rfl ?_ | refine JL.gskipU rfl rfl rfl rfl ?_)
  refine JC.cond rfl (fun h => ?_) (fun h => ?_)
  · have hi' : i < L.rs.length := of_decide_eq_true h
    clear h hi
    have eT : joinB ((L.rs.map Sl8.l).take (i + 1)) = joinB ((L.rs.map Sl8.l).take i) ++ ((L.rs[i]).l ++ [13, 10]) := by
      rw [join_step (by rw [List.length_map]; exact hi'), List.getElem_map]
    have hTl' := hTl (i + 1)
    obtain ⟨ba, ja, hae, hca⟩ := okL.reads.at (by simp; omega)
    have hci : w1.cell? ⟨ba, ja + i, none⟩ = some (L.rs[i]).v := hca i _ (by simp [hi'])
    have hav : L.v = .slice (some ⟨ba, ja, none⟩) L.rs.length L.cap := by rw [← hae]; rfl
    have oky := okL.all _ (List.getElem_mem hi')
    generalize L.rs[i] = y at eT hci oky
    generalize joinB ((L.rs.map Sl8.l).take i) = A at eT ⊢
    rw [eT] at hTl'
    simp only [List.length_append, List.length_cons, List.length_nil] at hTl'
    rw [hav]
    repeat (first | refine JL.q (by first | (apply OQ.idxS1; exact Try.underlying24; exact sls; exact rfl; exact rfl; exact hi') | (apply OQ.load_old; exact slc; exact rfl; exact (block_lt_of_cell hci); exact (by simp); exact hci) | (apply OQ.move; exact rfl) | (apply OQ.assign; exact rfl) | (apply OQ.len; exact rfl; exact rfl) | (apply OQ.addN; exact rfl; exact rfl; exact (by (try simp only []); omega)) | (apply OQ.subN; exact rfl; exact rfl; exact (by (try simp only []); omega); exact (by (try simp only []); omega)) | (apply OQ.lssN; exact rfl; exact rfl)) rfl ?_ | refine JC.seq ?_ | refine JC.region ?_ | refine JC.block ?_ | refine JC.skip ?_ | refine JC.exit ?_ | refine JL.nil ?_ | refine JE.next ?_ | refine JE.blk_normal ?_ | refine JE.then_exit ?_ | refine JE.blk_hit ?_ | refine JE.blk_miss rfl ?_ | refine JE.then_ret ?_ | refine JE.blk_ret ?_ | refine JC.label ?_ | refine JL.gon rfl rfl ?_ | refine JL.gskip rfl rfl rfl rfl ?_ | refine JL.gskipU rfl rfl rfl rfl ?_)
    refine JL.append (cs := y.l.map U8) (m := y.l.length) (ad := y.ad) (sc := y.cap) (xs := A.map U8) (fun b' cap' => [⟨b', Own 5 1 (A.length + y.l.length) cap' (A.map U8 ++ y.l.map U8), true⟩]) Try.underlying22 u8e rfl rfl (by intro _ _; repeat (first | exact Repl.here | apply Repl.there)) (by simp) (fun w' hw' => (oky.holds hw' rfl).reads) (all8U _) rfl (by decide) (by omega) (by omega) rfl fun b3 cap3 => ?_
    refine JL.appendS (r := [13, 10]) (xs := A.map U8 ++ y.l.map U8) (fun b' cap' => [⟨b', Own 5 1 (A.length + y.l.length + 2) cap' (A.map U8 ++ y.l.map U8 ++ [U8 13, U8 10]), true⟩]) Try.underlying22 Try.underlying9 u8e rfl rfl (by intro _ _; repeat (first | exact Repl.here | apply Repl.there)) (show A.length + y.l.length + 2 ≤ _ by omega) rfl fun b4 cap4 => ?_
    rw [← hav]
    repeat (first | refine JL.q (by first | (apply OQ.move; exact rfl) | (apply OQ.assign; exact rfl) | (apply OQ.len; exact rfl; exact rfl) | (apply OQ.addN; exact rfl; exact rfl; exact (by (try simp only []); omega)) | (apply OQ.subN; exact rfl; exact rfl; exact (by (try simp only []); omega); exact (by (try simp only []); omega)) | (apply OQ.lssN; exact rfl; exact rfl)) rfl ?_ | refine JC.seq ?_ | refine JC.region ?_ | refine JC.block ?_ | refine JC.skip ?_ | refine JC.exit ?_ | refine JL.nil ?_ | refine JE.next ?_ | refine JE.blk_normal ?_ | refine JE.then_exit ?_ | refine JE.blk_hit ?_ | refine JE.blk_miss rfl ?_ | refine JE.then_ret ?_ | refine JE.blk_ret ?_ | refine JC.label ?_ | refine JL.gon rfl rfl ?_ | refine JL.gskip rfl rfl rfl rfl ?_ | refine JL.gskipU rfl rfl rfl rfl ?_)
    refine JE.again (i := (i, b, cap)) (i + 1, b4, cap4) (by show i + 1 ≤ _; omega) (by show L.rs.length - (i + 1) < L.rs.length - i; omega) ?_ (.keep _ _ _ _ _ _ (fun o h => ?_) (.nil _))
    · dsimp only
      rw [show (joinB ((L.rs.map Sl8.l).take (i + 1))).length = A.length + y.l.length + 2 by rw [eT]; simp; omega]
      exact (by repeat (first | exact SubE.nil | refine SubE.cons _ _ _ rfl ?_))
    · dsimp only
      rw [show (joinB ((L.rs.map Sl8.l).take (i + 1))).length = A.length + y.l.length + 2 by rw [eT]; simp; omega, show (joinB ((L.rs.map Sl8.l).take (i + 1))).map U8 = A.map U8 ++ y.l.map U8 ++ [U8 13, U8 10] by rw [eT]; simp]
      exact h
  have hi' : ¬ i < L.rs.length := of_decide_eq_false h
  obtain rfl : i = L.rs.length := by omega
  clear h hi hi'
  rw [List.take_of_length_le (by rw [List.length_map]; exact Nat.le_refl _)]
  generalize joinB (L.rs.map Sl8.l) = A at hJ hJl ⊢
  repeat (first | refine JL.q (by first | (apply OQ.move; exact rfl) | (apply OQ.assign; exact rfl) | (apply OQ.len; exact rfl; exact rfl) | (apply OQ.addN; exact rfl; exact rfl; exact (by (try simp only []); omega)) | (apply OQ.subN; exact rfl; exact rfl; exact (by (try simp only []); omega); exact (by (try simp only []); omega)) | (apply OQ.lssN; exact rfl; exact rfl)) rfl ?_ | refine JC.seq ?_ | refine JC.region ?_ | refine JC.block ?_ | refine JC.skip ?_ | refine JC.exit ?_ | refine JL.nil ?_ | refine JE.next ?_ | refine JE.blk_normal ?_ | refine JE.then_exit ?_ | refine JE.blk_hit ?_ | refine JE.blk_miss rfl ?_ | refine JE.then_ret ?_ | refine JE.blk_ret ?_ | refine JC.label ?_ | refine JL.gon rfl rfl ?_ | refine JL.gskip rfl rfl rfl rfl ?_ | refine JL.gskipU rfl rfl rfl rfl ?_)
  refine JL.append (cs := x.l.map U8) (m := x.l.length) (ad := x.ad) (sc := x.cap) (xs := A.map U8) (fun b' cap' => [⟨b', Own 5 1 (A.length + x.l.length) cap' (A.map U8 ++ x.l.map U8), true⟩]) Try.underlying22 u8e rfl rfl (by intro _ _; repeat (first | exact Repl.here | apply Repl.there)) (by simp) (fun w' hw' => (okx.holds hw' rfl).reads) (all8U _) rfl (by decide) (by omega) (by omega) rfl fun b3 cap3 => ?_
  rw [← List.length_append, ← List.map_append, hJ]
  have ePl : plB s.l z.toNat = plB s.l (min z.toNat s.l.length) := by
    by_cases h : z.toNat ≤ s.l.length
    · rw [Nat.min_eq_left h]
    · rw [plB_all s.l (by omega : s.l.length ≤ z.toNat), Nat.min_eq_right (by omega)]
  have eK : max (min z (s.l.length : Int)) 0 = ((min z.toNat s.l.length : Nat) : Int) := by omega
  have hK : min z.toNat s.l.length ≤ s.l.length := Nat.min_le_right ..
  repeat (first | refine JL.q (by first | (apply OQ.callx (vs := [Sl8.v ⟨some ⟨b3, 0, none⟩, cap3, s.l⟩, s.v]); exact goes_same; exact rfl; exact (fun w' hw' => same_t (a := ⟨some ⟨b3, 0, none⟩, cap3, s.l⟩) (b := s) rfl rfl (ownb_ok hw' .here) (hs.holds hw' rfl) (show s.l.length < 4611686018427387904 by omega) rfl)) | (apply OQ.not; exact rfl) | (apply OQ.move; exact rfl) | (apply OQ.assign; exact rfl) | (apply OQ.len; exact rfl; exact rfl) | (apply OQ.addN; exact rfl; exact rfl; exact (by (try simp only []); omega)) | (apply OQ.subN; exact rfl; exact rfl; exact (by (try simp only []); omega); exact (by (try simp only []); omega)) | (apply OQ.lssN; exact rfl; exact rfl)) rfl ?_ | refine JC.seq ?_ | refine JC.region ?_ | refine JC.block ?_ | refine JC.skip ?_ | refine JC.exit ?_ | refine JL.nil ?_ | refine JE.next ?_ | refine JE.blk_normal ?_ | refine JE.then_exit ?_ | refine JE.blk_hit ?_ | refine JE.blk_miss rfl ?_ | refine JE.then_ret ?_ | refine JE.blk_ret ?_ | refine JC.label ?_ | refine JL.gon rfl rfl ?_ | refine JL.gskip rfl rfl rfl rfl ?_ | refine JL.gskipU rfl rfl rfl rfl ?_)
  refine JC.cond_false rfl rfl ?_
  repeat (first | refine JL.q (by first | (apply OQ.minI; exact rfl; exact rfl) | (apply OQ.maxI; exact rfl; exact rfl) | (apply OQ.callx (vs := [s.v, .int .i64 z]); exact goes_aplace; exact rfl; exact (fun w' hw' => aplace_any s z w' (hs.holds hw' rfl) (by omega))) | (apply OQ.extract; exact rfl; exact rfl) | (apply OQ.move; exact rfl) | (apply OQ.assign; exact rfl) | (apply OQ.len; exact rfl; exact rfl) | (apply OQ.addN; exact rfl; exact rfl; exact (by (try simp only []); omega)) | (apply OQ.subN; exact rfl; exact rfl; exact (by (try simp only []); omega); exact (by (try simp only []); omega)) | (apply OQ.lssN; exact rfl; exact rfl)) rfl ?_ | refine JC.seq ?_ | refine JC.region ?_ | refine JC.block ?_ | refine JC.skip ?_ | refine JC.exit ?_ | refine JL.nil ?_ | refine JE.next ?_ | refine JE.blk_normal ?_ | refine JE.then_exit ?_ | refine JE.blk_hit ?_ | refine JE.blk_miss rfl ?_ | refine JE.then_ret ?_ | refine JE.blk_ret ?_ | refine JC.label ?_ | refine JL.gon rfl rfl ?_ | refine JL.gskip rfl rfl rfl rfl ?_ | refine JL.gskipU rfl rfl rfl rfl ?_)
  rw [eK, ePl]
  generalize min z.toNat s.l.length = k at hK ⊢
  refine JC.loop (fun i : Nat => [(0, s.v), (10, N k), (11, N (plB s.l k).1), (12, N (plB s.l k).2), (13, N (plB s.l i).1), (14, N (i - (plB s.l i).2)), (15, N i)]) (fun _ => []) (fun i => k - i) (fun i => i ≤ k) 0 (Nat.zero_le _) (by repeat (first | exact SubE.nil | refine SubE.cons _ _ _ rfl ?_)) (.nil _) ?_
  intro i hi
  have hpl := plB_le s.l i
  repeat (first | refine JL.q (by first | (apply OQ.move; exact rfl) | (apply OQ.assign; exact rfl) | (apply OQ.len; exact rfl; exact rfl) | (apply OQ.addN; exact rfl; exact rfl; exact (by (try simp only []); omega)) | (apply OQ.subN; exact rfl; exact rfl; exact (by (try simp only []); omega); exact (by (try simp only []); omega)) | (apply OQ.lssN; exact rfl; exact rfl)) rfl ?_ | refine JC.seq ?_ | refine JC.region ?_ | refine JC.block ?_ | refine JC.skip ?_ | refine JC.exit ?_ | refine JL.nil ?_ | refine JE.next ?_ | refine JE.blk_normal ?_ | refine JE.then_exit ?_ | refine JE.blk_hit ?_ | refine JE.blk_miss rfl ?_ | refine JE.then_ret ?_ | refine JE.blk_ret ?_ | refine JC.label ?_ | refine JL.gon rfl rfl ?_ | refine JL.gskip rfl rfl rfl rfl ?_ | refine JL.gskipU rfl rfl rfl rfl ?_)
  refine JC.cond rfl (fun h => ?_) (fun h => ?_)
  · have hik : i < k := of_decide_eq_true h
    have hi' : i < s.l.length := by omega
    clear h hi
    have eT := plB_step s.l hi'
    obtain ⟨ba, ja, hae, hca⟩ := hs.reads.at (by simp; omega)
    have hc := hca i _ (map_at U8 0 hi')
    have hav : s.v = .slice (some ⟨ba, ja, none⟩) s.l.length s.cap := by rw [← hae]; rfl
    generalize plB s.l i = T at eT hpl ⊢
    generalize plB s.l k = F
    rw [hav]
    by_cases c10 : s.l.getD i 0 = 10
    · have hc := c10 ▸ hc
      have eI : plB s.l (i + 1) = (T.1 + 1, 0) := by rw [eT]; unfold pl; rw [if_pos c10]
      repeat (first | refine JL.q (by first | (apply OQ.idxS1; exact Try.underlying22; exact u8s; exact rfl; exact rfl; exact hi') | (apply OQ.load_old; exact u8c; exact rfl; exact (block_lt_of_cell hc); exact (by simp); exact hc) | (apply OQ.eqi_t; exact rfl; exact rfl; exact rfl) | (apply OQ.move; exact rfl) | (apply OQ.assign; exact rfl) | (apply OQ.len; exact rfl; exact rfl) | (apply OQ.addN; exact rfl; exact rfl; exact (by (try simp only []); omega)) | (apply OQ.subN; exact rfl; exact rfl; exact (by (try simp only []); omega); exact (by (try simp only []); omega)) | (apply OQ.lssN; exact rfl; exact rfl)) rfl ?_ | refine JC.seq ?_ | refine JC.region ?_ | refine JC.block ?_ | refine JC.skip ?_ | refine JC.exit ?_ | refine JL.nil ?_ | refine JE.next ?_ | refine JE.blk_normal ?_ | refine JE.then_exit ?_ | refine JE.blk_hit ?_ | refine JE.blk_miss rfl ?_ | refine JE.then_ret ?_ | refine JE.blk_ret ?_ | refine JC.label ?_ | refine JL.gon rfl rfl ?_ | refine JL.gskip rfl rfl rfl rfl ?_ | refine JL.gskipU rfl rfl rfl rfl ?_)
      refine JC.cond_true rfl rfl ?_
      repeat (first | refine JL.q (by first | (apply OQ.move; exact rfl) | (apply OQ.assign; exact rfl) | (apply OQ.len; exact rfl; exact rfl) | (apply OQ.addN; exact rfl; exact rfl; exact (by (try simp only []); omega)) | (apply OQ.subN; exact rfl; exact rfl; exact (by (try simp only []); omega); exact (by (try simp only []); omega)) | (apply OQ.lssN; exact rfl; exact rfl)) rfl ?_ | refine JC.seq ?_ | refine JC.region ?_ | refine JC.block ?_ | refine JC.skip ?_ | refine JC.exit ?_ | refine JL.nil ?_ | refine JE.next ?_ | refine JE.blk_normal ?_ | refine JE.then_exit ?_ | refine JE.blk_hit ?_ | refine JE.blk_miss rfl ?_ | refine JE.then_ret ?_ | refine JE.blk_ret ?_ | refine JC.label ?_ | refine JL.gon rfl rfl ?_ | refine JL.gskip rfl rfl rfl rfl ?_ | refine JL.gskipU rfl rfl rfl rfl ?_)
      rw [← hav]
      refine JE.again (i := i) (i + 1) (by show i + 1 ≤ k; omega) (by show k - (i + 1) < k - i; omega) ?_ (.nil _)
      dsimp only
      rw [eI]
      exact (by repeat (first | exact SubE.nil | refine SubE.cons _ _ _ rfl ?_))
    · have eI : plB s.l (i + 1) = (T.1, T.2 + 1) := by rw [eT]; unfold pl; rw [if_neg c10]
      repeat (first | refine JL.q (by first | (apply OQ.idxS1; exact Try.underlying22; exact u8s; exact rfl; exact rfl; exact hi') | (apply OQ.load_old; exact u8c; exact rfl; exact (block_lt_of_cell hc); exact (by simp); exact hc) | (apply OQ.eqi_f; exact rfl; exact rfl; exact (by_ne c10)) | (apply OQ.move; exact rfl) | (apply OQ.assign; exact rfl) | (apply OQ.len; exact rfl; exact rfl) | (apply OQ.addN; exact rfl; exact rfl; exact (by (try simp only []); omega)) | (apply OQ.subN; exact rfl; exact rfl; exact (by (try simp only []); omega); exact (by (try simp only []); omega)) | (apply OQ.lssN; exact rfl; exact rfl)) rfl ?_ | refine JC.seq ?_ | refine JC.region ?_ | refine JC.block ?_ | refine JC.skip ?_ | refine JC.exit ?_ | refine JL.nil ?_ | refine JE.next ?_ | refine JE.blk_normal ?_ | refine JE.then_exit ?_ | refine JE.blk_hit ?_ | refine JE.blk_miss rfl ?_ | refine JE.then_ret ?_ | refine JE.blk_ret ?_ | refine JC.label ?_ | refine JL.gon rfl rfl ?_ | refine JL.gskip rfl rfl rfl rfl ?_ | refine JL.gskipU rfl rfl rfl rfl ?_)
      refine JC.cond_false rfl rfl ?_
      repeat (first | refine JL.q (by first | (apply OQ.move; exact rfl) | (apply OQ.assign; exact rfl) | (apply OQ.len; exact rfl; exact rfl) | (apply OQ.addN; exact rfl; exact rfl; exact (by (try simp only []); omega)) | (apply OQ.subN; exact rfl; exact rfl; exact (by (try simp only []); omega); exact (by (try simp only []); omega)) | (apply OQ.lssN; exact rfl; exact rfl)) rfl ?_ | refine JC.seq ?_ | refine JC.region ?_ | refine JC.block ?_ | refine JC.skip ?_ | refine JC.exit ?_ | refine JL.nil ?_ | refine JE.next ?_ | refine JE.blk_normal ?_ | refine JE.then_exit ?_ | refine JE.blk_hit ?_ | refine JE.blk_miss rfl ?_ | refine JE.then_ret ?_ | refine JE.blk_ret ?_ | refine JC.label ?_ | refine JL.gon rfl rfl ?_ | refine JL.gskip rfl rfl rfl rfl ?_ | refine JL.gskipU rfl rfl rfl rfl ?_)
      rw [← hav]
      refine JE.again (i := i) (i + 1) (by show i + 1 ≤ k; omega) (by show k - (i + 1) < k - i; omega) ?_ (.nil _)
      dsimp only
      rw [eI, show i + 1 - (T.2 + 1) = i - T.2 by omega]
      exact (by repeat (first | exact SubE.nil | refine SubE.cons _ _ _ rfl ?_))
  · have hik : ¬ i < k := of_decide_eq_false h
    obtain rfl : i = k := by omega
    clear h hi hik
    generalize plB s.l i = F at hpl ⊢
    repeat (first | refine JL.q (by first | (apply OQ.eqi_t; exact rfl; exact rfl; exact rfl) | (apply OQ.eqi_t; exact rfl; exact rfl; exact (show ((F.2 : Nat) : Int) = ((i - (i - F.2) : Nat) : Int) by omega)) | (apply OQ.pick_t; exact rfl; exact rfl) | (apply OQ.move; exact rfl) | (apply OQ.assign; exact rfl) | (apply OQ.len; exact rfl; exact rfl) | (apply OQ.addN; exact rfl; exact rfl; exact (by (try simp only []); omega)) | (apply OQ.subN; exact rfl; exact rfl; exact (by (try simp only []); omega); exact (by (try simp only []); omega)) | (apply OQ.lssN; exact rfl; exact rfl)) rfl ?_ | refine JC.seq ?_ | refine JC.region ?_ | refine JC.block ?_ | refine JC.skip ?_ | refine JC.exit ?_ | refine JL.nil ?_ | refine JE.next ?_ | refine JE.blk_normal ?_ | refine JE.then_exit ?_ | refine JE.blk_hit ?_ | refine JE.blk_miss rfl ?_ | refine JE.then_ret ?_ | refine JE.blk_ret ?_ | refine JC.label ?_ | refine JL.gon rfl rfl ?_ | refine JL.gskip rfl rfl rfl rfl ?_ | refine JL.gskipU rfl rfl rfl rfl ?_)
    refine JC.ret (JE.ret1 rfl (RV.tmp rfl) ?_)
    exact fun w' hw => ⟨rfl, hE.trans hw.chg⟩
end Go.Proofs.Ytnopllkpfdgkkaa
