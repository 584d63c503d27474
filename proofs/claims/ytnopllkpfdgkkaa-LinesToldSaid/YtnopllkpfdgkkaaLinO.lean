/-
  Of no statement by itself: what despatchlaw08's LinesTold gives.
  Conditions: each theorem's own.
-/
import Derived.Test.YtnopllkpfdgkkaaLinL
import Derived.Test.YtnopllkpfdgkkaaLinP
namespace Go.Proofs.Ytnopllkpfdgkkaa
open Sl Lin
theorem mem_join : ∀ (ls : List (List Lin.By)), ∀ l ∈ ls, l.length ≤ (joinB ls).length
  | [], _, h => by cases h
  | a :: ls, l, h => by
    have e2 : joinB (a :: ls) = (a ++ [13, 10]) ++ joinB ls := rfl
    rw [e2]
    simp only [List.length_append]
    rcases List.mem_cons.1 h with h | h
    · subst h; omega
    · have := mem_join ls l h; omega
set_option maxHeartbeats 16000000 in
theorem law_linesTold (s : Sl8) (z : Int) (w : World) (hs : s.ok w) (hm : MaxOk w) : Calls Try.prog 3 [s.v, .int .i64 z].toArray w fun e w' => e = .returned (.bool true) ∧ Ext w w' := by
  refine enter (n := 93) Try.func3 rfl rfl rfl (Holds.start w []) ?_
  repeat (first | refine JL.q (by first | (apply OQ.callx; exact goes_speaks8; exact rfl; exact (fun w' _ => speaks8_any w')) | (apply OQ.not; exact rfl) | (apply OQ.move; exact rfl) | (apply OQ.assign; exact rfl) | (apply OQ.len; exact rfl; exact rfl) | (apply OQ.addN; exact rfl; exact rfl; exact (by (try simp only []); omega)) | (apply OQ.lssN; exact rfl; exact rfl) | (apply OQ.leqN; exact rfl; exact rfl)) rfl ?_ | refine JC.seq ?_ | refine JC.region ?_ | refine JC.block ?_ | refine JC.skip ?_ | refine JC.exit ?_ | refine JL.nil ?_ | refine JE.next ?_ | refine JE.blk_normal ?_ | refine JE.then_exit ?_ | refine JE.blk_hit ?_ | refine JE.blk_miss rfl ?_ | refine JE.then_ret ?_ | refine JE.blk_ret ?_ | refine JC.label ?_ | refine JL.gon rfl rfl ?_ | refine JL.gskip rfl rfl rfl rfl ?_ | refine JL.gskipU rfl rfl rfl rfl ?_)
  refine JC.cond_false rfl rfl ?_
  by_cases g1 : 2000 < s.l.length
  · repeat (first | refine JL.q (by first | (apply OQ.gtrN_t; exact rfl; exact rfl; exact g1) | (apply OQ.move; exact rfl) | (apply OQ.assign; exact rfl) | (apply OQ.len; exact rfl; exact rfl) | (apply OQ.addN; exact rfl; exact rfl; exact (by (try simp only []); omega)) | (apply OQ.lssN; exact rfl; exact rfl) | (apply OQ.leqN; exact rfl; exact rfl)) rfl ?_ | refine JC.seq ?_ | refine JC.region ?_ | refine JC.block ?_ | refine JC.skip ?_ | refine JC.exit ?_ | refine JL.nil ?_ | refine JE.next ?_ | refine JE.blk_normal ?_ | refine JE.then_exit ?_ | refine JE.blk_hit ?_ | refine JE.blk_miss rfl ?_ | refine JE.then_ret ?_ | refine JE.blk_ret ?_ | refine JC.label ?_ | refine JL.gon rfl rfl ?_ | refine JL.gskip rfl rfl rfl rfl ?_ | refine JL.gskipU rfl rfl rfl rfl ?_)
    refine JC.cond_true rfl rfl ?_
    repeat (first | refine JL.q (by first | (apply OQ.move; exact rfl) | (apply OQ.assign; exact rfl) | (apply OQ.len; exact rfl; exact rfl) | (apply OQ.addN; exact rfl; exact rfl; exact (by (try simp only []); omega)) | (apply OQ.lssN; exact rfl; exact rfl) | (apply OQ.leqN; exact rfl; exact rfl)) rfl ?_ | refine JC.seq ?_ | refine JC.region ?_ | refine JC.block ?_ | refine JC.skip ?_ | refine JC.exit ?_ | refine JL.nil ?_ | refine JE.next ?_ | refine JE.blk_normal ?_ | refine JE.then_exit ?_ | refine JE.blk_hit ?_ | refine JE.blk_miss rfl ?_ | refine JE.then_ret ?_ | refine JE.blk_ret ?_ | refine JC.label ?_ | refine JL.gon rfl rfl ?_ | refine JL.gskip rfl rfl rfl rfl ?_ | refine JL.gskipU rfl rfl rfl rfl ?_)
    refine JC.ret ?_
    repeat (first | refine JL.q (by first | (apply OQ.move; exact rfl) | (apply OQ.assign; exact rfl) | (apply OQ.len; exact rfl; exact rfl) | (apply OQ.addN; exact rfl; exact rfl; exact (by (try simp only []); omega)) | (apply OQ.lssN; exact rfl; exact rfl) | (apply OQ.leqN; exact rfl; exact rfl)) rfl ?_ | refine JC.seq ?_ | refine JC.region ?_ | refine JC.block ?_ | refine JC.skip ?_ | refine JC.exit ?_ | refine JL.nil ?_ | refine JE.next ?_ | refine JE.blk_normal ?_ | refine JE.then_exit ?_ | refine JE.blk_hit ?_ | refine JE.blk_miss rfl ?_ | refine JE.then_ret ?_ | refine JE.blk_ret ?_ | refine JC.label ?_ | refine JL.gon rfl rfl ?_ | refine JL.gskip rfl rfl rfl rfl ?_ | refine JL.gskipU rfl rfl rfl rfl ?_)
    exact JE.ret1 rfl (RV.tmp rfl) fun w' hw => ⟨rfl, hw.chg⟩
  have hwl := wh_len s.l 0
  rw [show wh 0 s.l = whB s.l from rfl] at hwl
  have hJl := congrArg List.length (splB_join s.l)
  rw [List.length_append] at hJl
  repeat (first | refine JL.q (by first | (apply OQ.gtrN_f; exact rfl; exact rfl; exact g1) | (apply OQ.move; exact rfl) | (apply OQ.assign; exact rfl) | (apply OQ.len; exact rfl; exact rfl) | (apply OQ.addN; exact rfl; exact rfl; exact (by (try simp only []); omega)) | (apply OQ.lssN; exact rfl; exact rfl) | (apply OQ.leqN; exact rfl; exact rfl)) rfl ?_ | refine JC.seq ?_ | refine JC.region ?_ | refine JC.block ?_ | refine JC.skip ?_ | refine JC.exit ?_ | refine JL.nil ?_ | refine JE.next ?_ | refine JE.blk_normal ?_ | refine JE.then_exit ?_ | refine JE.blk_hit ?_ | refine JE.blk_miss rfl ?_ | refine JE.then_ret ?_ | refine JE.blk_ret ?_ | refine JC.label ?_ | refine JL.gon rfl rfl ?_ | refine JL.gskip rfl rfl rfl rfl ?_ | refine JL.gskipU rfl rfl rfl rfl ?_)
  refine JC.cond_false rfl rfl ?_
  repeat (first | refine JL.q (by first | (apply OQ.move; exact rfl) | (apply OQ.assign; exact rfl) | (apply OQ.len; exact rfl; exact rfl) | (apply OQ.addN; exact rfl; exact rfl; exact (by (try simp only []); omega)) | (apply OQ.lssN; exact rfl; exact rfl) | (apply OQ.leqN; exact rfl; exact rfl)) rfl ?_ | refine JC.seq ?_ | refine JC.region ?_ | refine JC.block ?_ | refine JC.skip ?_ | refine JC.exit ?_ | refine JL.nil ?_ | refine JE.next ?_ | refine JE.blk_normal ?_ | refine JE.then_exit ?_ | refine JE.blk_hit ?_ | refine JE.blk_miss rfl ?_ | refine JE.then_ret ?_ | refine JE.blk_ret ?_ | refine JC.label ?_ | refine JL.gon rfl rfl ?_ | refine JL.gskip rfl rfl rfl rfl ?_ | refine JL.gskipU rfl rfl rfl rfl ?_)
  refine JL.lit0O Try.underlying22 u8e rfl fun b0 _ => ?_
  repeat (first | refine JL.q (by first | (apply OQ.move; exact rfl) | (apply OQ.assign; exact rfl) | (apply OQ.len; exact rfl; exact rfl) | (apply OQ.addN; exact rfl; exact rfl; exact (by (try simp only []); omega)) | (apply OQ.lssN; exact rfl; exact rfl) | (apply OQ.leqN; exact rfl; exact rfl)) rfl ?_ | refine JC.seq ?_ | refine JC.region ?_ | refine JC.block ?_ | refine JC.skip ?_ | refine JC.exit ?_ | refine JL.nil ?_ | refine JE.next ?_ | refine JE.blk_normal ?_ | refine JE.then_exit ?_ | refine JE.blk_hit ?_ | refine JE.blk_miss rfl ?_ | refine JE.then_ret ?_ | refine JE.blk_ret ?_ | refine JC.label ?_ | refine JL.gon rfl rfl ?_ | refine JL.gskip rfl rfl rfl rfl ?_ | refine JL.gskipU rfl rfl rfl rfl ?_)
  refine JL.append (cs := s.l.map U8) (m := s.l.length) (ad := s.ad) (sc := s.cap) (xs := []) (fun b' cap' => [⟨b', Own 5 1 (0 + s.l.length) cap' ([] ++ s.l.map U8), true⟩]) Try.underlying22 u8e rfl rfl (by intro _ _; repeat (first | exact Repl.here | apply Repl.there)) (by simp) (fun w' hw' => (hs.holds hw' rfl).reads) (all8U _) rfl (by decide) (by omega) (by omega) rfl fun b1 cap1 => ?_
  rw [Nat.zero_add, List.nil_append]
  repeat (first | refine JL.q (by first | (apply OQ.move; exact rfl) | (apply OQ.assign; exact rfl) | (apply OQ.len; exact rfl; exact rfl) | (apply OQ.addN; exact rfl; exact rfl; exact (by (try simp only []); omega)) | (apply OQ.lssN; exact rfl; exact rfl) | (apply OQ.leqN; exact rfl; exact rfl)) rfl ?_ | refine JC.seq ?_ | refine JC.region ?_ | refine JC.block ?_ | refine JC.skip ?_ | refine JC.exit ?_ | refine JL.nil ?_ | refine JE.next ?_ | refine JE.blk_normal ?_ | refine JE.then_exit ?_ | refine JE.blk_hit ?_ | refine JE.blk_miss rfl ?_ | refine JE.then_ret ?_ | refine JE.blk_ret ?_ | refine JC.label ?_ | refine JL.gon rfl rfl ?_ | refine JL.gskip rfl rfl rfl rfl ?_ | refine JL.gskipU rfl rfl rfl rfl ?_)
  refine JL.callw (vs := [Sl8.v ⟨some ⟨b1, 0, none⟩, cap1, s.l⟩]) (S' := []) (ι := { q : SlL × Sl8 // q.1.ls = (splB s.l).1 ∧ q.2.l = (splB s.l).2 }) (fun q => .tuple #[q.1.1.v, q.1.2.v]) (fun q w2 => q.1.1.ok w2 ∧ q.1.2.ok w2 ∧ (⟨some ⟨b1, 0, none⟩, cap1, s.l⟩ : Sl8).ok w2) [] goes_asplit rfl rfl
    (fun w' hw' => (asplit_any ⟨some ⟨b1, 0, none⟩, cap1, s.l⟩ w' (ownb_ok hw' .here) (show s.l.length ≤ 4000000 by omega) (hm.ext hw'.chg)).mono fun e w2 ⟨q, h1, h2, h3, h4, h5, h6⟩ => ⟨⟨q, h2, h3⟩, h1, h4, h5, h6, Sl8.ok.ext (ownb_ok hw' .here) h4⟩) (.nil _) (by simp) ?_
  rintro ⟨⟨L, x⟩, hL, hx⟩ w1 hw1 ⟨okL, okx, okc⟩
  replace hm := hm.ext hw1.chg
  dsimp only at hL hx okL okx ⊢
  replace hs := hs.holds hw1 rfl
  have hE := hw1.chg
  repeat (first | refine JL.q (by first | (apply OQ.extract; exact rfl; exact rfl) | (apply OQ.move; exact rfl) | (apply OQ.assign; exact rfl) | (apply OQ.len; exact rfl; exact rfl) | (apply OQ.addN; exact rfl; exact rfl; exact (by (try simp only []); omega)) | (apply OQ.lssN; exact rfl; exact rfl) | (apply OQ.leqN; exact rfl; exact rfl)) rfl ?_ | refine JC.seq ?_ | refine JC.region ?_ | refine JC.block ?_ | refine JC.skip ?_ | refine JC.exit ?_ | refine JL.nil ?_ | refine JE.next ?_ | refine JE.blk_normal ?_ | refine JE.then_exit ?_ | refine JE.blk_hit ?_ | refine JE.blk_miss rfl ?_ | refine JE.then_ret ?_ | refine JE.blk_ret ?_ | refine JC.label ?_ | refine JL.gon rfl rfl ?_ | refine JL.gskip rfl rfl rfl rfl ?_ | refine JL.gskipU rfl rfl rfl rfl ?_)
  refine JL.callw (vs := [s.v]) (S' := []) (ι := { q : SlL × Sl8 // q.1.ls = (splB s.l).1 ∧ q.2.l = (splB s.l).2 }) (fun q => .tuple #[q.1.1.v, q.1.2.v]) (fun q w2 => q.1.1.ok w2 ∧ q.1.2.ok w2) [] goes_rsplit rfl rfl
    (fun w' hw' => (rsplit_any s w' (hs.holds hw' rfl) (by omega)).mono fun e w2 ⟨q, h1, h2, h3, h4, h5⟩ => ⟨⟨q, h2, h3⟩, h1, h4, h5⟩) (.nil _) (by simp) ?_
  rintro ⟨⟨K, y⟩, hK, hy⟩ w2 hw2 ⟨okK, oky⟩
  replace hm := hm.ext hw2.chg
  dsimp only at hK hy okK oky ⊢
  replace hs := hs.holds hw2 rfl
  replace okL := okL.holds hw2 rfl
  replace okx := okx.holds hw2 rfl
  replace okc := okc.holds hw2 rfl
  have hll : L.rs.length = K.rs.length := by
    have h1 := congrArg List.length hL
    have h2 := congrArg List.length hK
    unfold SlL.ls at h1 h2
    rw [List.length_map] at h1 h2
    omega
  have hLl : L.rs.length ≤ s.l.length := by
    have h1 := congrArg List.length hL
    have h2 := join_lines_len (splB s.l).1
    unfold SlL.ls at h1
    rw [List.length_map] at h1
    omega
  repeat (first | refine JL.q (by first | (apply OQ.extract; exact rfl; exact rfl) | (apply OQ.nei_f; exact rfl; exact rfl; exact (show ((L.rs.length : Nat) : Int) = (K.rs.length : Int) by omega)) | (apply OQ.callx (vs := [x.v, y.v]); exact goes_same; exact rfl; exact (fun w' hw' => same_t rfl rfl (okx.holds hw' rfl) (oky.holds hw' rfl) (by rw [hx]; omega) (by rw [hx, hy]))) | (apply OQ.not; exact rfl) | (apply OQ.pick_f; exact rfl; exact rfl) | (apply OQ.move; exact rfl) | (apply OQ.assign; exact rfl) | (apply OQ.len; exact rfl; exact rfl) | (apply OQ.addN; exact rfl; exact rfl; exact (by (try simp only []); omega)) | (apply OQ.lssN; exact rfl; exact rfl) | (apply OQ.leqN; exact rfl; exact rfl)) rfl ?_ | refine JC.seq ?_ | refine JC.region ?_ | refine JC.block ?_ | refine JC.skip ?_ | refine JC.exit ?_ | refine JL.nil ?_ | refine JE.next ?_ | refine JE.blk_normal ?_ | refine JE.then_exit ?_ | refine JE.blk_hit ?_ | refine JE.blk_miss rfl ?_ | refine JE.then_ret ?_ | refine JE.blk_ret ?_ | refine JC.label ?_ | refine JL.gon rfl rfl ?_ | refine JL.gskip rfl rfl rfl rfl ?_ | refine JL.gskipU rfl rfl rfl rfl ?_)
  refine JL.callb (vs := [Sl8.v ⟨some ⟨b1, 0, none⟩, cap1, s.l⟩]) (S' := []) [] goes_awhole rfl rfl (fun w' hw' => awhole_any ⟨some ⟨b1, 0, none⟩, cap1, s.l⟩ w' (okc.holds hw' rfl) (show s.l.length ≤ 1000000 by omega)) (.nil _) (by simp) ?_
  intro p hp w3 hw3 okp
  replace hm := hm.ext hw3.chg
  replace hs := hs.holds hw3 rfl
  replace okL := okL.holds hw3 rfl
  replace okc := okc.holds hw3 rfl
  replace okK := okK.holds hw3 rfl
  repeat (first | refine JL.q (by first | (apply OQ.move; exact rfl) | (apply OQ.assign; exact rfl) | (apply OQ.len; exact rfl; exact rfl) | (apply OQ.addN; exact rfl; exact rfl; exact (by (try simp only []); omega)) | (apply OQ.lssN; exact rfl; exact rfl) | (apply OQ.leqN; exact rfl; exact rfl)) rfl ?_ | refine JC.seq ?_ | refine JC.region ?_ | refine JC.block ?_ | refine JC.skip ?_ | refine JC.exit ?_ | refine JL.nil ?_ | refine JE.next ?_ | refine JE.blk_normal ?_ | refine JE.then_exit ?_ | refine JE.blk_hit ?_ | refine JE.blk_miss rfl ?_ | refine JE.then_ret ?_ | refine JE.blk_ret ?_ | refine JC.label ?_ | refine JL.gon rfl rfl ?_ | refine JL.gskip rfl rfl rfl rfl ?_ | refine JL.gskipU rfl rfl rfl rfl ?_)
  refine JL.callb (vs := [s.v]) (S' := []) [] goes_rwhole rfl rfl (fun w' hw' => rwhole_g s w' (hs.holds hw' rfl) (by omega)) (.nil _) (by simp) ?_
  intro q hq w4 hw4 okq
  replace hm := hm.ext hw4.chg
  replace hs := hs.holds hw4 rfl
  replace okL := okL.holds hw4 rfl
  replace okc := okc.holds hw4 rfl
  replace okK := okK.holds hw4 rfl
  replace okp := okp.holds hw4 rfl
  replace hp : p.l = whB s.l := hp
  repeat (first | refine JL.q (by first | (apply OQ.callx (vs := [p.v, q.v]); exact goes_same; exact rfl; exact (fun w' hw' => same_t rfl rfl (okp.holds hw' rfl) (okq.holds hw' rfl) (by rw [hp]; omega) (by rw [hp, hq]))) | (apply OQ.not; exact rfl) | (apply OQ.pick_f; exact rfl; exact rfl) | (apply OQ.move; exact rfl) | (apply OQ.assign; exact rfl) | (apply OQ.len; exact rfl; exact rfl) | (apply OQ.addN; exact rfl; exact rfl; exact (by (try simp only []); omega)) | (apply OQ.lssN; exact rfl; exact rfl) | (apply OQ.leqN; exact rfl; exact rfl)) rfl ?_ | refine JC.seq ?_ | refine JC.region ?_ | refine JC.block ?_ | refine JC.skip ?_ | refine JC.exit ?_ | refine JL.nil ?_ | refine JE.next ?_ | refine JE.blk_normal ?_ | refine JE.then_exit ?_ | refine JE.blk_hit ?_ | refine JE.blk_miss rfl ?_ | refine JE.then_ret ?_ | refine JE.blk_ret ?_ | refine JC.label ?_ | refine JL.gon rfl rfl ?_ | refine JL.gskip rfl rfl rfl rfl ?_ | refine JL.gskipU rfl rfl rfl rfl ?_)
  refine JC.cond_false rfl rfl ?_
  repeat (first | refine JL.q (by first | (apply OQ.move; exact rfl) | (apply OQ.assign; exact rfl) | (apply OQ.len; exact rfl; exact rfl) | (apply OQ.addN; exact rfl; exact rfl; exact (by (try simp only []); omega)) | (apply OQ.lssN; exact rfl; exact rfl) | (apply OQ.leqN; exact rfl; exact rfl)) rfl ?_ | refine JC.seq ?_ | refine JC.region ?_ | refine JC.block ?_ | refine JC.skip ?_ | refine JC.exit ?_ | refine JL.nil ?_ | refine JE.next ?_ | refine JE.blk_normal ?_ | refine JE.then_exit ?_ | refine JE.blk_hit ?_ | refine JE.blk_miss rfl ?_ | refine JE.then_ret ?_ | refine JE.blk_ret ?_ | refine JC.label ?_ | refine JL.gon rfl rfl ?_ | refine JL.gskip rfl rfl rfl rfl ?_ | refine JL.gskipU rfl rfl rfl rfl ?_)
  refine JC.loop (fun i : Nat => [(0, s.v), (1, .int .i64 z), (5, Sl8.v ⟨some ⟨b1, 0, none⟩, cap1, s.l⟩), (6, L.v), (8, K.v), (53, N L.rs.length), (54, N i)]) (fun _ => []) (fun i => L.rs.length - i) (fun i => i ≤ L.rs.length) 0 (Nat.zero_le _) (by repeat (first | exact SubE.nil | refine SubE.cons _ _ _ rfl ?_)) (.nil _) ?_
  intro i hi
  repeat (first | refine JL.q (by first | (apply OQ.move; exact rfl) | (apply OQ.assign; exact rfl) | (apply OQ.len; exact rfl; exact rfl) | (apply OQ.addN; exact rfl; exact rfl; exact (by (try simp only []); omega)) | (apply OQ.lssN; exact rfl; exact rfl) | (apply OQ.leqN; exact rfl; exact rfl)) rfl ?_ | refine JC.seq ?_ | refine JC.region ?_ | refine JC.block ?_ | refine JC.skip ?_ | refine JC.exit ?_ | refine JL.nil ?_ | refine JE.next ?_ | refine JE.blk_normal ?_ | refine JE.then_exit ?_ | refine JE.blk_hit ?_ | refine JE.blk_miss rfl ?_ | refine JE.then_ret ?_ | refine JE.blk_ret ?_ | refine JC.label ?_ | refine JL.gon rfl rfl ?_ | refine JL.gskip rfl rfl rfl rfl ?_ | refine JL.gskipU rfl rfl rfl rfl ?_)
  refine JC.cond rfl (fun h => ?_) (fun h => ?_)
  · have hi' : i < L.rs.length := of_decide_eq_true h
    clear h hi
    have hi2 : i < K.rs.length := by omega
    obtain ⟨ba, ja, hae, hca⟩ := okL.reads.at (by simp; omega)
    obtain ⟨bb, jb, hbe, hcb⟩ := okK.reads.at (by simp; omega)
    have hci : w4.cell? ⟨ba, ja + i, none⟩ = some (L.rs[i]).v := hca i _ (by simp [hi'])
    have hcj : w4.cell? ⟨bb, jb + i, none⟩ = some (K.rs[i]).v := hcb i _ (by simp [hi2])
    have hav : L.v = .slice (some ⟨ba, ja, none⟩) L.rs.length L.cap := by rw [← hae]; rfl
    have hbv : K.v = .slice (some ⟨bb, jb, none⟩) K.rs.length K.cap := by rw [← hbe]; rfl
    have ok1 := okL.all _ (List.getElem_mem hi')
    have ok2 := okK.all _ (List.getElem_mem hi2)
    have e1 : (L.rs[i]).l = (K.rs[i]).l := by
      have h1 : (L.rs.map Sl8.l)[i]? = (K.rs.map Sl8.l)[i]? := congrArg (·[i]?) (hL.trans hK.symm)
      simpa [hi', hi2] using h1
    have e2 : (L.rs[i]).l.length ≤ s.l.length := by
      have := mem_join (splB s.l).1 (L.rs[i]).l (by rw [← hL]; exact List.mem_map_of_mem (List.getElem_mem hi'))
      omega
    rw [hav, hbv]
    repeat (first | refine JL.q (by first | (apply OQ.move; exact rfl) | (apply OQ.assign; exact rfl) | (apply OQ.len; exact rfl; exact rfl) | (apply OQ.addN; exact rfl; exact rfl; exact (by (try simp only []); omega)) | (apply OQ.lssN; exact rfl; exact rfl) | (apply OQ.leqN; exact rfl; exact rfl)) rfl ?_ | refine JC.seq ?_ | refine JC.region ?_ | refine JC.block ?_ | refine JC.skip ?_ | refine JC.exit ?_ | refine JL.nil ?_ | refine JE.next ?_ | refine JE.blk_normal ?_ | refine JE.then_exit ?_ | refine JE.blk_hit ?_ | refine JE.blk_miss rfl ?_ | refine JE.then_ret ?_ | refine JE.blk_ret ?_ | refine JC.label ?_ | refine JL.gon rfl rfl ?_ | refine JL.gskip rfl rfl rfl rfl ?_ | refine JL.gskipU rfl rfl rfl rfl ?_)
    refine JC.quiet mixT (by kernel_rfl) ?_
    repeat (first | refine JL.q (by first | (apply OQ.idxS1; exact Try.underlying24; exact sls; exact rfl; exact rfl; exact hi') | (apply OQ.idxS1; exact Try.underlying24; exact sls; exact rfl; exact rfl; exact hi2) | (apply OQ.load_old; exact slc; exact rfl; exact (block_lt_of_cell hci); exact (by simp); exact hci) | (apply OQ.load_old; exact slc; exact rfl; exact (block_lt_of_cell hcj); exact (by simp); exact hcj) | (apply OQ.callx (vs := [(L.rs[i]).v, (K.rs[i]).v]); exact goes_same; exact rfl; exact (fun w' hw' => same_t rfl rfl (ok1.holds hw' rfl) (ok2.holds hw' rfl) (by omega) e1)) | (apply OQ.not; exact rfl) | (apply OQ.move; exact rfl) | (apply OQ.assign; exact rfl) | (apply OQ.len; exact rfl; exact rfl) | (apply OQ.addN; exact rfl; exact rfl; exact (by (try simp only []); omega)) | (apply OQ.lssN; exact rfl; exact rfl) | (apply OQ.leqN; exact rfl; exact rfl)) rfl ?_ | refine JQ.q (by first | (apply OQ.idxS1; exact Try.underlying24; exact sls; exact rfl; exact rfl; exact hi') | (apply OQ.idxS1; exact Try.underlying24; exact sls; exact rfl; exact rfl; exact hi2) | (apply OQ.load_old; exact slc; exact rfl; exact (block_lt_of_cell hci); exact (by simp); exact hci) | (apply OQ.load_old; exact slc; exact rfl; exact (block_lt_of_cell hcj); exact (by simp); exact hcj) | (apply OQ.callx (vs := [(L.rs[i]).v, (K.rs[i]).v]); exact goes_same; exact rfl; exact (fun w' hw' => same_t rfl rfl (ok1.holds hw' rfl) (ok2.holds hw' rfl) (by omega) e1)) | (apply OQ.not; exact rfl) | (apply OQ.move; exact rfl) | (apply OQ.assign; exact rfl) | (apply OQ.len; exact rfl; exact rfl) | (apply OQ.addN; exact rfl; exact rfl; exact (by (try simp only []); omega)) | (apply OQ.lssN; exact rfl; exact rfl) | (apply OQ.leqN; exact rfl; exact rfl)) rfl ?_ | refine JC.seq ?_ | refine JC.region ?_ | refine JC.block ?_ | refine JC.skip ?_ | refine JC.exit ?_ | refine JL.nil ?_ | refine JQ.nil ?_ | refine JQ.nil_tail ?_ | refine JE.next ?_ | refine JE.blk_normal ?_ | refine JE.then_exit ?_ | refine JE.blk_hit ?_ | refine JE.blk_miss rfl ?_ | refine JE.then_ret ?_ | refine JE.blk_ret ?_ | refine JC.label ?_ | refine JL.gon rfl rfl ?_ | refine JQ.gon rfl rfl ?_ | refine JL.gskip rfl rfl rfl rfl ?_ | refine JQ.gskip rfl rfl rfl rfl ?_ | refine JL.gskipU rfl rfl rfl rfl ?_ | refine JQ.gskipU rfl rfl rfl rfl ?_)
    refine JC.cond_false rfl rfl ?_
    rw [← hav, ← hbv]
    repeat (first | refine JL.q (by first | (apply OQ.move; exact rfl) | (apply OQ.assign; exact rfl) | (apply OQ.len; exact rfl; exact rfl) | (apply OQ.addN; exact rfl; exact rfl; exact (by (try simp only []); omega)) | (apply OQ.lssN; exact rfl; exact rfl) | (apply OQ.leqN; exact rfl; exact rfl)) rfl ?_ | refine JQ.q (by first | (apply OQ.move; exact rfl) | (apply OQ.assign; exact rfl) | (apply OQ.len; exact rfl; exact rfl) | (apply OQ.addN; exact rfl; exact rfl; exact (by (try simp only []); omega)) | (apply OQ.lssN; exact rfl; exact rfl) | (apply OQ.leqN; exact rfl; exact rfl)) rfl ?_ | refine JC.seq ?_ | refine JC.region ?_ | refine JC.block ?_ | refine JC.skip ?_ | refine JC.exit ?_ | refine JL.nil ?_ | refine JQ.nil ?_ | refine JQ.nil_tail ?_ | refine JE.next ?_ | refine JE.blk_normal ?_ | refine JE.then_exit ?_ | refine JE.blk_hit ?_ | refine JE.blk_miss rfl ?_ | refine JE.then_ret ?_ | refine JE.blk_ret ?_ | refine JC.label ?_ | refine JL.gon rfl rfl ?_ | refine JQ.gon rfl rfl ?_ | refine JL.gskip rfl rfl rfl rfl ?_ | refine JQ.gskip rfl rfl rfl rfl ?_ | refine JL.gskipU rfl rfl rfl rfl ?_ | refine JQ.gskipU rfl rfl rfl rfl ?_)
    exact JE.again (i := i) (i + 1) (by show i + 1 ≤ _; omega) (by show L.rs.length - (i + 1) < L.rs.length - i; omega) (by repeat (first | exact SubE.nil | refine SubE.cons _ _ _ rfl ?_)) (.nil _)
  · clear h hi
    repeat (first | refine JL.q (by first | (apply OQ.callx (vs := [Sl8.v ⟨some ⟨b1, 0, none⟩, cap1, s.l⟩, .int .i64 z]); exact goes_aplace; exact rfl; exact (fun w' hw' => aplace_any ⟨some ⟨b1, 0, none⟩, cap1, s.l⟩ z w' (okc.holds hw' rfl) (show s.l.length ≤ 4000000 by omega))) | (apply OQ.callx (vs := [s.v, .int .i64 z]); exact goes_rplace; exact rfl; exact (fun w' hw' => (rplace_any s z w' (hs.holds hw' rfl) (by omega)).mono fun e w2 h => ⟨h.1, h.2.chg⟩)) | (apply OQ.extract; exact rfl; exact rfl) | (apply OQ.eqi_t; exact rfl; exact rfl; exact rfl) | (apply OQ.callx (vs := [Sl8.v ⟨some ⟨b1, 0, none⟩, cap1, s.l⟩, s.v]); exact goes_same; exact rfl; exact (fun w' hw' => same_t (a := ⟨some ⟨b1, 0, none⟩, cap1, s.l⟩) (b := s) rfl rfl (okc.holds hw' rfl) (hs.holds hw' rfl) (show s.l.length < 4611686018427387904 by omega) rfl)) | (apply OQ.pick_t; exact rfl; exact rfl) | (apply OQ.move; exact rfl) | (apply OQ.assign; exact rfl) | (apply OQ.len; exact rfl; exact rfl) | (apply OQ.addN; exact rfl; exact rfl; exact (by (try simp only []); omega)) | (apply OQ.lssN; exact rfl; exact rfl) | (apply OQ.leqN; exact rfl; exact rfl)) rfl ?_ | refine JQ.q (by first | (apply OQ.callx (vs := [Sl8.v ⟨some ⟨b1, 0, none⟩, cap1, s.l⟩, .int .i64 z]); exact goes_aplace; exact rfl; exact (fun w' hw' => aplace_any ⟨some ⟨b1, 0, none⟩, cap1, s.l⟩ z w' (okc.holds hw' rfl) (show s.l.length ≤ 4000000 by omega))) | (apply OQ.callx (vs := [s.v, .int .i64 z]); exact goes_rplace; exact rfl; exact (fun w' hw' => (rplace_any s z w' (hs.holds hw' rfl) (by omega)).mono fun e w2 h => ⟨h.1, h.2.chg⟩)) | (apply OQ.extract; exact rfl; exact rfl) | (apply OQ.eqi_t; exact rfl; exact rfl; exact rfl) | (apply OQ.callx (vs := [Sl8.v ⟨some ⟨b1, 0, none⟩, cap1, s.l⟩, s.v]); exact goes_same; exact rfl; exact (fun w' hw' => same_t (a := ⟨some ⟨b1, 0, none⟩, cap1, s.l⟩) (b := s) rfl rfl (okc.holds hw' rfl) (hs.holds hw' rfl) (show s.l.length < 4611686018427387904 by omega) rfl)) | (apply OQ.pick_t; exact rfl; exact rfl) | (apply OQ.move; exact rfl) | (apply OQ.assign; exact rfl) | (apply OQ.len; exact rfl; exact rfl) | (apply OQ.addN; exact rfl; exact rfl; exact (by (try simp only []); omega)) | (apply OQ.lssN; exact rfl; exact rfl) | (apply OQ.leqN; exact rfl; exact rfl)) rfl ?_ | refine JC.seq ?_ | refine JC.region ?_ | refine JC.block ?_ | refine JC.skip ?_ | refine JC.exit ?_ | refine JL.nil ?_ | refine JQ.nil ?_ | refine JQ.nil_tail ?_ | refine JE.next ?_ | refine JE.blk_normal ?_ | refine JE.then_exit ?_ | refine JE.blk_hit ?_ | refine JE.blk_miss rfl ?_ | refine JE.then_ret ?_ | refine JE.blk_ret ?_ | refine JC.label ?_ | refine JL.gon rfl rfl ?_ | refine JQ.gon rfl rfl ?_ | refine JL.gskip rfl rfl rfl rfl ?_ | refine JQ.gskip rfl rfl rfl rfl ?_ | refine JL.gskipU rfl rfl rfl rfl ?_ | refine JQ.gskipU rfl rfl rfl rfl ?_)
    refine JC.ret (JE.ret1 rfl (RV.tmp rfl) ?_)
    exact fun w' hw => ⟨rfl, hE.trans (hw2.chg.trans (hw3.chg.trans (hw4.chg.trans hw.chg)))⟩
end Go.Proofs.Ytnopllkpfdgkkaa
