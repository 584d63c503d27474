/-
  Of no statement by itself: what despatchlaw02.KdfFront answers.
  Conditions: the theorem's own.
-/
import Derived.Test.YtkegjpohielajaaDoorLawE
namespace Go.Proofs.YtkegjpohielajaaDoor
open Sl Sha

theorem mk_pre (key info : List B) (i d : Nat) : (mk key info (i + d)).take (32 * i) = mk key info i := by
  induction d with
  | zero => rw [Nat.add_zero, List.take_of_length_le (by rw [mk_length]; omega)]
  | succ d ih =>
    rw [show i + (d + 1) = (i + d) + 1 by omega, mk, List.take_append_of_le_length (by rw [mk_length]; omega), ih]
theorem expd_take (key info : List B) (n m : Nat) (h : n ≤ m) : (expd key info m).take n = expd key info n := by
  rw [expd, expd, List.take_take, Nat.min_eq_left h]
  obtain ⟨d, hd⟩ : ∃ d, (m + 31) / 32 = (n + 31) / 32 + d := ⟨(m + 31) / 32 - (n + 31) / 32, by omega⟩
  rw [hd, ← mk_pre key info ((n + 31) / 32) d, List.take_take, Nat.min_eq_left (by omega)]

set_option maxHeartbeats 16000000 in
theorem law_kdfFront (key : List B) (info : Sl8) (n m : Int) (w : World) (hG : GOk w) (hk : key.length = 32) (h1 : info.ok w) (_ : -9223372036854775808 ≤ n ∧ n ≤ 9223372036854775807) (_ : -9223372036854775808 ≤ m ∧ m ≤ 9223372036854775807) :
    Calls Tryd.prog 9 [.agg (key.map U8).toArray, info.v, .int .i64 n, .int .i64 m].toArray w fun e w' => e = .returned (.bool true) ∧ Ext w w' := by
  refine enter (n := 64) Tryd.func9 rfl rfl rfl (Holds.start w []) ?_
  repeat (first | refine JL.q (by first | (apply OQ.move; exact rfl) | (apply OQ.assign; exact rfl) | (apply OQ.len; exact rfl; exact rfl)) rfl ?_ | refine JC.seq ?_ | refine JC.region ?_ | refine JC.block ?_ | refine JC.skip ?_ | refine JC.exit ?_ | refine JL.nil ?_ | refine JE.next ?_ | refine JE.blk_normal ?_ | refine JE.then_exit ?_ | refine JE.blk_hit ?_ | refine JE.blk_miss rfl ?_ | refine JE.then_ret ?_ | refine JE.blk_ret ?_ | refine JC.label ?_ | refine JL.gon rfl rfl ?_ | refine JL.gskip rfl rfl rfl rfl ?_)
  refine JL.box (r := key.map U8) rfl rfl rfl fun b4 _ => ?_
  repeat (first | refine JL.q (by first | (apply OQ.callx; exact goes_speaks2; exact rfl; exact (fun w' hw' => speaks2_any w' (hG.chg hw'.chg (by simp)))) | (apply OQ.not; exact rfl) | (apply OQ.move; exact rfl) | (apply OQ.assign; exact rfl) | (apply OQ.len; exact rfl; exact rfl)) rfl ?_ | refine JC.seq ?_ | refine JC.region ?_ | refine JC.block ?_ | refine JC.skip ?_ | refine JC.exit ?_ | refine JL.nil ?_ | refine JE.next ?_ | refine JE.blk_normal ?_ | refine JE.then_exit ?_ | refine JE.blk_hit ?_ | refine JE.blk_miss rfl ?_ | refine JE.then_ret ?_ | refine JE.blk_ret ?_ | refine JC.label ?_ | refine JL.gon rfl rfl ?_ | refine JL.gskip rfl rfl rfl rfl ?_)
  refine JC.cond_false rfl rfl ?_
  by_cases g0 : n < 0
  · repeat (first | refine JL.q (by first | (apply OQ.lssI_t; exact rfl; exact rfl; exact g0) | (apply OQ.pick_t; exact rfl; exact rfl) | (apply OQ.move; exact rfl) | (apply OQ.assign; exact rfl) | (apply OQ.len; exact rfl; exact rfl)) rfl ?_ | refine JC.seq ?_ | refine JC.region ?_ | refine JC.block ?_ | refine JC.skip ?_ | refine JC.exit ?_ | refine JL.nil ?_ | refine JE.next ?_ | refine JE.blk_normal ?_ | refine JE.then_exit ?_ | refine JE.blk_hit ?_ | refine JE.blk_miss rfl ?_ | refine JE.then_ret ?_ | refine JE.blk_ret ?_ | refine JC.label ?_ | refine JL.gon rfl rfl ?_ | refine JL.gskip rfl rfl rfl rfl ?_)
    refine JC.cond_true rfl rfl ?_
    repeat (first | refine JL.q (by first | (apply OQ.move; exact rfl) | (apply OQ.assign; exact rfl) | (apply OQ.len; exact rfl; exact rfl)) rfl ?_ | refine JC.seq ?_ | refine JC.region ?_ | refine JC.block ?_ | refine JC.skip ?_ | refine JC.exit ?_ | refine JL.nil ?_ | refine JE.next ?_ | refine JE.blk_normal ?_ | refine JE.then_exit ?_ | refine JE.blk_hit ?_ | refine JE.blk_miss rfl ?_ | refine JE.then_ret ?_ | refine JE.blk_ret ?_ | refine JC.label ?_ | refine JL.gon rfl rfl ?_ | refine JL.gskip rfl rfl rfl rfl ?_)
    refine JC.ret ?_
    repeat (first | refine JL.q (by first | (apply OQ.move; exact rfl) | (apply OQ.assign; exact rfl) | (apply OQ.len; exact rfl; exact rfl)) rfl ?_ | refine JC.seq ?_ | refine JC.region ?_ | refine JC.block ?_ | refine JC.skip ?_ | refine JC.exit ?_ | refine JL.nil ?_ | refine JE.next ?_ | refine JE.blk_normal ?_ | refine JE.then_exit ?_ | refine JE.blk_hit ?_ | refine JE.blk_miss rfl ?_ | refine JE.then_ret ?_ | refine JE.blk_ret ?_ | refine JC.label ?_ | refine JL.gon rfl rfl ?_ | refine JL.gskip rfl rfl rfl rfl ?_)
    exact JE.ret1 rfl (RV.tmp rfl) fun w' hw => ⟨rfl, hw.chg⟩
  by_cases g1 : m < n
  · repeat (first | refine JL.q (by first | (apply OQ.lssI_f; exact rfl; exact rfl; exact g0) | (apply OQ.lssI_t; exact rfl; exact rfl; exact g1) | (apply OQ.pick_t; exact rfl; exact rfl) | (apply OQ.pick_f; exact rfl; exact rfl) | (apply OQ.move; exact rfl) | (apply OQ.assign; exact rfl) | (apply OQ.len; exact rfl; exact rfl)) rfl ?_ | refine JC.seq ?_ | refine JC.region ?_ | refine JC.block ?_ | refine JC.skip ?_ | refine JC.exit ?_ | refine JL.nil ?_ | refine JE.next ?_ | refine JE.blk_normal ?_ | refine JE.then_exit ?_ | refine JE.blk_hit ?_ | refine JE.blk_miss rfl ?_ | refine JE.then_ret ?_ | refine JE.blk_ret ?_ | refine JC.label ?_ | refine JL.gon rfl rfl ?_ | refine JL.gskip rfl rfl rfl rfl ?_)
    refine JC.cond_true rfl rfl ?_
    repeat (first | refine JL.q (by first | (apply OQ.move; exact rfl) | (apply OQ.assign; exact rfl) | (apply OQ.len; exact rfl; exact rfl)) rfl ?_ | refine JC.seq ?_ | refine JC.region ?_ | refine JC.block ?_ | refine JC.skip ?_ | refine JC.exit ?_ | refine JL.nil ?_ | refine JE.next ?_ | refine JE.blk_normal ?_ | refine JE.then_exit ?_ | refine JE.blk_hit ?_ | refine JE.blk_miss rfl ?_ | refine JE.then_ret ?_ | refine JE.blk_ret ?_ | refine JC.label ?_ | refine JL.gon rfl rfl ?_ | refine JL.gskip rfl rfl rfl rfl ?_)
    refine JC.ret ?_
    repeat (first | refine JL.q (by first | (apply OQ.move; exact rfl) | (apply OQ.assign; exact rfl) | (apply OQ.len; exact rfl; exact rfl)) rfl ?_ | refine JC.seq ?_ | refine JC.region ?_ | refine JC.block ?_ | refine JC.skip ?_ | refine JC.exit ?_ | refine JL.nil ?_ | refine JE.next ?_ | refine JE.blk_normal ?_ | refine JE.then_exit ?_ | refine JE.blk_hit ?_ | refine JE.blk_miss rfl ?_ | refine JE.then_ret ?_ | refine JE.blk_ret ?_ | refine JC.label ?_ | refine JL.gon rfl rfl ?_ | refine JL.gskip rfl rfl rfl rfl ?_)
    exact JE.ret1 rfl (RV.tmp rfl) fun w' hw => ⟨rfl, hw.chg⟩
  by_cases g2 : 8160 < m
  · repeat (first | refine JL.q (by first | (apply OQ.lssI_f; exact rfl; exact rfl; exact g0) | (apply OQ.lssI_f; exact rfl; exact rfl; exact g1) | (apply OQ.gtrI_t; exact rfl; exact rfl; exact g2) | (apply OQ.pick_t; exact rfl; exact rfl) | (apply OQ.pick_f; exact rfl; exact rfl) | (apply OQ.move; exact rfl) | (apply OQ.assign; exact rfl) | (apply OQ.len; exact rfl; exact rfl)) rfl ?_ | refine JC.seq ?_ | refine JC.region ?_ | refine JC.block ?_ | refine JC.skip ?_ | refine JC.exit ?_ | refine JL.nil ?_ | refine JE.next ?_ | refine JE.blk_normal ?_ | refine JE.then_exit ?_ | refine JE.blk_hit ?_ | refine JE.blk_miss rfl ?_ | refine JE.then_ret ?_ | refine JE.blk_ret ?_ | refine JC.label ?_ | refine JL.gon rfl rfl ?_ | refine JL.gskip rfl rfl rfl rfl ?_)
    refine JC.cond_true rfl rfl ?_
    repeat (first | refine JL.q (by first | (apply OQ.move; exact rfl) | (apply OQ.assign; exact rfl) | (apply OQ.len; exact rfl; exact rfl)) rfl ?_ | refine JC.seq ?_ | refine JC.region ?_ | refine JC.block ?_ | refine JC.skip ?_ | refine JC.exit ?_ | refine JL.nil ?_ | refine JE.next ?_ | refine JE.blk_normal ?_ | refine JE.then_exit ?_ | refine JE.blk_hit ?_ | refine JE.blk_miss rfl ?_ | refine JE.then_ret ?_ | refine JE.blk_ret ?_ | refine JC.label ?_ | refine JL.gon rfl rfl ?_ | refine JL.gskip rfl rfl rfl rfl ?_)
    refine JC.ret ?_
    repeat (first | refine JL.q (by first | (apply OQ.move; exact rfl) | (apply OQ.assign; exact rfl) | (apply OQ.len; exact rfl; exact rfl)) rfl ?_ | refine JC.seq ?_ | refine JC.region ?_ | refine JC.block ?_ | refine JC.skip ?_ | refine JC.exit ?_ | refine JL.nil ?_ | refine JE.next ?_ | refine JE.blk_normal ?_ | refine JE.then_exit ?_ | refine JE.blk_hit ?_ | refine JE.blk_miss rfl ?_ | refine JE.then_ret ?_ | refine JE.blk_ret ?_ | refine JC.label ?_ | refine JL.gon rfl rfl ?_ | refine JL.gskip rfl rfl rfl rfl ?_)
    exact JE.ret1 rfl (RV.tmp rfl) fun w' hw => ⟨rfl, hw.chg⟩
  by_cases g3 : 200 < info.l.length
  · repeat (first | refine JL.q (by first | (apply OQ.lssI_f; exact rfl; exact rfl; exact g0) | (apply OQ.lssI_f; exact rfl; exact rfl; exact g1) | (apply OQ.gtrI_f; exact rfl; exact rfl; exact g2) | (apply OQ.gtrN_t; exact rfl; exact rfl; exact g3) | (apply OQ.pick_t; exact rfl; exact rfl) | (apply OQ.pick_f; exact rfl; exact rfl) | (apply OQ.move; exact rfl) | (apply OQ.assign; exact rfl) | (apply OQ.len; exact rfl; exact rfl)) rfl ?_ | refine JC.seq ?_ | refine JC.region ?_ | refine JC.block ?_ | refine JC.skip ?_ | refine JC.exit ?_ | refine JL.nil ?_ | refine JE.next ?_ | refine JE.blk_normal ?_ | refine JE.then_exit ?_ | refine JE.blk_hit ?_ | refine JE.blk_miss rfl ?_ | refine JE.then_ret ?_ | refine JE.blk_ret ?_ | refine JC.label ?_ | refine JL.gon rfl rfl ?_ | refine JL.gskip rfl rfl rfl rfl ?_)
    refine JC.cond_true rfl rfl ?_
    repeat (first | refine JL.q (by first | (apply OQ.move; exact rfl) | (apply OQ.assign; exact rfl) | (apply OQ.len; exact rfl; exact rfl)) rfl ?_ | refine JC.seq ?_ | refine JC.region ?_ | refine JC.block ?_ | refine JC.skip ?_ | refine JC.exit ?_ | refine JL.nil ?_ | refine JE.next ?_ | refine JE.blk_normal ?_ | refine JE.then_exit ?_ | refine JE.blk_hit ?_ | refine JE.blk_miss rfl ?_ | refine JE.then_ret ?_ | refine JE.blk_ret ?_ | refine JC.label ?_ | refine JL.gon rfl rfl ?_ | refine JL.gskip rfl rfl rfl rfl ?_)
    refine JC.ret ?_
    repeat (first | refine JL.q (by first | (apply OQ.move; exact rfl) | (apply OQ.assign; exact rfl) | (apply OQ.len; exact rfl; exact rfl)) rfl ?_ | refine JC.seq ?_ | refine JC.region ?_ | refine JC.block ?_ | refine JC.skip ?_ | refine JC.exit ?_ | refine JL.nil ?_ | refine JE.next ?_ | refine JE.blk_normal ?_ | refine JE.then_exit ?_ | refine JE.blk_hit ?_ | refine JE.blk_miss rfl ?_ | refine JE.then_ret ?_ | refine JE.blk_ret ?_ | refine JC.label ?_ | refine JL.gon rfl rfl ?_ | refine JL.gskip rfl rfl rfl rfl ?_)
    exact JE.ret1 rfl (RV.tmp rfl) fun w' hw => ⟨rfl, hw.chg⟩
  repeat (first | refine JL.q (by first | (apply OQ.lssI_f; exact rfl; exact rfl; exact g0) | (apply OQ.lssI_f; exact rfl; exact rfl; exact g1) | (apply OQ.gtrI_f; exact rfl; exact rfl; exact g2) | (apply OQ.gtrN_f; exact rfl; exact rfl; exact g3) | (apply OQ.pick_f; exact rfl; exact rfl) | (apply OQ.move; exact rfl) | (apply OQ.assign; exact rfl) | (apply OQ.len; exact rfl; exact rfl)) rfl ?_ | refine JC.seq ?_ | refine JC.region ?_ | refine JC.block ?_ | refine JC.skip ?_ | refine JC.exit ?_ | refine JL.nil ?_ | refine JE.next ?_ | refine JE.blk_normal ?_ | refine JE.then_exit ?_ | refine JE.blk_hit ?_ | refine JE.blk_miss rfl ?_ | refine JE.then_ret ?_ | refine JE.blk_ret ?_ | refine JC.label ?_ | refine JL.gon rfl rfl ?_ | refine JL.gskip rfl rfl rfl rfl ?_)
  refine JC.cond_false rfl rfl ?_
  obtain ⟨n, rfl⟩ : ∃ k : Nat, n = k := ⟨n.toNat, by omega⟩
  obtain ⟨m, rfl⟩ : ∃ k : Nat, m = k := ⟨m.toNat, by omega⟩
  have hnm : n ≤ m := by omega
  have hm8 : m ≤ 8160 := by omega
  repeat (first | refine JL.q (by first | (apply OQ.load_agg (cs := key.map U8); exact a25; exact s25; exact rfl; exact .here; exact (by simpa using hk); exact Row.all) | (apply OQ.move; exact rfl) | (apply OQ.assign; exact rfl) | (apply OQ.len; exact rfl; exact rfl)) rfl ?_ | refine JC.seq ?_ | refine JC.region ?_ | refine JC.block ?_ | refine JC.skip ?_ | refine JC.exit ?_ | refine JL.nil ?_ | refine JE.next ?_ | refine JE.blk_normal ?_ | refine JE.then_exit ?_ | refine JE.blk_hit ?_ | refine JE.blk_miss rfl ?_ | refine JE.then_ret ?_ | refine JE.blk_ret ?_ | refine JC.label ?_ | refine JL.gon rfl rfl ?_ | refine JL.gskip rfl rfl rfl rfl ?_)
  refine JL.callg (ι := { s' : Sl8 // Gave s' (expd key info.l n) n }) (fun i => .tuple #[i.1.v, N 0]) (fun i => i.1.ents) goes_expand rfl rfl (fun i => Sl8.ents_wr _) (fun w' hw' => (expand_any key hk info n (by omega) w' (hG.chg hw'.chg (by simp)) (h1.holds hw' rfl) (by omega)).mono fun e w2 ⟨s', h1, h2, h3⟩ => ⟨⟨s', h2⟩, h1, h3⟩) ?_
  rintro ⟨s1, hs1⟩
  try dsimp only
  repeat (first | refine JL.q (by first | (apply OQ.extract; exact rfl; exact rfl) | (apply OQ.load_agg (cs := key.map U8); exact a25; exact s25; exact rfl; exact (Has.app _ .here); exact (by simpa using hk); exact Row.all) | (apply OQ.move; exact rfl) | (apply OQ.assign; exact rfl) | (apply OQ.len; exact rfl; exact rfl)) rfl ?_ | refine JC.seq ?_ | refine JC.region ?_ | refine JC.block ?_ | refine JC.skip ?_ | refine JC.exit ?_ | refine JL.nil ?_ | refine JE.next ?_ | refine JE.blk_normal ?_ | refine JE.then_exit ?_ | refine JE.blk_hit ?_ | refine JE.blk_miss rfl ?_ | refine JE.then_ret ?_ | refine JE.blk_ret ?_ | refine JC.label ?_ | refine JL.gon rfl rfl ?_ | refine JL.gskip rfl rfl rfl rfl ?_)
  refine JL.callg (ι := { s' : Sl8 // Gave s' (expd key info.l m) m }) (fun i => .tuple #[i.1.v, N 0]) (fun i => i.1.ents) goes_expand rfl rfl (fun i => Sl8.ents_wr _) (fun w' hw' => (expand_any key hk info m hm8 w' (hG.chg hw'.chg (by simp)) (h1.holds hw' rfl) (by omega)).mono fun e w2 ⟨s', h1, h2, h3⟩ => ⟨⟨s', h2⟩, h1, h3⟩) ?_
  rintro ⟨s2, hs2⟩
  try dsimp only
  have hl2 : s2.l.length = m := by rw [hs2.val, expd_length]
  have hS : ∀ {M : List Ent} w', Holds w [] (s2.ents ++ (s1.ents ++ M)) w' → Calls Tryd.prog 22 [s1.v, .slice (if s2.cap = 0 then s2.ad else s2.ad.map (·.add 0)) n s2.cap].toArray w' fun e w'' => e = .returned (.bool true) ∧ Ext w' w'' := fun w' hw' => by
    have ok2 := Sl8.ents_ok hw' hs2.none
    have hv : Sl8.v ⟨if s2.cap = 0 then s2.ad else s2.ad.map (·.add 0), s2.cap, s2.l.take n⟩ = .slice (if s2.cap = 0 then s2.ad else s2.ad.map (·.add 0)) n s2.cap := by
      simp [Sl8.v, hl2, hnm]
    have ok3 : Sl8.ok w' ⟨if s2.cap = 0 then s2.ad else s2.ad.map (·.add 0), s2.cap, s2.l.take n⟩ := by
      refine ⟨by have := ok2.len; simp; omega, ?_⟩
      have := ok2.reads.drop (len := s2.l.length) (cap := s2.cap) (lo := 0) (by simp) ok2.len (by omega)
      rw [List.drop_zero, Nat.zero_mul] at this
      simpa [List.map_take] using this.take n
    have := same_any s1 ⟨if s2.cap = 0 then s2.ad else s2.ad.map (·.add 0), s2.cap, s2.l.take n⟩ w' (Sl8.ents_ok (hw'.weak (less_app _ _)) hs1.none) ok3 (by rw [hs1.val, expd_length]; omega)
    rw [hv, decide_eq_true (by rw [hs1.val]; show _ = s2.l.take n; rw [hs2.val, expd_take _ _ _ _ hnm])] at this
    exact this
  repeat (first | refine JL.q (by first | (apply OQ.extract; exact rfl; exact rfl) | (apply OQ.eqi_t; exact rfl; exact rfl; exact rfl) | (apply OQ.pick_t; exact rfl; exact rfl) | (apply OQ.eqi_t; exact rfl; exact rfl; exact (congrArg Nat.cast hl2)) | (apply OQ.slS_hi; exact Tryd.underlying22; exact s5; exact rfl; exact rfl; exact (show n ≤ s2.cap by rw [hs2.cap]; exact hnm)) | (apply OQ.callx; exact goes_same; exact rfl; exact hS) | (apply OQ.move; exact rfl) | (apply OQ.assign; exact rfl) | (apply OQ.len; exact rfl; exact rfl)) rfl ?_ | refine JC.seq ?_ | refine JC.region ?_ | refine JC.block ?_ | refine JC.skip ?_ | refine JC.exit ?_ | refine JL.nil ?_ | refine JE.next ?_ | refine JE.blk_normal ?_ | refine JE.then_exit ?_ | refine JE.blk_hit ?_ | refine JE.blk_miss rfl ?_ | refine JE.then_ret ?_ | refine JE.blk_ret ?_ | refine JC.label ?_ | refine JL.gon rfl rfl ?_ | refine JL.gskip rfl rfl rfl rfl ?_)
  refine JC.ret ?_
  repeat (first | refine JL.q (by first | (apply OQ.move; exact rfl) | (apply OQ.assign; exact rfl) | (apply OQ.len; exact rfl; exact rfl)) rfl ?_ | refine JC.seq ?_ | refine JC.region ?_ | refine JC.block ?_ | refine JC.skip ?_ | refine JC.exit ?_ | refine JL.nil ?_ | refine JE.next ?_ | refine JE.blk_normal ?_ | refine JE.then_exit ?_ | refine JE.blk_hit ?_ | refine JE.blk_miss rfl ?_ | refine JE.then_ret ?_ | refine JE.blk_ret ?_ | refine JC.label ?_ | refine JL.gon rfl rfl ?_ | refine JL.gskip rfl rfl rfl rfl ?_)
  exact JE.ret1 rfl (RV.tmp rfl) fun w' hw => ⟨rfl, hw.chg⟩
end Go.Proofs.YtkegjpohielajaaDoor
