/-
  Of no statement by itself: what despatchlaw04.SealBytes answers.
  Conditions: the theorem's own.
-/
import Derived.Test.YtheemnpfnefbmaaDoorLawL
namespace Go.Proofs.YtheemnpfnefbmaaDoor
open Sl Sha Str

def needZ : Nat → List (Nat × Nat)
  | 2 => [(0, 72), (1, 73)]
  | 3 => [(2, 74)]
  | 4 => [(3, 75)]
  | 5 => [(3, 75)]
  | 6 => [(4, 76), (5, 77), (3, 75)]
  | 7 => [(3, 75), (6, 78)]
  | 8 => [(7, 79)]
  | 9 => [(8, 80)]
  | 10 => [(8, 80)]
  | 11 => [(8, 80)]
  | 12 => [(9, 81), (10, 82), (11, 83), (8, 80)]
  | 13 => [(8, 80)]
  | 14 => [(8, 80)]
  | 15 => [(8, 80)]
  | 16 => [(13, 85), (14, 86), (15, 87), (8, 80)]
  | 17 => [(12, 84), (16, 88), (8, 80)]
  | 18 => [(8, 80), (17, 89)]
  | 19 => [(18, 90)]
  | _ => []
def inpZ : Nat → List Nat
  | 2 => [21]
  | 6 => [20]
  | 9 => [22]
  | 13 => [22]
  | 17 => [12, 16]
  | _ => []

set_option maxHeartbeats 4000000 in
set_option maxRecDepth 4000 in
theorem law_sealBytes (key nonce : List B) (s p : Sl8) (w : World) (hG : GOk w) (hQ : GQ w) (hk : key.length = 32) (hn : nonce.length = 12) (hs : s.ok w) (hp : p.ok w) :
    Calls Tryd.prog 6 [.agg (key.map U8).toArray, .agg (nonce.map U8).toArray, s.v, p.v].toArray w fun e w' => e = .returned (.bool true) ∧ Ext w w' := by
  refine enter (n := 91) Tryd.func6 rfl rfl rfl (Holds.start w []) ?_
  repeat (first | refine JL.q (by first | (apply OQ.move; exact rfl) | (apply OQ.assign; exact rfl) | (apply OQ.len; exact rfl; exact rfl) | (apply OQ.gtrN; exact rfl; exact rfl)) rfl ?_ | refine JC.seq ?_ | refine JC.region ?_ | refine JC.block ?_ | refine JC.skip ?_ | refine JC.exit ?_ | refine JL.nil ?_ | refine JE.next ?_ | refine JE.blk_normal ?_ | refine JE.then_exit ?_ | refine JE.blk_hit ?_ | refine JE.blk_miss rfl ?_ | refine JE.then_ret ?_ | refine JE.blk_ret ?_ | refine JC.label ?_ | refine JL.gon rfl rfl ?_ | refine JL.gskip rfl rfl rfl rfl ?_ | refine JL.gskipU rfl rfl rfl rfl ?_)
  refine JL.box (r := key.map U8) rfl rfl rfl fun b4 _ => ?_
  refine JL.box (r := nonce.map U8) rfl rfl rfl fun b5 _ => ?_
  repeat (first | refine JL.q (by first | (apply OQ.callx; exact goes_speaks4; exact rfl; exact (fun w' hw' => speaks4_any w' (hG.chg hw'.chg (by simp)) (hQ.chg hw'.chg (by simp)))) | (apply OQ.not; exact rfl) | (apply OQ.move; exact rfl) | (apply OQ.assign; exact rfl) | (apply OQ.len; exact rfl; exact rfl) | (apply OQ.gtrN; exact rfl; exact rfl)) rfl ?_ | refine JC.seq ?_ | refine JC.region ?_ | refine JC.block ?_ | refine JC.skip ?_ | refine JC.exit ?_ | refine JL.nil ?_ | refine JE.next ?_ | refine JE.blk_normal ?_ | refine JE.then_exit ?_ | refine JE.blk_hit ?_ | refine JE.blk_miss rfl ?_ | refine JE.then_ret ?_ | refine JE.blk_ret ?_ | refine JC.label ?_ | refine JL.gon rfl rfl ?_ | refine JL.gskip rfl rfl rfl rfl ?_ | refine JL.gskipU rfl rfl rfl rfl ?_)
  refine JC.cond_false rfl rfl ?_
  by_cases g0 : 500 < s.l.length
  · repeat (first | refine JL.q (by first | (apply OQ.gtrN_t; exact rfl; exact rfl; exact g0) | (apply OQ.pick_t; exact rfl; exact rfl) | (apply OQ.move; exact rfl) | (apply OQ.assign; exact rfl) | (apply OQ.len; exact rfl; exact rfl) | (apply OQ.gtrN; exact rfl; exact rfl)) rfl ?_ | refine JC.seq ?_ | refine JC.region ?_ | refine JC.block ?_ | refine JC.skip ?_ | refine JC.exit ?_ | refine JL.nil ?_ | refine JE.next ?_ | refine JE.blk_normal ?_ | refine JE.then_exit ?_ | refine JE.blk_hit ?_ | refine JE.blk_miss rfl ?_ | refine JE.then_ret ?_ | refine JE.blk_ret ?_ | refine JC.label ?_ | refine JL.gon rfl rfl ?_ | refine JL.gskip rfl rfl rfl rfl ?_ | refine JL.gskipU rfl rfl rfl rfl ?_)
    refine JC.cond_true rfl rfl ?_
    repeat (first | refine JL.q (by first | (apply OQ.move; exact rfl) | (apply OQ.assign; exact rfl) | (apply OQ.len; exact rfl; exact rfl) | (apply OQ.gtrN; exact rfl; exact rfl)) rfl ?_ | refine JC.seq ?_ | refine JC.region ?_ | refine JC.block ?_ | refine JC.skip ?_ | refine JC.exit ?_ | refine JL.nil ?_ | refine JE.next ?_ | refine JE.blk_normal ?_ | refine JE.then_exit ?_ | refine JE.blk_hit ?_ | refine JE.blk_miss rfl ?_ | refine JE.then_ret ?_ | refine JE.blk_ret ?_ | refine JC.label ?_ | refine JL.gon rfl rfl ?_ | refine JL.gskip rfl rfl rfl rfl ?_ | refine JL.gskipU rfl rfl rfl rfl ?_)
    refine JC.ret ?_
    repeat (first | refine JL.q (by first | (apply OQ.move; exact rfl) | (apply OQ.assign; exact rfl) | (apply OQ.len; exact rfl; exact rfl) | (apply OQ.gtrN; exact rfl; exact rfl)) rfl ?_ | refine JC.seq ?_ | refine JC.region ?_ | refine JC.block ?_ | refine JC.skip ?_ | refine JC.exit ?_ | refine JL.nil ?_ | refine JE.next ?_ | refine JE.blk_normal ?_ | refine JE.then_exit ?_ | refine JE.blk_hit ?_ | refine JE.blk_miss rfl ?_ | refine JE.then_ret ?_ | refine JE.blk_ret ?_ | refine JC.label ?_ | refine JL.gon rfl rfl ?_ | refine JL.gskip rfl rfl rfl rfl ?_ | refine JL.gskipU rfl rfl rfl rfl ?_)
    exact JE.ret1 rfl (RV.tmp rfl) fun w' hw => ⟨rfl, hw.chg⟩
  by_cases g1 : 2000 < p.l.length
  · repeat (first | refine JL.q (by first | (apply OQ.gtrN_f; exact rfl; exact rfl; exact g0) | (apply OQ.gtrN_t; exact rfl; exact rfl; exact g1) | (apply OQ.pick_f; exact rfl; exact rfl) | (apply OQ.move; exact rfl) | (apply OQ.assign; exact rfl) | (apply OQ.len; exact rfl; exact rfl) | (apply OQ.gtrN; exact rfl; exact rfl)) rfl ?_ | refine JC.seq ?_ | refine JC.region ?_ | refine JC.block ?_ | refine JC.skip ?_ | refine JC.exit ?_ | refine JL.nil ?_ | refine JE.next ?_ | refine JE.blk_normal ?_ | refine JE.then_exit ?_ | refine JE.blk_hit ?_ | refine JE.blk_miss rfl ?_ | refine JE.then_ret ?_ | refine JE.blk_ret ?_ | refine JC.label ?_ | refine JL.gon rfl rfl ?_ | refine JL.gskip rfl rfl rfl rfl ?_ | refine JL.gskipU rfl rfl rfl rfl ?_)
    refine JC.cond_true rfl rfl ?_
    repeat (first | refine JL.q (by first | (apply OQ.move; exact rfl) | (apply OQ.assign; exact rfl) | (apply OQ.len; exact rfl; exact rfl) | (apply OQ.gtrN; exact rfl; exact rfl)) rfl ?_ | refine JC.seq ?_ | refine JC.region ?_ | refine JC.block ?_ | refine JC.skip ?_ | refine JC.exit ?_ | refine JL.nil ?_ | refine JE.next ?_ | refine JE.blk_normal ?_ | refine JE.then_exit ?_ | refine JE.blk_hit ?_ | refine JE.blk_miss rfl ?_ | refine JE.then_ret ?_ | refine JE.blk_ret ?_ | refine JC.label ?_ | refine JL.gon rfl rfl ?_ | refine JL.gskip rfl rfl rfl rfl ?_ | refine JL.gskipU rfl rfl rfl rfl ?_)
    refine JC.ret ?_
    repeat (first | refine JL.q (by first | (apply OQ.move; exact rfl) | (apply OQ.assign; exact rfl) | (apply OQ.len; exact rfl; exact rfl) | (apply OQ.gtrN; exact rfl; exact rfl)) rfl ?_ | refine JC.seq ?_ | refine JC.region ?_ | refine JC.block ?_ | refine JC.skip ?_ | refine JC.exit ?_ | refine JL.nil ?_ | refine JE.next ?_ | refine JE.blk_normal ?_ | refine JE.then_exit ?_ | refine JE.blk_hit ?_ | refine JE.blk_miss rfl ?_ | refine JE.then_ret ?_ | refine JE.blk_ret ?_ | refine JC.label ?_ | refine JL.gon rfl rfl ?_ | refine JL.gskip rfl rfl rfl rfl ?_ | refine JL.gskipU rfl rfl rfl rfl ?_)
    exact JE.ret1 rfl (RV.tmp rfl) fun w' hw => ⟨rfl, hw.chg⟩
  repeat (first | refine JL.q (by first | (apply OQ.gtrN_f; exact rfl; exact rfl; exact g0) | (apply OQ.gtrN_f; exact rfl; exact rfl; exact g1) | (apply OQ.pick_f; exact rfl; exact rfl) | (apply OQ.move; exact rfl) | (apply OQ.assign; exact rfl) | (apply OQ.len; exact rfl; exact rfl) | (apply OQ.gtrN; exact rfl; exact rfl)) rfl ?_ | refine JC.seq ?_ | refine JC.region ?_ | refine JC.block ?_ | refine JC.skip ?_ | refine JC.exit ?_ | refine JL.nil ?_ | refine JE.next ?_ | refine JE.blk_normal ?_ | refine JE.then_exit ?_ | refine JE.blk_hit ?_ | refine JE.blk_miss rfl ?_ | refine JE.then_ret ?_ | refine JE.blk_ret ?_ | refine JC.label ?_ | refine JL.gon rfl rfl ?_ | refine JL.gskip rfl rfl rfl rfl ?_ | refine JL.gskipU rfl rfl rfl rfl ?_)
  refine JC.cond_false rfl rfl ?_
  obtain ⟨X', hX'⟩ : ∃ o, sealK (k1 key) (k2 key) nonce s.l p.l = o := ⟨_, rfl⟩
  obtain ⟨o, ho⟩ : ∃ o, openK (k1 key) (k2 key) nonce s.l p.l = o := ⟨_, rfl⟩
  have hXl : X'.length = p.l.length + 32 := by rw [← hX', sealK_length]
  have hol : o.1.length ≤ p.l.length := by
    by_cases h : p.l.length < 32
    · rw [← ho, openK_short _ _ _ _ _ h]; simp
    · rcases openK_or (k1 key) (k2 key) nonce s.l p.l h with ⟨T, h1, h2⟩ | h1
      · rw [← ho, h1]; show T.length ≤ _; omega
      · rw [← ho, h1]; simp
  repeat (first | refine JL.q (by first | (apply OQ.move; exact rfl) | (apply OQ.assign; exact rfl) | (apply OQ.len; exact rfl; exact rfl) | (apply OQ.gtrN; exact rfl; exact rfl)) rfl ?_ | refine JC.seq ?_ | refine JC.region ?_ | refine JC.block ?_ | refine JC.skip ?_ | refine JC.exit ?_ | refine JL.nil ?_ | refine JE.next ?_ | refine JE.blk_normal ?_ | refine JE.then_exit ?_ | refine JE.blk_hit ?_ | refine JE.blk_miss rfl ?_ | refine JE.then_ret ?_ | refine JE.blk_ret ?_ | refine JC.label ?_ | refine JL.gon rfl rfl ?_ | refine JL.gskip rfl rfl rfl rfl ?_ | refine JL.gskipU rfl rfl rfl rfl ?_)
  refine JL.litZ Tryd.underlying33 e5 rfl fun b26 _ => ?_
  repeat (first | refine JL.q (by first | (apply OQ.move; exact rfl) | (apply OQ.assign; exact rfl) | (apply OQ.len; exact rfl; exact rfl) | (apply OQ.gtrN; exact rfl; exact rfl)) rfl ?_ | refine JC.seq ?_ | refine JC.region ?_ | refine JC.block ?_ | refine JC.skip ?_ | refine JC.exit ?_ | refine JL.nil ?_ | refine JE.next ?_ | refine JE.blk_normal ?_ | refine JE.then_exit ?_ | refine JE.blk_hit ?_ | refine JE.blk_miss rfl ?_ | refine JE.then_ret ?_ | refine JE.blk_ret ?_ | refine JC.label ?_ | refine JL.gon rfl rfl ?_ | refine JL.gskip rfl rfl rfl rfl ?_ | refine JL.gskipU rfl rfl rfl rfl ?_)
  refine JL.append (cs := p.l.map U8) (fun b' cap' => [⟨b', Own 5 1 (0 + p.l.length) cap' ([] ++ p.l.map U8), true⟩, ⟨b5, Row 26 (nonce.map U8), true⟩, ⟨b4, Row 23 (key.map U8), true⟩]) Tryd.underlying33 e5 rfl rfl (by intro _ _; repeat (first | exact Repl.here | apply Repl.there)) (by simp) (fun w' hw' => (hp.holds hw' rfl).reads) (of_u8 _) rfl (by decide) (by omega) (by omega) rfl fun bO cO => ?_
  rw [List.nil_append, Nat.zero_add]
  refine JL.litZ Tryd.underlying33 e5 rfl fun b29 _ => ?_
  repeat (first | refine JL.q (by first | (apply OQ.move; exact rfl) | (apply OQ.assign; exact rfl) | (apply OQ.len; exact rfl; exact rfl) | (apply OQ.gtrN; exact rfl; exact rfl)) rfl ?_ | refine JC.seq ?_ | refine JC.region ?_ | refine JC.block ?_ | refine JC.skip ?_ | refine JC.exit ?_ | refine JL.nil ?_ | refine JE.next ?_ | refine JE.blk_normal ?_ | refine JE.then_exit ?_ | refine JE.blk_hit ?_ | refine JE.blk_miss rfl ?_ | refine JE.then_ret ?_ | refine JE.blk_ret ?_ | refine JC.label ?_ | refine JL.gon rfl rfl ?_ | refine JL.gskip rfl rfl rfl rfl ?_ | refine JL.gskipU rfl rfl rfl rfl ?_)
  refine JL.append (cs := s.l.map U8) (fun b' cap' => [⟨b', Own 5 1 (0 + s.l.length) cap' ([] ++ s.l.map U8), true⟩, ⟨bO, Own 5 1 p.l.length cO (p.l.map U8), true⟩, ⟨b5, Row 26 (nonce.map U8), true⟩, ⟨b4, Row 23 (key.map U8), true⟩]) Tryd.underlying33 e5 rfl rfl (by intro _ _; repeat (first | exact Repl.here | apply Repl.there)) (by simp) (fun w' hw' => (hs.holds hw' rfl).reads) (of_u8 _) rfl (by decide) (by omega) (by omega) rfl fun bS cS => ?_
  rw [List.nil_append, Nat.zero_add]
  repeat (first | refine JL.q (by first | (apply OQ.load_agg (cs := key.map U8); exact a25; exact s25; exact rfl; exact (.there (.there (.there .here))); exact (by simpa using hk); exact Row.all) | (apply OQ.load_agg (cs := nonce.map U8); exact noa; exact nos; exact rfl; exact (.there (.there .here)); exact (by simpa using hn); exact Row.all) | (apply OQ.move; exact rfl) | (apply OQ.assign; exact rfl) | (apply OQ.len; exact rfl; exact rfl) | (apply OQ.gtrN; exact rfl; exact rfl)) rfl ?_ | refine JC.seq ?_ | refine JC.region ?_ | refine JC.block ?_ | refine JC.skip ?_ | refine JC.exit ?_ | refine JL.nil ?_ | refine JE.next ?_ | refine JE.blk_normal ?_ | refine JE.then_exit ?_ | refine JE.blk_hit ?_ | refine JE.blk_miss rfl ?_ | refine JE.then_ret ?_ | refine JE.blk_ret ?_ | refine JC.label ?_ | refine JL.gon rfl rfl ?_ | refine JL.gskip rfl rfl rfl rfl ?_ | refine JL.gskipU rfl rfl rfl rfl ?_)
  refine JL.callg (ι := Nat × Nat) (fun x => .slice (some ⟨x.1, 0, none⟩) (p.l.length + 32) x.2) (fun x => [⟨x.1, Own 5 1 (p.l.length + 32) x.2 (X'.map U8), true⟩]) goes_seal rfl rfl (fun i => by simp) (fun w' hw' => sealO_any (s := ⟨some ⟨bS, 0, none⟩, cS, s.l⟩) (p := ⟨some ⟨bO, 0, none⟩, cO, p.l⟩) rfl rfl hX' rfl hk hn (hG.chg hw'.chg (by simp)) (hQ.chg hw'.chg (by simp)) (ownb_ok hw' .here) (ownb_ok hw' (.there .here)) (show s.l.length < 100000000 by omega) (show p.l.length < 100000000 by omega)) ?_
  rintro ⟨bX, cX⟩
  try dsimp only
  repeat (first | refine JL.q (by first | (apply OQ.load_agg (cs := key.map U8); exact a25; exact s25; exact rfl; exact (.there (.there (.there (.there .here)))); exact (by simpa using hk); exact Row.all) | (apply OQ.load_agg (cs := nonce.map U8); exact noa; exact nos; exact rfl; exact (.there (.there (.there .here))); exact (by simpa using hn); exact Row.all) | (apply OQ.move; exact rfl) | (apply OQ.assign; exact rfl) | (apply OQ.len; exact rfl; exact rfl) | (apply OQ.gtrN; exact rfl; exact rfl)) rfl ?_ | refine JC.seq ?_ | refine JC.region ?_ | refine JC.block ?_ | refine JC.skip ?_ | refine JC.exit ?_ | refine JL.nil ?_ | refine JE.next ?_ | refine JE.blk_normal ?_ | refine JE.then_exit ?_ | refine JE.blk_hit ?_ | refine JE.blk_miss rfl ?_ | refine JE.then_ret ?_ | refine JE.blk_ret ?_ | refine JC.label ?_ | refine JL.gon rfl rfl ?_ | refine JL.gskip rfl rfl rfl rfl ?_ | refine JL.gskipU rfl rfl rfl rfl ?_)
  refine JL.callg (ι := { s' : Sl8 // Gave s' o.1 s'.cap }) (fun i => .tuple #[i.1.v, N o.2]) (fun i => i.1.ents) goes_open rfl rfl (fun i => Sl8.ents_wr _) (fun w' hw' => openO_any (s := ⟨some ⟨bS, 0, none⟩, cS, s.l⟩) (z := ⟨some ⟨bO, 0, none⟩, cO, p.l⟩) rfl rfl ho hk hn (hG.chg hw'.chg (by simp)) (hQ.chg hw'.chg (by simp)) (ownb_ok hw' (.there .here)) (ownb_ok hw' (.there (.there .here))) (show s.l.length < 100000000 by omega) (show p.l.length < 100000000 by omega)) ?_
  rintro ⟨x1, h1⟩
  try dsimp only
  refine JL.perm List.perm_append_comm ?_
  repeat (first | refine JL.q (by first | (apply OQ.extract; exact rfl; exact rfl) | (apply OQ.load_agg (cs := key.map U8); exact a25; exact s25; exact rfl; exact (.there (.there (.there (.there .here)))); exact (by simpa using hk); exact Row.all) | (apply OQ.load_agg (cs := nonce.map U8); exact noa; exact nos; exact rfl; exact (.there (.there (.there .here))); exact (by simpa using hn); exact Row.all) | (apply OQ.move; exact rfl) | (apply OQ.assign; exact rfl) | (apply OQ.len; exact rfl; exact rfl) | (apply OQ.gtrN; exact rfl; exact rfl)) rfl ?_ | refine JC.seq ?_ | refine JC.region ?_ | refine JC.block ?_ | refine JC.skip ?_ | refine JC.exit ?_ | refine JL.nil ?_ | refine JE.next ?_ | refine JE.blk_normal ?_ | refine JE.then_exit ?_ | refine JE.blk_hit ?_ | refine JE.blk_miss rfl ?_ | refine JE.then_ret ?_ | refine JE.blk_ret ?_ | refine JC.label ?_ | refine JL.gon rfl rfl ?_ | refine JL.gskip rfl rfl rfl rfl ?_ | refine JL.gskipU rfl rfl rfl rfl ?_)
  refine JL.callg (ι := { s' : Sl8 // Gave s' o.1 s'.cap }) (fun i => .tuple #[i.1.v, N o.2]) (fun i => i.1.ents) goes_ropen rfl rfl (fun i => Sl8.ents_wr _) (fun w' hw' => ropenO_any rfl rfl ho hk hn (hs.holds hw' rfl) (hp.holds hw' rfl) (by omega) (by omega)) ?_
  rintro ⟨x2, h2⟩
  try dsimp only
  refine JL.perm List.perm_append_comm ?_
  repeat (first | refine JL.q (by first | (apply OQ.extract; exact rfl; exact rfl) | (apply OQ.load_agg (cs := key.map U8); exact a25; exact s25; exact rfl; exact (.there (.there (.there (.there .here)))); exact (by simpa using hk); exact Row.all) | (apply OQ.load_agg (cs := nonce.map U8); exact noa; exact nos; exact rfl; exact (.there (.there (.there .here))); exact (by simpa using hn); exact Row.all) | (apply OQ.move; exact rfl) | (apply OQ.assign; exact rfl) | (apply OQ.len; exact rfl; exact rfl) | (apply OQ.gtrN; exact rfl; exact rfl)) rfl ?_ | refine JC.seq ?_ | refine JC.region ?_ | refine JC.block ?_ | refine JC.skip ?_ | refine JC.exit ?_ | refine JL.nil ?_ | refine JE.next ?_ | refine JE.blk_normal ?_ | refine JE.then_exit ?_ | refine JE.blk_hit ?_ | refine JE.blk_miss rfl ?_ | refine JE.then_ret ?_ | refine JE.blk_ret ?_ | refine JC.label ?_ | refine JL.gon rfl rfl ?_ | refine JL.gskip rfl rfl rfl rfl ?_ | refine JL.gskipU rfl rfl rfl rfl ?_)
  refine JL.callg (ι := Nat × Nat) (fun x => .slice (some ⟨x.1, 0, none⟩) (p.l.length + 32) x.2) (fun x => [⟨x.1, Own 5 1 (p.l.length + 32) x.2 (X'.map U8), true⟩]) goes_rseal rfl rfl (fun i => by simp) (fun w' hw' => rsealO_any hX' hk hn (hs.holds hw' rfl) (hp.holds hw' rfl) (by omega) (by omega)) ?_
  rintro ⟨bR, cR⟩
  try dsimp only
  have hx1 : x1.l = o.1 := h1.val
  have hx2 : x2.l = o.1 := h2.val
  have e1 : ∀ b c, Sl8.v ⟨some ⟨b, 0, none⟩, c, X'⟩ = .slice (some ⟨b, 0, none⟩) (p.l.length + 32) c := fun b c => by simp [Sl8.v, hXl]
  repeat (first | refine JL.q (by first | (apply OQ.callx (vs := [.slice (some ⟨bX, 0, none⟩) (p.l.length + 32) cX, .slice (some ⟨bR, 0, none⟩) (p.l.length + 32) cR]); exact goes_same; exact rfl; exact (fun w' hw' => same_b (a := ⟨some ⟨bX, 0, none⟩, cX, X'⟩) (b := ⟨some ⟨bR, 0, none⟩, cR, X'⟩) (c := true) (e1 _ _) (e1 _ _) (ownb_ok hw' (.there .here)) (ownb_ok hw' .here) (show X'.length < 4611686018427387904 by omega) (decide_eq_true rfl))) | (apply OQ.callx (vs := [x1.v, x2.v]); exact goes_same; exact rfl; exact (fun w' hw' => same_b (a := x1) (b := x2) (c := true) rfl rfl (ents_mem hw' (fun e he => by simp [he]) h1.none) (ents_mem hw' (fun e he => by simp [he]) h2.none) (by rw [hx1]; omega) (decide_eq_true (hx1.trans hx2.symm)))) | (apply OQ.not; exact rfl) | (apply OQ.nei_f; exact rfl; exact rfl; exact rfl) | (apply OQ.pick_f; exact rfl; exact rfl) | (apply OQ.move; exact rfl) | (apply OQ.assign; exact rfl) | (apply OQ.len; exact rfl; exact rfl) | (apply OQ.gtrN; exact rfl; exact rfl)) rfl ?_ | refine JC.seq ?_ | refine JC.region ?_ | refine JC.block ?_ | refine JC.skip ?_ | refine JC.exit ?_ | refine JL.nil ?_ | refine JE.next ?_ | refine JE.blk_normal ?_ | refine JE.then_exit ?_ | refine JE.blk_hit ?_ | refine JE.blk_miss rfl ?_ | refine JE.then_ret ?_ | refine JE.blk_ret ?_ | refine JC.label ?_ | refine JL.gon rfl rfl ?_ | refine JL.gskip rfl rfl rfl rfl ?_ | refine JL.gskipU rfl rfl rfl rfl ?_)
  refine JC.cond_false rfl rfl ?_
  have hml := msg_length nonce s.l p.l
  have hM1 := fun w' (h1 : s.ok w') (h2 : p.ok w') => message_any nonce s p hn w' h1 h2 (by omega) (by omega)
  have hM2 := fun w' (h1 : s.ok w') (h2 : p.ok w') => rmessage_any nonce s p hn w' h1 h2 (by omega) (by omega)
  rw [hn] at hml
  generalize msg nonce s.l p.l = m at hml hM1 hM2
  repeat (first | refine JL.q (by first | (apply OQ.move; exact rfl) | (apply OQ.assign; exact rfl) | (apply OQ.len; exact rfl; exact rfl) | (apply OQ.gtrN; exact rfl; exact rfl)) rfl ?_ | refine JC.seq ?_ | refine JC.region ?_ | refine JC.block ?_ | refine JC.skip ?_ | refine JC.exit ?_ | refine JL.nil ?_ | refine JE.next ?_ | refine JE.blk_normal ?_ | refine JE.then_exit ?_ | refine JE.blk_hit ?_ | refine JE.blk_miss rfl ?_ | refine JE.then_ret ?_ | refine JE.blk_ret ?_ | refine JC.label ?_ | refine JL.gon rfl rfl ?_ | refine JL.gskip rfl rfl rfl rfl ?_ | refine JL.gskipU rfl rfl rfl rfl ?_)
  refine JC.weak (E' := [(2, s.v), (3, p.v), (5, Pt b5 0), (9, .slice (some ⟨bO, 0, none⟩) p.l.length cO), (10, .slice (some ⟨bS, 0, none⟩) s.l.length cS)]) (M' := [⟨bS, Own 5 1 s.l.length cS (s.l.map U8), true⟩, ⟨bO, Own 5 1 p.l.length cO (p.l.map U8), true⟩, ⟨b5, Row 26 (nonce.map U8), true⟩]) ?_ (by repeat (first | exact SubE.nil | refine SubE.cons _ _ _ rfl ?_)) (.drop _ _ _ (.drop _ _ _ (.keep _ _ _ _ _ _ (fun _ h => h) (.keep _ _ _ _ _ _ (fun _ h => h) (.keep _ _ _ _ _ _ (fun _ h => h) (Less.nil _))))))
  let vs : Nat → X → Value := fun j z => match j with
    | 0 => .slice (some ⟨bO, 0, none⟩) p.l.length cO
    | 1 => p.v
    | 4 => .slice (some ⟨bS, 0, none⟩) s.l.length cS
    | 5 => s.v
    | 9 => .agg (nonce.map U8).toArray
    | 10 => s.v
    | 11 => p.v
    | 12 => .slice (some ⟨z.1, 0, none⟩) m.length z.2
    | 13 => .agg (nonce.map U8).toArray
    | 14 => s.v
    | 15 => p.v
    | 16 => .slice (some ⟨z.1, 0, none⟩) m.length z.2
    | _ => .bool true
  let Ms : Nat → X → List Ent := fun j z => match j with
    | 12 => [⟨z.1, Own 5 1 m.length z.2 (m.map U8), true⟩]
    | 16 => [⟨z.1, Own 5 1 m.length z.2 (m.map U8), true⟩]
    | 20 => [⟨bS, Own 5 1 s.l.length cS (s.l.map U8), true⟩]
    | 21 => [⟨bO, Own 5 1 p.l.length cO (p.l.map U8), true⟩]
    | 22 => [⟨b5, Row 26 (nonce.map U8), true⟩]
    | _ => []
  refine JC.grow (g := ⟨[(2, s.v), (3, p.v), (5, Pt b5 0), (9, .slice (some ⟨bO, 0, none⟩) p.l.length cO), (10, .slice (some ⟨bS, 0, none⟩) s.l.length cS)], 23, vs, Ms, needZ, inpZ, fun _ => [], fun _ => none⟩) [(19, 8)] [] mixed (by repeat (first | exact SubE.nil | refine SubE.cons _ _ _ rfl ?_)) (Less.refl _) (by kernel_rfl) (by kernel_rfl) (by kernel_rfl) ?_ ?_
  · refine ⟨?_, ?_, ?_, ?_, ?_, ?_, ?_, ?_, ?_, ?_, ?_, ?_, ?_, ?_, ?_, ?_, ?_, ?_, ?_, ?_, trivial⟩
    iterate 12 (focus (intro x EF MF Q kk; (try refine JL.gon rfl rfl ?_); exact JL.q (by first | (apply OQ.load_agg (cs := nonce.map U8); exact noa; exact nos; exact rfl; exact .here; exact (by simpa using hn); exact Row.all) | (apply OQ.callx (vs := [.slice (some ⟨bO, 0, none⟩) p.l.length cO, p.v]); exact goes_same; exact rfl; exact (fun w' hw' => same_b (a := ⟨some ⟨bO, 0, none⟩, cO, p.l⟩) (b := p) (c := true) rfl rfl (ownb_ok hw' .here) (hp.holds hw' rfl) (show p.l.length < 4611686018427387904 by omega) (decide_eq_true rfl))) | (apply OQ.callx (vs := [.slice (some ⟨bS, 0, none⟩) s.l.length cS, s.v]); exact goes_same; exact rfl; exact (fun w' hw' => same_b (a := ⟨some ⟨bS, 0, none⟩, cS, s.l⟩) (b := s) (c := true) rfl rfl (ownb_ok hw' .here) (hs.holds hw' rfl) (show s.l.length < 4611686018427387904 by omega) (decide_eq_true rfl))) | (apply OQ.pick_t; exact rfl; exact rfl) | (apply OQ.move; exact rfl) | (apply OQ.assign; exact rfl) | (apply OQ.len; exact rfl; exact rfl) | (apply OQ.gtrN; exact rfl; exact rfl)) rfl (JL.nil (kk default nofun))))
    · intro z EF MF Q kk
      refine JL.gon rfl rfl ?_
      exact JL.callg (ι := Nat × Nat) (fun x => .slice (some ⟨x.1, 0, none⟩) m.length x.2) (fun x => [⟨x.1, Own 5 1 m.length x.2 (m.map U8), true⟩]) goes_message rfl rfl (fun i => by simp) (fun w' hw' => hM1 w' (hs.holds hw' rfl) (hp.holds hw' rfl)) fun i => JL.nil (kk i nofun)
    iterate 3 (focus (intro x EF MF Q kk; (try refine JL.gon rfl rfl ?_); exact JL.q (by first | (apply OQ.load_agg (cs := nonce.map U8); exact noa; exact nos; exact rfl; exact .here; exact (by simpa using hn); exact Row.all) | (apply OQ.move; exact rfl) | (apply OQ.assign; exact rfl) | (apply OQ.len; exact rfl; exact rfl) | (apply OQ.gtrN; exact rfl; exact rfl)) rfl (JL.nil (kk default nofun))))
    · intro z EF MF Q kk
      refine JL.gon rfl rfl ?_
      exact JL.callg (ι := Nat × Nat) (fun x => .slice (some ⟨x.1, 0, none⟩) m.length x.2) (fun x => [⟨x.1, Own 5 1 m.length x.2 (m.map U8), true⟩]) goes_rmessage rfl rfl (fun i => by simp) (fun w' hw' => hM2 w' (hs.holds hw' rfl) (hp.holds hw' rfl)) fun i => JL.nil (kk i nofun)
    · intro z EF MF Q kk
      refine JL.gon rfl rfl ?_
      exact JL.q (OQ.callx (vs := [.slice (some ⟨(z 12).1, 0, none⟩) m.length (z 12).2, .slice (some ⟨(z 16).1, 0, none⟩) m.length (z 16).2]) goes_same rfl fun w' hw' => same_b (a := ⟨some ⟨(z 12).1, 0, none⟩, (z 12).2, m⟩) (b := ⟨some ⟨(z 16).1, 0, none⟩, (z 16).2, m⟩) (c := true) rfl rfl (ownb_ok hw' .here) (ownb_ok hw' (.there .here)) (show m.length < 4611686018427387904 by omega) (decide_eq_true rfl)) rfl (JL.nil (kk default nofun))
    iterate 2 (focus (intro x EF MF Q kk; (try refine JL.gon rfl rfl ?_); exact JL.q (by first | (apply OQ.pick_t; exact rfl; exact rfl) | (apply OQ.move; exact rfl) | (apply OQ.assign; exact rfl) | (apply OQ.len; exact rfl; exact rfl) | (apply OQ.gtrN; exact rfl; exact rfl)) rfl (JL.nil (kk default nofun))))
  · intro z _
    repeat (first | refine JL.q (by first | (apply OQ.move; exact rfl) | (apply OQ.assign; exact rfl) | (apply OQ.len; exact rfl; exact rfl) | (apply OQ.gtrN; exact rfl; exact rfl)) rfl ?_ | refine JC.seq ?_ | refine JC.region ?_ | refine JC.block ?_ | refine JC.skip ?_ | refine JC.exit ?_ | refine JL.nil ?_ | refine JE.next ?_ | refine JE.blk_normal ?_ | refine JE.then_exit ?_ | refine JE.blk_hit ?_ | refine JE.blk_miss rfl ?_ | refine JE.then_ret ?_ | refine JE.blk_ret ?_ | refine JC.label ?_ | refine JL.gon rfl rfl ?_ | refine JL.gskip rfl rfl rfl rfl ?_ | refine JL.gskipU rfl rfl rfl rfl ?_)
    refine JC.ret ?_
    repeat (first | refine JL.q (by first | (apply OQ.move; exact rfl) | (apply OQ.assign; exact rfl) | (apply OQ.len; exact rfl; exact rfl) | (apply OQ.gtrN; exact rfl; exact rfl)) rfl ?_ | refine JC.seq ?_ | refine JC.region ?_ | refine JC.block ?_ | refine JC.skip ?_ | refine JC.exit ?_ | refine JL.nil ?_ | refine JE.next ?_ | refine JE.blk_normal ?_ | refine JE.then_exit ?_ | refine JE.blk_hit ?_ | refine JE.blk_miss rfl ?_ | refine JE.then_ret ?_ | refine JE.blk_ret ?_ | refine JC.label ?_ | refine JL.gon rfl rfl ?_ | refine JL.gskip rfl rfl rfl rfl ?_ | refine JL.gskipU rfl rfl rfl rfl ?_)
    exact JE.ret1 rfl (RV.tmp rfl) fun w' hw => ⟨rfl, hw.chg⟩
end Go.Proofs.YtheemnpfnefbmaaDoor
