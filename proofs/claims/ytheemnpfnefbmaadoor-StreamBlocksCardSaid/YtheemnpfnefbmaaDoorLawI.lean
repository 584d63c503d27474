/-
  Of no statement by itself: what despatchlaw03.StreamBlocks answers.
  Conditions: the theorem's own.
-/
import Derived.Test.YtheemnpfnefbmaaDoorStrO
import Derived.Test.YtheemnpfnefbmaaDoorSame
namespace Go.Proofs.YtheemnpfnefbmaaDoor
open Sl Sha Str

def needL : Nat → List (Nat × Nat)
  | 1 => [(0, 16)]
  | 3 => [(2, 18)]
  | 4 => [(1, 17), (3, 19)]
  | 5 => [(4, 20)]
  | 6 => [(5, 21)]
  | 7 => [(5, 21)]
  | 8 => [(5, 21)]
  | 9 => [(5, 21)]
  | 10 => [(7, 23), (8, 24), (9, 25), (5, 21)]
  | 11 => [(6, 22), (10, 26), (5, 21)]
  | 12 => [(5, 21), (11, 27)]
  | 13 => [(12, 28)]
  | _ => []
def inpL : Nat → List Nat
  | 0 => [15]
  | 2 => [15]
  | 7 => [17]
  | 9 => [16]
  | 11 => [14, 10]
  | _ => []

set_option maxHeartbeats 16000000 in
set_option maxRecDepth 4000 in
theorem law_streamBlocks (key : List B) (ctr : W) (nonce : List B) (v : List W) (w : World) (hQ : GQ w) (hk : key.length = 32) (hn : nonce.length = 12) (hv : v.length = 4) :
    Calls Tryd.prog 3 [.agg (key.map U8).toArray, U32 ctr, .agg (nonce.map U8).toArray, .agg (v.map U32).toArray].toArray w fun e w' => e = .returned (.bool true) ∧ Ext w w' := by
  obtain ⟨a, b, c, d, rfl⟩ : ∃ a b c d, v = [a, b, c, d] := by
    match v, hv with
    | [a, b, c, d], _ => exact ⟨a, b, c, d, rfl⟩
  clear hv
  have hbl : ((ks key ctr nonce).map U8).length = 64 := by rw [List.length_map, ks_length]
  have hksl := ks_length key ctr nonce
  refine enter (n := 29) Tryd.func3 rfl rfl rfl (Holds.start w []) ?_
  repeat (first | refine JL.q (by first | (apply OQ.move; exact rfl) | (apply OQ.assign; exact rfl)) rfl ?_ | refine JC.seq ?_ | refine JC.region ?_ | refine JC.block ?_ | refine JC.skip ?_ | refine JC.exit ?_ | refine JL.nil ?_ | refine JE.next ?_ | refine JE.blk_normal ?_ | refine JE.then_exit ?_ | refine JE.blk_hit ?_ | refine JE.blk_miss rfl ?_ | refine JE.then_ret ?_ | refine JE.blk_ret ?_ | refine JC.label ?_ | refine JL.gon rfl rfl ?_ | refine JL.gskip rfl rfl rfl rfl ?_)
  refine JL.box (r := key.map U8) rfl rfl rfl fun b4 _ => ?_
  repeat (first | refine JL.q (by first | (apply OQ.move; exact rfl) | (apply OQ.assign; exact rfl)) rfl ?_ | refine JC.seq ?_ | refine JC.region ?_ | refine JC.block ?_ | refine JC.skip ?_ | refine JC.exit ?_ | refine JL.nil ?_ | refine JE.next ?_ | refine JE.blk_normal ?_ | refine JE.then_exit ?_ | refine JE.blk_hit ?_ | refine JE.blk_miss rfl ?_ | refine JE.then_ret ?_ | refine JE.blk_ret ?_ | refine JC.label ?_ | refine JL.gon rfl rfl ?_ | refine JL.gskip rfl rfl rfl rfl ?_)
  refine JL.box (r := nonce.map U8) rfl rfl rfl fun b6 _ => ?_
  refine JL.box (r := [a, b, c, d].map U32) rfl rfl rfl fun b7 _ => ?_
  repeat (first | refine JL.q (by first | (apply OQ.callx; exact goes_speaks3; exact rfl; exact (fun w' _ => speaks3_any w')) | (apply OQ.not; exact rfl) | (apply OQ.move; exact rfl) | (apply OQ.assign; exact rfl)) rfl ?_ | refine JC.seq ?_ | refine JC.region ?_ | refine JC.block ?_ | refine JC.skip ?_ | refine JC.exit ?_ | refine JL.nil ?_ | refine JE.next ?_ | refine JE.blk_normal ?_ | refine JE.then_exit ?_ | refine JE.blk_hit ?_ | refine JE.blk_miss rfl ?_ | refine JE.then_ret ?_ | refine JE.blk_ret ?_ | refine JC.label ?_ | refine JL.gon rfl rfl ?_ | refine JL.gskip rfl rfl rfl rfl ?_)
  refine JC.cond_false rfl rfl ?_
  repeat (first | refine JL.q (by first | (apply OQ.load_agg (cs := key.map U8); exact a25; exact s25; exact rfl; exact (.there (.there .here)); exact (by simpa using hk); exact Row.all) | (apply OQ.load_agg (cs := nonce.map U8); exact noa; exact nos; exact rfl; exact (.there .here); exact (by simpa using hn); exact Row.all) | (apply OQ.callx; exact goes_block; exact rfl; exact (fun w' hw' => block_any key ctr nonce hk hn w' (hQ.chg hw'.chg (by simp)))) | (apply OQ.move; exact rfl) | (apply OQ.assign; exact rfl)) rfl ?_ | refine JC.seq ?_ | refine JC.region ?_ | refine JC.block ?_ | refine JC.skip ?_ | refine JC.exit ?_ | refine JL.nil ?_ | refine JE.next ?_ | refine JE.blk_normal ?_ | refine JE.then_exit ?_ | refine JE.blk_hit ?_ | refine JE.blk_miss rfl ?_ | refine JE.then_ret ?_ | refine JE.blk_ret ?_ | refine JC.label ?_ | refine JL.gon rfl rfl ?_ | refine JL.gskip rfl rfl rfl rfl ?_)
  refine JL.alloc u64z rfl fun b9 _ => ?_
  refine JL.store_all s60 rfl rfl hbl (all8 _) .here (by simp) ?_
  repeat (first | refine JL.q (by first | (apply OQ.move; exact rfl) | (apply OQ.assign; exact rfl)) rfl ?_ | refine JC.seq ?_ | refine JC.region ?_ | refine JC.block ?_ | refine JC.skip ?_ | refine JC.exit ?_ | refine JL.nil ?_ | refine JE.next ?_ | refine JE.blk_normal ?_ | refine JE.then_exit ?_ | refine JE.blk_hit ?_ | refine JE.blk_miss rfl ?_ | refine JE.then_ret ?_ | refine JE.blk_ret ?_ | refine JC.label ?_ | refine JL.gon rfl rfl ?_ | refine JL.gskip rfl rfl rfl rfl ?_)
  let vs : Nat → X → Value := fun j x => match j with
    | 0 => .agg (([a, b, c, d] : List W).map U32).toArray
    | 1 => .agg ((qr a b c d).map U32).toArray
    | 2 => .agg (([a, b, c, d] : List W).map U32).toArray
    | 3 => .agg ((qr a b c d).map U32).toArray
    | 6 => .slice (some ⟨b9, 0, none⟩) 64 64
    | 7 => .agg (key.map U8).toArray
    | 8 => U32 ctr
    | 9 => .agg (nonce.map U8).toArray
    | 10 => .slice (some ⟨x.1, 0, none⟩) 64 x.2
    | _ => .bool true
  let Ms : Nat → X → List Ent := fun j x => match j with
    | 10 => [⟨x.1, Own 5 1 64 x.2 ((ks key ctr nonce).map U8), true⟩]
    | 14 => [⟨b9, Row 29 ((ks key ctr nonce).map U8), true⟩]
    | 15 => [⟨b7, Row 27 ([a, b, c, d].map U32), true⟩]
    | 16 => [⟨b6, Row 26 (nonce.map U8), true⟩]
    | 17 => [⟨b4, Row 23 (key.map U8), true⟩]
    | _ => []
  refine JC.grow (g := ⟨[(1, U32 ctr), (4, Pt b4 0), (6, Pt b6 0), (7, Pt b7 0), (9, Pt b9 0)], 18, vs, Ms, needL, inpL, fun _ => [], fun _ => none⟩) [(13, 8)] [] mixQ (by repeat (first | exact SubE.nil | refine SubE.cons _ _ _ rfl ?_)) (Less.refl _) (by kernel_rfl) (by kernel_rfl) (by kernel_rfl) ?_ ?_
  · refine ⟨?_, ?_, ?_, ?_, ?_, ?_, ?_, ?_, ?_, ?_, ?_, ?_, ?_, ?_, trivial⟩
    iterate 10 (focus (intro x EF MF Q kk; (try refine JL.gon rfl rfl ?_); exact JL.q (by first | (apply OQ.load_agg (cs := key.map U8); exact a25; exact s25; exact rfl; exact .here; exact (by simpa using hk); exact Row.all) | (apply OQ.load_agg (cs := nonce.map U8); exact noa; exact nos; exact rfl; exact .here; exact (by simpa using hn); exact Row.all) | (apply OQ.load_agg (cs := [a, b, c, d].map U32); exact q4a; exact q4s; exact rfl; exact .here; exact rfl; exact Row.all) | (apply OQ.callx; exact goes_quarter; exact rfl; exact (fun w' _ => quarter_any a b c d w')) | (apply OQ.callx; exact goes_rquarter; exact rfl; exact (fun w' _ => rquarter_any a b c d w')) | (apply OQ.eqW_t (r := qr a b c d) (q := qr a b c d); exact Tryd.underlying27; exact Tryd.underlying24; exact q1s; exact q4g; exact rfl; exact rfl; exact rfl; exact rfl; exact rfl) | (apply OQ.slA; exact Tryd.underlying29; exact s5; exact rfl) | (apply OQ.move; exact rfl) | (apply OQ.assign; exact rfl)) rfl (JL.nil (kk (0, 0) nofun))))
    · intro x EF MF Q kk
      refine JL.gon rfl rfl ?_
      refine JL.callg (ι := Nat × Nat) (fun x => .slice (some ⟨x.1, 0, none⟩) 64 x.2) (fun x => [⟨x.1, Own 5 1 64 x.2 ((ks key ctr nonce).map U8), true⟩]) goes_rblock rfl rfl (fun i => by simp) (fun w' _ => rblock_any key ctr nonce hk hn w') fun i => JL.nil (kk i nofun)
    · intro x EF MF Q kk
      refine JL.gon rfl rfl ?_
      exact JL.q (OQ.callx (vs := [.slice (some ⟨b9, 0, none⟩) 64 64, .slice (some ⟨(x 10).1, 0, none⟩) 64 (x 10).2]) goes_same rfl fun w' hw' => same_t (a := ⟨some ⟨b9, 0, none⟩, 64, ks key ctr nonce⟩) (b := ⟨some ⟨(x 10).1, 0, none⟩, (x 10).2, ks key ctr nonce⟩) (by simp [Sl8.v, hksl]) (by simp [Sl8.v, hksl]) (row_ok hw' .here rfl (Nat.le_of_eq hksl)) (ownb_ok hw' (.there .here)) (show (ks key ctr nonce).length < 4611686018427387904 by omega) rfl) rfl (JL.nil (kk (0, 0) nofun))
    · intro x EF MF Q kk
      exact JL.q (OQ.pick_t rfl rfl) rfl (JL.nil (kk (0, 0) nofun))
    · intro x EF MF Q kk
      exact JL.q (OQ.assign rfl) rfl (JL.nil (kk (0, 0) nofun))
  · intro x _
    repeat (first | refine JL.q (by first | (apply OQ.move; exact rfl) | (apply OQ.assign; exact rfl)) rfl ?_ | refine JC.seq ?_ | refine JC.region ?_ | refine JC.block ?_ | refine JC.skip ?_ | refine JC.exit ?_ | refine JL.nil ?_ | refine JE.next ?_ | refine JE.blk_normal ?_ | refine JE.then_exit ?_ | refine JE.blk_hit ?_ | refine JE.blk_miss rfl ?_ | refine JE.then_ret ?_ | refine JE.blk_ret ?_ | refine JC.label ?_ | refine JL.gon rfl rfl ?_ | refine JL.gskip rfl rfl rfl rfl ?_)
    refine JC.ret ?_
    repeat (first | refine JL.q (by first | (apply OQ.move; exact rfl) | (apply OQ.assign; exact rfl)) rfl ?_ | refine JC.seq ?_ | refine JC.region ?_ | refine JC.block ?_ | refine JC.skip ?_ | refine JC.exit ?_ | refine JL.nil ?_ | refine JE.next ?_ | refine JE.blk_normal ?_ | refine JE.then_exit ?_ | refine JE.blk_hit ?_ | refine JE.blk_miss rfl ?_ | refine JE.then_ret ?_ | refine JE.blk_ret ?_ | refine JC.label ?_ | refine JL.gon rfl rfl ?_ | refine JL.gskip rfl rfl rfl rfl ?_)
    exact JE.ret1 rfl (RV.tmp rfl) fun w' hw => ⟨rfl, hw.chg⟩
end Go.Proofs.YtheemnpfnefbmaaDoor
