/-
  Of no statement by itself: what math/bits.RotateLeft32 (to the left), stream.Quarter and despatchlaw03.speaks give.
  Conditions: each theorem's own.
-/
import Derived.Test.YtheemnpfnefbmaaDoorProg
import Derived.Test.YtheemnpfnefbmaaDoorSlm
import Derived.Test.YtheemnpfnefbmaaDoorStrSpec
namespace Go.Proofs.YtheemnpfnefbmaaDoor
open Sl Sha Str

theorem mixQ : Tryd.prog.follows .mixedOrders = true := by kernel_rfl
theorem q1s : szT Tryd.prog 24 = some 1 := by kernel_rfl
theorem q1c : scal Tryd.prog 24 = true := by kernel_rfl
theorem q4s : szT Tryd.prog 27 = some 4 := by kernel_rfl
theorem q4a : aggT Tryd.prog 27 = true := by kernel_rfl
theorem q4z : zc Tryd.prog 27 = some ((List.replicate 4 (0 : W)).map U32) := by kernel_rfl
theorem q4g : Tryd.prog.eqGuardType Tryd.prog.depth 27 = false := by kernel_rfl
theorem goes_rotl : Goes Tryd.prog 29 := ⟨_, Tryd.func29, rfl, by kernel_rfl⟩
theorem goes_quarter : Goes Tryd.prog 13 := ⟨_, Tryd.func13, rfl, by kernel_rfl⟩
theorem goes_speaks3 : Goes Tryd.prog 11 := ⟨_, Tryd.func11, rfl, by kernel_rfl⟩
theorem all32q (l : List W) : (l.map U32).all Value.oneCell' = true := by simp [Value.oneCell']

theorem pos_and : ∀ k : Nat, k < 32 → (BitVec.ofNat 64 k &&& 31#64).toNat = k := by decide
theorem rotl_any (x : W) (k : Nat) (hk : k < 32) (w : World) : Calls Tryd.prog 29 [U32 x, N k].toArray w fun e w' => e = .returned (U32 (rotl x k)) ∧ Ext w w' := by
  have hna := pos_and k hk
  refine enter (n := 17) Tryd.func29 rfl rfl rfl (Holds.start w []) ?_
  refine JC.seq (JC.region ?_)
  repeat (refine JL.q (by first | (apply OQ.move; exact rfl) | (apply OQ.assign; exact rfl) | (apply OQ.add32; exact rfl; exact rfl) | (apply OQ.xor32; exact rfl; exact rfl) | (apply OQ.or32; exact rfl; exact rfl) | (apply OQ.shr32; exact rfl; exact rfl) | (apply OQ.shl32; exact rfl; exact rfl) | (apply OQ.idxA0; exact rfl; exact rfl; exact rfl; exact rfl; exact (by (try simp only []); omega))) rfl ?_)
  refine JL.nil (JE.next (JC.seq (JC.region ?_)))
  refine JL.q (OQ.move rfl) rfl ?_
  refine JL.q (OQ.convN_64 rfl rfl rfl) rfl ?_
  refine JL.q (OQ.and64 (b := 31#64) rfl rfl) rfl ?_
  generalize (BitVec.ofNat 64 k &&& 31#64) = s at hna
  repeat (refine JL.q (by first | (apply OQ.move; exact rfl) | (apply OQ.assign; exact rfl) | (apply OQ.add32; exact rfl; exact rfl) | (apply OQ.xor32; exact rfl; exact rfl) | (apply OQ.or32; exact rfl; exact rfl) | (apply OQ.shr32; exact rfl; exact rfl) | (apply OQ.shl32; exact rfl; exact rfl) | (apply OQ.idxA0; exact rfl; exact rfl; exact rfl; exact rfl; exact (by (try simp only []); omega))) rfl ?_)
  refine JL.nil (JE.next (JC.seq (JC.region ?_)))
  repeat (refine JL.q (by first | (apply OQ.move; exact rfl) | (apply OQ.assign; exact rfl) | (apply OQ.add32; exact rfl; exact rfl) | (apply OQ.xor32; exact rfl; exact rfl) | (apply OQ.or32; exact rfl; exact rfl) | (apply OQ.shr32; exact rfl; exact rfl) | (apply OQ.shl32; exact rfl; exact rfl) | (apply OQ.idxA0; exact rfl; exact rfl; exact rfl; exact rfl; exact (by (try simp only []); omega))) rfl ?_)
  refine JL.q (OQ.sub64 (a := 32#64) rfl rfl (by rw [hna]; simp only [BitVec.toNat_ofNat]; omega)) rfl ?_
  repeat (refine JL.q (by first | (apply OQ.move; exact rfl) | (apply OQ.assign; exact rfl) | (apply OQ.add32; exact rfl; exact rfl) | (apply OQ.xor32; exact rfl; exact rfl) | (apply OQ.or32; exact rfl; exact rfl) | (apply OQ.shr32; exact rfl; exact rfl) | (apply OQ.shl32; exact rfl; exact rfl) | (apply OQ.idxA0; exact rfl; exact rfl; exact rfl; exact rfl; exact (by (try simp only []); omega))) rfl ?_)
  refine JL.nil (JE.next (JC.ret (JE.ret1 rfl (RV.tmp rfl) ?_)))
  refine fun w' hw => ⟨?_, hw.chg⟩
  have h2 : (32#64 - s).toNat = 32 - k := by rw [BitVec.toNat_sub_of_le (by simp only [BitVec.le_def, hna, BitVec.toNat_ofNat]; omega), hna]; rfl
  rw [h2, hna, rotl]

set_option maxHeartbeats 8000000 in
theorem quarter_any (a b c d : W) (w : World) : Calls Tryd.prog 13 [.agg ([a, b, c, d].map U32).toArray].toArray w fun e w' => e = .returned (.agg ((qr a b c d).map U32).toArray) ∧ Ext w w' := by
  refine enter (n := 48) Tryd.func13 rfl rfl rfl (Holds.start w []) ?_
  repeat (first | refine JL.q (by first | (apply OQ.move; exact rfl) | (apply OQ.assign; exact rfl) | (apply OQ.add32; exact rfl; exact rfl) | (apply OQ.xor32; exact rfl; exact rfl) | (apply OQ.or32; exact rfl; exact rfl) | (apply OQ.shr32; exact rfl; exact rfl) | (apply OQ.shl32; exact rfl; exact rfl) | (apply OQ.idxA0; exact rfl; exact rfl; exact rfl; exact rfl; exact (by (try simp only []); omega))) rfl ?_ | refine JC.seq ?_ | refine JC.region ?_ | refine JC.block ?_ | refine JC.skip ?_ | refine JC.exit ?_ | refine JL.nil ?_ | refine JE.next ?_ | refine JE.blk_normal ?_ | refine JE.then_exit ?_ | refine JE.blk_hit ?_ | refine JE.blk_miss rfl ?_ | refine JE.then_ret ?_ | refine JE.blk_ret ?_ | refine JC.label ?_ | refine JL.gon rfl rfl ?_ | refine JL.gskip rfl rfl rfl rfl ?_)
  refine JL.box (r := [a, b, c, d].map U32) rfl rfl rfl fun b1 _ => ?_
  refine JL.alloc q4z rfl fun b2 _ => ?_
  repeat (first | refine JL.q (by first | (apply OQ.move; exact rfl) | (apply OQ.assign; exact rfl) | (apply OQ.add32; exact rfl; exact rfl) | (apply OQ.xor32; exact rfl; exact rfl) | (apply OQ.or32; exact rfl; exact rfl) | (apply OQ.shr32; exact rfl; exact rfl) | (apply OQ.shl32; exact rfl; exact rfl) | (apply OQ.idxA0; exact rfl; exact rfl; exact rfl; exact rfl; exact (by (try simp only []); omega))) rfl ?_ | refine JC.seq ?_ | refine JC.region ?_ | refine JC.block ?_ | refine JC.skip ?_ | refine JC.exit ?_ | refine JL.nil ?_ | refine JE.next ?_ | refine JE.blk_normal ?_ | refine JE.then_exit ?_ | refine JE.blk_hit ?_ | refine JE.blk_miss rfl ?_ | refine JE.then_ret ?_ | refine JE.blk_ret ?_ | refine JC.label ?_ | refine JL.gon rfl rfl ?_ | refine JL.gskip rfl rfl rfl rfl ?_)
  refine JC.quiet mixQ (by kernel_rfl) ?_
  repeat (first | refine JL.q (by first | (apply OQ.idxA0; exact Tryd.underlying27; exact q1s; exact rfl; exact rfl; exact (by (try simp only []); omega)) | (apply OQ.load; exact q1c; exact rfl; exact (.there .here); exact (Row.cell rfl)) | (apply OQ.callx; exact goes_rotl; exact rfl; exact (fun w' _ => rotl_any _ _ (by decide) w')) | (apply OQ.move; exact rfl) | (apply OQ.assign; exact rfl) | (apply OQ.add32; exact rfl; exact rfl) | (apply OQ.xor32; exact rfl; exact rfl) | (apply OQ.or32; exact rfl; exact rfl) | (apply OQ.shr32; exact rfl; exact rfl) | (apply OQ.shl32; exact rfl; exact rfl) | (apply OQ.idxA0; exact rfl; exact rfl; exact rfl; exact rfl; exact (by (try simp only []); omega))) rfl ?_ | refine JQ.q (by first | (apply OQ.idxA0; exact Tryd.underlying27; exact q1s; exact rfl; exact rfl; exact (by (try simp only []); omega)) | (apply OQ.load; exact q1c; exact rfl; exact (.there .here); exact (Row.cell rfl)) | (apply OQ.callx; exact goes_rotl; exact rfl; exact (fun w' _ => rotl_any _ _ (by decide) w')) | (apply OQ.move; exact rfl) | (apply OQ.assign; exact rfl) | (apply OQ.add32; exact rfl; exact rfl) | (apply OQ.xor32; exact rfl; exact rfl) | (apply OQ.or32; exact rfl; exact rfl) | (apply OQ.shr32; exact rfl; exact rfl) | (apply OQ.shl32; exact rfl; exact rfl) | (apply OQ.idxA0; exact rfl; exact rfl; exact rfl; exact rfl; exact (by (try simp only []); omega))) rfl ?_ | refine JC.seq ?_ | refine JC.region ?_ | refine JC.block ?_ | refine JC.skip ?_ | refine JC.exit ?_ | refine JL.nil ?_ | refine JQ.nil ?_ | refine JQ.nil_tail ?_ | refine JE.next ?_ | refine JE.blk_normal ?_ | refine JE.then_exit ?_ | refine JE.blk_hit ?_ | refine JE.blk_miss rfl ?_ | refine JE.then_ret ?_ | refine JE.blk_ret ?_ | refine JC.label ?_ | refine JL.gon rfl rfl ?_ | refine JQ.gon rfl rfl ?_ | refine JL.gskip rfl rfl rfl rfl ?_ | refine JQ.gskip rfl rfl rfl rfl ?_)
  refine JL.q (OQ.pure (v := .agg ((qr a b c d).map U32).toArray) rfl rfl (by kernel_rfl)) rfl ?_
  refine JL.store_all q4s rfl rfl rfl (all32q _) .here rfl ?_
  repeat (first | refine JL.q (by first | (apply OQ.move; exact rfl) | (apply OQ.assign; exact rfl) | (apply OQ.add32; exact rfl; exact rfl) | (apply OQ.xor32; exact rfl; exact rfl) | (apply OQ.or32; exact rfl; exact rfl) | (apply OQ.shr32; exact rfl; exact rfl) | (apply OQ.shl32; exact rfl; exact rfl) | (apply OQ.idxA0; exact rfl; exact rfl; exact rfl; exact rfl; exact (by (try simp only []); omega))) rfl ?_ | refine JQ.q (by first | (apply OQ.move; exact rfl) | (apply OQ.assign; exact rfl) | (apply OQ.add32; exact rfl; exact rfl) | (apply OQ.xor32; exact rfl; exact rfl) | (apply OQ.or32; exact rfl; exact rfl) | (apply OQ.shr32; exact rfl; exact rfl) | (apply OQ.shl32; exact rfl; exact rfl) | (apply OQ.idxA0; exact rfl; exact rfl; exact rfl; exact rfl; exact (by (try simp only []); omega))) rfl ?_ | refine JC.seq ?_ | refine JC.region ?_ | refine JC.block ?_ | refine JC.skip ?_ | refine JC.exit ?_ | refine JL.nil ?_ | refine JQ.nil ?_ | refine JQ.nil_tail ?_ | refine JE.next ?_ | refine JE.blk_normal ?_ | refine JE.then_exit ?_ | refine JE.blk_hit ?_ | refine JE.blk_miss rfl ?_ | refine JE.then_ret ?_ | refine JE.blk_ret ?_ | refine JC.label ?_ | refine JL.gon rfl rfl ?_ | refine JQ.gon rfl rfl ?_ | refine JL.gskip rfl rfl rfl rfl ?_ | refine JQ.gskip rfl rfl rfl rfl ?_)
  refine JC.ret (JE.ret1 rfl (RV.cell_agg q4a q4s rfl .here rfl Row.all) ?_)
  exact fun w' hw => ⟨rfl, hw.chg⟩

set_option maxHeartbeats 8000000 in
theorem speaks3_any (w : World) : Calls Tryd.prog 11 ([] : List Value).toArray w fun e w' => e = .returned (.bool true) ∧ Ext w w' := by
  refine enter (n := 5) Tryd.func11 rfl rfl rfl (Holds.start w []) ?_
  repeat (first | refine JL.q (by first | (apply OQ.move; exact rfl) | (apply OQ.assign; exact rfl) | (apply OQ.add32; exact rfl; exact rfl) | (apply OQ.xor32; exact rfl; exact rfl) | (apply OQ.or32; exact rfl; exact rfl) | (apply OQ.shr32; exact rfl; exact rfl) | (apply OQ.shl32; exact rfl; exact rfl) | (apply OQ.idxA0; exact rfl; exact rfl; exact rfl; exact rfl; exact (by (try simp only []); omega))) rfl ?_ | refine JC.seq ?_ | refine JC.region ?_ | refine JC.block ?_ | refine JC.skip ?_ | refine JC.exit ?_ | refine JL.nil ?_ | refine JE.next ?_ | refine JE.blk_normal ?_ | refine JE.then_exit ?_ | refine JE.blk_hit ?_ | refine JE.blk_miss rfl ?_ | refine JE.then_ret ?_ | refine JE.blk_ret ?_ | refine JC.label ?_ | refine JL.gon rfl rfl ?_ | refine JL.gskip rfl rfl rfl rfl ?_)
  refine JL.q (OQ.pure (v := .agg (([0x11111111, 0x01020304, 0x9b8d6f43, 0x01234567] : List W).map U32).toArray) rfl rfl (by kernel_rfl)) rfl ?_
  repeat (first | refine JL.q (by first | (apply OQ.callx; exact goes_quarter; exact rfl; exact (fun w' _ => quarter_any _ _ _ _ w')) | (apply OQ.move; exact rfl) | (apply OQ.assign; exact rfl) | (apply OQ.add32; exact rfl; exact rfl) | (apply OQ.xor32; exact rfl; exact rfl) | (apply OQ.or32; exact rfl; exact rfl) | (apply OQ.shr32; exact rfl; exact rfl) | (apply OQ.shl32; exact rfl; exact rfl) | (apply OQ.idxA0; exact rfl; exact rfl; exact rfl; exact rfl; exact (by (try simp only []); omega))) rfl ?_ | refine JC.seq ?_ | refine JC.region ?_ | refine JC.block ?_ | refine JC.skip ?_ | refine JC.exit ?_ | refine JL.nil ?_ | refine JE.next ?_ | refine JE.blk_normal ?_ | refine JE.then_exit ?_ | refine JE.blk_hit ?_ | refine JE.blk_miss rfl ?_ | refine JE.then_ret ?_ | refine JE.blk_ret ?_ | refine JC.label ?_ | refine JL.gon rfl rfl ?_ | refine JL.gskip rfl rfl rfl rfl ?_)
  refine JL.q (OQ.pure (v := .agg (([0xea2a92f4, 0xcb1cf8ce, 0x4581472e, 0x5881c4bb] : List W).map U32).toArray) rfl rfl (by kernel_rfl)) rfl ?_
  refine JL.q (OQ.eqW Tryd.underlying27 Tryd.underlying24 q1s q4g rfl rfl rfl rfl) rfl ?_
  repeat (first | refine JL.q (by first | (apply OQ.move; exact rfl) | (apply OQ.assign; exact rfl) | (apply OQ.add32; exact rfl; exact rfl) | (apply OQ.xor32; exact rfl; exact rfl) | (apply OQ.or32; exact rfl; exact rfl) | (apply OQ.shr32; exact rfl; exact rfl) | (apply OQ.shl32; exact rfl; exact rfl) | (apply OQ.idxA0; exact rfl; exact rfl; exact rfl; exact rfl; exact (by (try simp only []); omega))) rfl ?_ | refine JC.seq ?_ | refine JC.region ?_ | refine JC.block ?_ | refine JC.skip ?_ | refine JC.exit ?_ | refine JL.nil ?_ | refine JE.next ?_ | refine JE.blk_normal ?_ | refine JE.then_exit ?_ | refine JE.blk_hit ?_ | refine JE.blk_miss rfl ?_ | refine JE.then_ret ?_ | refine JE.blk_ret ?_ | refine JC.label ?_ | refine JL.gon rfl rfl ?_ | refine JL.gskip rfl rfl rfl rfl ?_)
  refine JC.ret (JE.ret1 rfl (RV.tmp rfl) ?_)
  exact fun w' hw => ⟨by rw [show decide (qr 0x11111111 0x01020304 0x9b8d6f43 0x01234567 = [0xea2a92f4, 0xcb1cf8ce, 0x4581472e, 0x5881c4bb]) = true by decide +kernel], hw.chg⟩
end Go.Proofs.YtheemnpfnefbmaaDoor
