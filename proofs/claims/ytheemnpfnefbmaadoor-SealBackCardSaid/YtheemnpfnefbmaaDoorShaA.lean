/-
  Of no statement by itself: what math/bits.RotateLeft32, hash.turn, hash.schedule and hash.mix, despatchref01.right and .Table give.
  Conditions: each theorem's own.
-/
import Derived.Test.YtheemnpfnefbmaaDoorProg
import Derived.Test.YtheemnpfnefbmaaDoorSlx
import Derived.Test.YtheemnpfnefbmaaDoorShaSpec
namespace Go.Proofs.YtheemnpfnefbmaaDoor
open Sl Sha

theorem mixed : Tryd.prog.follows .mixedOrders = true := by kernel_rfl

theorem s54 : szT Tryd.prog 24 = some 1 := by kernel_rfl
theorem s5 : szT Tryd.prog 5 = some 1 := by kernel_rfl
theorem s53 : szT Tryd.prog 66 = some 1 := by kernel_rfl
theorem s55 : szT Tryd.prog 83 = some 64 := by kernel_rfl
theorem s57 : szT Tryd.prog 85 = some 8 := by kernel_rfl
theorem s60 : szT Tryd.prog 29 = some 64 := by kernel_rfl
theorem c54 : scal Tryd.prog 24 = true := by kernel_rfl
theorem c5 : scal Tryd.prog 5 = true := by kernel_rfl
theorem c53 : scal Tryd.prog 66 = true := by kernel_rfl
theorem a55 : aggT Tryd.prog 83 = true := by kernel_rfl
theorem a57 : aggT Tryd.prog 85 = true := by kernel_rfl
theorem a60 : aggT Tryd.prog 29 = true := by kernel_rfl
theorem goes_right : Goes Tryd.prog 52 := ⟨_, Tryd.func52, rfl, by kernel_rfl⟩
theorem goes_turn : Goes Tryd.prog 56 := ⟨_, Tryd.func56, rfl, by kernel_rfl⟩
theorem goes_rot : Goes Tryd.prog 29 := ⟨_, Tryd.func29, rfl, by kernel_rfl⟩
theorem goes_sched : Goes Tryd.prog 55 := ⟨_, Tryd.func55, rfl, by kernel_rfl⟩
theorem goes_mix : Goes Tryd.prog 53 := ⟨_, Tryd.func53, rfl, by kernel_rfl⟩
theorem goes_table : Goes Tryd.prog 51 := ⟨_, Tryd.func51, rfl, by kernel_rfl⟩

theorem right_any (x : W) (k : Nat) (hk : k < 32) (w : World) : Calls Tryd.prog 52 [U32 x, N k].toArray w fun e w' => e = .returned (U32 (rotr x k)) ∧ Ext w w' := by
  refine enter (n := 13) Tryd.func52 rfl rfl rfl (Holds.start w []) ?_
  refine JC.seq (JC.region ?_)
  repeat (refine JL.q (by first | (apply OQ.move; exact rfl) | (apply OQ.assign; exact rfl) | (apply OQ.or32; exact rfl; exact rfl) | (apply OQ.shr32; exact rfl; exact rfl) | (apply OQ.shl32; exact rfl; exact rfl) | (apply OQ.subN; exact rfl; exact rfl; exact (by (try simp only []); omega); exact (by (try simp only []); omega)) | (apply OQ.idxA0; exact rfl; exact rfl; exact rfl; exact rfl; exact (by (try simp only []); omega)) | (apply OQ.idxA1; exact rfl; exact rfl; exact rfl; exact rfl; exact (by (try simp only []); omega)) | (apply OQ.idxA; exact rfl; exact rfl; exact rfl; exact rfl; exact (by (try simp only []); omega)) | (apply OQ.idxS0; exact rfl; exact rfl; exact rfl; exact rfl; exact (by (try simp only []); omega)) | (apply OQ.idxS1; exact rfl; exact rfl; exact rfl; exact rfl; exact (by (try simp only []); omega)) | (apply OQ.idxS; exact rfl; exact rfl; exact rfl; exact rfl; exact (by (try simp only []); omega))) rfl ?_)
  refine JL.nil (JE.next (JC.seq (JC.quiet mixed (by kernel_rfl) ?_)))
  repeat (refine JQ.q (by first | (apply OQ.move; exact rfl) | (apply OQ.assign; exact rfl) | (apply OQ.or32; exact rfl; exact rfl) | (apply OQ.shr32; exact rfl; exact rfl) | (apply OQ.shl32; exact rfl; exact rfl) | (apply OQ.subN; exact rfl; exact rfl; exact (by (try simp only []); omega); exact (by (try simp only []); omega)) | (apply OQ.idxA0; exact rfl; exact rfl; exact rfl; exact rfl; exact (by (try simp only []); omega)) | (apply OQ.idxA1; exact rfl; exact rfl; exact rfl; exact rfl; exact (by (try simp only []); omega)) | (apply OQ.idxA; exact rfl; exact rfl; exact rfl; exact rfl; exact (by (try simp only []); omega)) | (apply OQ.idxS0; exact rfl; exact rfl; exact rfl; exact rfl; exact (by (try simp only []); omega)) | (apply OQ.idxS1; exact rfl; exact rfl; exact rfl; exact rfl; exact (by (try simp only []); omega)) | (apply OQ.idxS; exact rfl; exact rfl; exact rfl; exact rfl; exact (by (try simp only []); omega))) rfl ?_)
  refine JQ.nil (JE.next (JC.ret (JE.ret1 rfl (RV.tmp rfl) ?_)))
  exact fun w' hw => ⟨rfl, hw.chg⟩

theorem neg_and : ∀ k : Nat, k < 32 → 0 < k → (BitVec.ofInt 64 (-(k : Int)) &&& 31#64).toNat = 32 - k := by decide
theorem rot_any (x : W) (k : Nat) (hk : k < 32) (h0 : 0 < k) (w : World) : Calls Tryd.prog 29 [U32 x, .int .i64 (-(k : Int))].toArray w fun e w' => e = .returned (U32 (rotr x k)) ∧ Ext w w' := by
  have hna := neg_and k hk h0
  refine enter (n := 17) Tryd.func29 rfl rfl rfl (Holds.start w []) ?_
  refine JC.seq (JC.region ?_)
  repeat (refine JL.q (by first | (apply OQ.move; exact rfl) | (apply OQ.assign; exact rfl) | (apply OQ.or32; exact rfl; exact rfl) | (apply OQ.shr32; exact rfl; exact rfl) | (apply OQ.shl32; exact rfl; exact rfl) | (apply OQ.subN; exact rfl; exact rfl; exact (by (try simp only []); omega); exact (by (try simp only []); omega)) | (apply OQ.idxA0; exact rfl; exact rfl; exact rfl; exact rfl; exact (by (try simp only []); omega)) | (apply OQ.idxA1; exact rfl; exact rfl; exact rfl; exact rfl; exact (by (try simp only []); omega)) | (apply OQ.idxA; exact rfl; exact rfl; exact rfl; exact rfl; exact (by (try simp only []); omega)) | (apply OQ.idxS0; exact rfl; exact rfl; exact rfl; exact rfl; exact (by (try simp only []); omega)) | (apply OQ.idxS1; exact rfl; exact rfl; exact rfl; exact rfl; exact (by (try simp only []); omega)) | (apply OQ.idxS; exact rfl; exact rfl; exact rfl; exact rfl; exact (by (try simp only []); omega))) rfl ?_)
  refine JL.nil (JE.next (JC.seq (JC.region ?_)))
  refine JL.q (OQ.move rfl) rfl ?_
  refine JL.q (OQ.conv (v := U64 (BitVec.ofInt 64 (-(k : Int)))) rfl rfl rfl ?_) rfl ?_
  · simp only [IntKind.wrap, IntKind.signed, IntKind.bits, U64, BitVec.toNat_ofInt]
    simp
    omega
  refine JL.q (OQ.and64 (b := 31#64) rfl rfl) rfl ?_
  generalize (BitVec.ofInt 64 (-(k : Int)) &&& 31#64) = s at hna
  repeat (refine JL.q (by first | (apply OQ.move; exact rfl) | (apply OQ.assign; exact rfl) | (apply OQ.or32; exact rfl; exact rfl) | (apply OQ.shr32; exact rfl; exact rfl) | (apply OQ.shl32; exact rfl; exact rfl) | (apply OQ.subN; exact rfl; exact rfl; exact (by (try simp only []); omega); exact (by (try simp only []); omega)) | (apply OQ.idxA0; exact rfl; exact rfl; exact rfl; exact rfl; exact (by (try simp only []); omega)) | (apply OQ.idxA1; exact rfl; exact rfl; exact rfl; exact rfl; exact (by (try simp only []); omega)) | (apply OQ.idxA; exact rfl; exact rfl; exact rfl; exact rfl; exact (by (try simp only []); omega)) | (apply OQ.idxS0; exact rfl; exact rfl; exact rfl; exact rfl; exact (by (try simp only []); omega)) | (apply OQ.idxS1; exact rfl; exact rfl; exact rfl; exact rfl; exact (by (try simp only []); omega)) | (apply OQ.idxS; exact rfl; exact rfl; exact rfl; exact rfl; exact (by (try simp only []); omega))) rfl ?_)
  refine JL.nil (JE.next (JC.seq (JC.region ?_)))
  repeat (refine JL.q (by first | (apply OQ.move; exact rfl) | (apply OQ.assign; exact rfl) | (apply OQ.or32; exact rfl; exact rfl) | (apply OQ.shr32; exact rfl; exact rfl) | (apply OQ.shl32; exact rfl; exact rfl) | (apply OQ.subN; exact rfl; exact rfl; exact (by (try simp only []); omega); exact (by (try simp only []); omega)) | (apply OQ.idxA0; exact rfl; exact rfl; exact rfl; exact rfl; exact (by (try simp only []); omega)) | (apply OQ.idxA1; exact rfl; exact rfl; exact rfl; exact rfl; exact (by (try simp only []); omega)) | (apply OQ.idxA; exact rfl; exact rfl; exact rfl; exact rfl; exact (by (try simp only []); omega)) | (apply OQ.idxS0; exact rfl; exact rfl; exact rfl; exact rfl; exact (by (try simp only []); omega)) | (apply OQ.idxS1; exact rfl; exact rfl; exact rfl; exact rfl; exact (by (try simp only []); omega)) | (apply OQ.idxS; exact rfl; exact rfl; exact rfl; exact rfl; exact (by (try simp only []); omega))) rfl ?_)
  refine JL.q (OQ.sub64 (a := 32#64) rfl rfl (by rw [hna]; simp only [BitVec.toNat_ofNat]; omega)) rfl ?_
  repeat (refine JL.q (by first | (apply OQ.move; exact rfl) | (apply OQ.assign; exact rfl) | (apply OQ.or32; exact rfl; exact rfl) | (apply OQ.shr32; exact rfl; exact rfl) | (apply OQ.shl32; exact rfl; exact rfl) | (apply OQ.subN; exact rfl; exact rfl; exact (by (try simp only []); omega); exact (by (try simp only []); omega)) | (apply OQ.idxA0; exact rfl; exact rfl; exact rfl; exact rfl; exact (by (try simp only []); omega)) | (apply OQ.idxA1; exact rfl; exact rfl; exact rfl; exact rfl; exact (by (try simp only []); omega)) | (apply OQ.idxA; exact rfl; exact rfl; exact rfl; exact rfl; exact (by (try simp only []); omega)) | (apply OQ.idxS0; exact rfl; exact rfl; exact rfl; exact rfl; exact (by (try simp only []); omega)) | (apply OQ.idxS1; exact rfl; exact rfl; exact rfl; exact rfl; exact (by (try simp only []); omega)) | (apply OQ.idxS; exact rfl; exact rfl; exact rfl; exact rfl; exact (by (try simp only []); omega))) rfl ?_)
  refine JL.nil (JE.next (JC.ret (JE.ret1 rfl (RV.tmp rfl) ?_)))
  refine fun w' hw => ⟨?_, hw.chg⟩
  have h2 : (32#64 - s).toNat = k := by rw [BitVec.toNat_sub_of_le (by simp only [BitVec.le_def, hna, BitVec.toNat_ofNat]; omega), hna]; simp only [BitVec.toNat_ofNat]; omega
  rw [h2, hna, rotr, BitVec.or_comm]

theorem turn_any (x : W) (k : Nat) (hk : k < 32) (h0 : 0 < k) (w : World) : Calls Tryd.prog 56 [U32 x, N k].toArray w fun e w' => e = .returned (U32 (rotr x k)) ∧ Ext w w' := by
  refine enter (n := 9) Tryd.func56 rfl rfl rfl (Holds.start w []) ?_
  refine JC.seq (JC.region ?_)
  repeat (refine JL.q (by first | (apply OQ.move; exact rfl) | (apply OQ.assign; exact rfl) | (apply OQ.or32; exact rfl; exact rfl) | (apply OQ.shr32; exact rfl; exact rfl) | (apply OQ.shl32; exact rfl; exact rfl) | (apply OQ.subN; exact rfl; exact rfl; exact (by (try simp only []); omega); exact (by (try simp only []); omega)) | (apply OQ.idxA0; exact rfl; exact rfl; exact rfl; exact rfl; exact (by (try simp only []); omega)) | (apply OQ.idxA1; exact rfl; exact rfl; exact rfl; exact rfl; exact (by (try simp only []); omega)) | (apply OQ.idxA; exact rfl; exact rfl; exact rfl; exact rfl; exact (by (try simp only []); omega)) | (apply OQ.idxS0; exact rfl; exact rfl; exact rfl; exact rfl; exact (by (try simp only []); omega)) | (apply OQ.idxS1; exact rfl; exact rfl; exact rfl; exact rfl; exact (by (try simp only []); omega)) | (apply OQ.idxS; exact rfl; exact rfl; exact rfl; exact rfl; exact (by (try simp only []); omega))) rfl ?_)
  refine JL.nil (JE.next (JC.seq (JC.region ?_)))
  repeat (refine JL.q (by first | (apply OQ.move; exact rfl) | (apply OQ.assign; exact rfl) | (apply OQ.or32; exact rfl; exact rfl) | (apply OQ.shr32; exact rfl; exact rfl) | (apply OQ.shl32; exact rfl; exact rfl) | (apply OQ.subN; exact rfl; exact rfl; exact (by (try simp only []); omega); exact (by (try simp only []); omega)) | (apply OQ.idxA0; exact rfl; exact rfl; exact rfl; exact rfl; exact (by (try simp only []); omega)) | (apply OQ.idxA1; exact rfl; exact rfl; exact rfl; exact rfl; exact (by (try simp only []); omega)) | (apply OQ.idxA; exact rfl; exact rfl; exact rfl; exact rfl; exact (by (try simp only []); omega)) | (apply OQ.idxS0; exact rfl; exact rfl; exact rfl; exact rfl; exact (by (try simp only []); omega)) | (apply OQ.idxS1; exact rfl; exact rfl; exact rfl; exact rfl; exact (by (try simp only []); omega)) | (apply OQ.idxS; exact rfl; exact rfl; exact rfl; exact rfl; exact (by (try simp only []); omega))) rfl ?_)
  refine JL.q (OQ.negN rfl (by omega)) rfl ?_
  refine JL.q (OQ.callx goes_rot rfl fun w _ => rot_any x k hk h0 w) rfl ?_
  repeat (refine JL.q (by first | (apply OQ.move; exact rfl) | (apply OQ.assign; exact rfl) | (apply OQ.or32; exact rfl; exact rfl) | (apply OQ.shr32; exact rfl; exact rfl) | (apply OQ.shl32; exact rfl; exact rfl) | (apply OQ.subN; exact rfl; exact rfl; exact (by (try simp only []); omega); exact (by (try simp only []); omega)) | (apply OQ.idxA0; exact rfl; exact rfl; exact rfl; exact rfl; exact (by (try simp only []); omega)) | (apply OQ.idxA1; exact rfl; exact rfl; exact rfl; exact rfl; exact (by (try simp only []); omega)) | (apply OQ.idxA; exact rfl; exact rfl; exact rfl; exact rfl; exact (by (try simp only []); omega)) | (apply OQ.idxS0; exact rfl; exact rfl; exact rfl; exact rfl; exact (by (try simp only []); omega)) | (apply OQ.idxS1; exact rfl; exact rfl; exact rfl; exact rfl; exact (by (try simp only []); omega)) | (apply OQ.idxS; exact rfl; exact rfl; exact rfl; exact rfl; exact (by (try simp only []); omega))) rfl ?_)
  refine JL.nil (JE.next (JC.ret (JE.ret1 rfl (RV.tmp rfl) ?_)))
  exact fun w' hw => ⟨rfl, hw.chg⟩
end Go.Proofs.YtheemnpfnefbmaaDoor
