/-
  Of no statement by itself: what despatchlaw08's speaks gives.
  Conditions: each theorem's own.
-/
import Derived.Test.YtnopllkpfdgkkaaLinM
import Derived.Test.YtnopllkpfdgkkaaSame
namespace Go.Proofs.Ytnopllkpfdgkkaa
open Sl Lin
theorem goes_speaks8 : Goes Try.prog 8 := ⟨_, Try.func8, rfl, by kernel_rfl⟩
theorem st_is : stB [46, 97] = [46, 46, 97, 13, 10, 46, 13, 10] := by decide +kernel
theorem wh_is : whB [97, 10, 98, 13] = [97, 13, 10, 98, 13, 10] := by decide +kernel
set_option maxHeartbeats 8000000 in
theorem speaks8_any (w : World) : Calls Try.prog 8 ([] : List Value).toArray w fun e w' => e = .returned (.bool true) ∧ Ext w w' := by
  refine enter (n := 13) Try.func8 rfl rfl rfl (Holds.start w []) ?_
  repeat (first | refine JL.q (by first | (apply OQ.move; exact rfl) | (apply OQ.assign; exact rfl) | (apply OQ.len; exact rfl; exact rfl) | (apply OQ.addN; exact rfl; exact rfl; exact (by (try simp only []); omega)) | (apply OQ.lssN; exact rfl; exact rfl) | (apply OQ.leqN; exact rfl; exact rfl)) rfl ?_ | refine JC.seq ?_ | refine JC.region ?_ | refine JC.block ?_ | refine JC.skip ?_ | refine JC.exit ?_ | refine JL.nil ?_ | refine JE.next ?_ | refine JE.blk_normal ?_ | refine JE.then_exit ?_ | refine JE.blk_hit ?_ | refine JE.blk_miss rfl ?_ | refine JE.then_ret ?_ | refine JE.blk_ret ?_ | refine JC.label ?_ | refine JL.gon rfl rfl ?_ | refine JL.gskip rfl rfl rfl rfl ?_ | refine JL.gskipU rfl rfl rfl rfl ?_)
  refine JL.litL (xs := [.const (U8 46), .const (U8 97)]) (vs := [U8 46, U8 97]) Try.underlying22 u8e rfl rfl rfl rfl (by intro v hv; simp only [List.mem_cons, List.not_mem_nil, or_false] at hv; rcases hv with rfl | rfl <;> rfl) rfl (by decide) (by decide) rfl fun b1 _ => ?_
  refine JL.mark (r := [U8 46, U8 97]) (te := 5) Try.underlying22 Try.underlying5 rfl .here rfl ?_
  refine JL.callb (vs := [Sl8.v ⟨some ⟨b1, 0, none⟩, 2, [46, 97]⟩]) (S' := []) [] goes_astuff rfl rfl (fun w' hw' => astuff_any ⟨some ⟨b1, 0, none⟩, 2, [46, 97]⟩ w' ⟨Nat.le_refl _, (by obtain ⟨o, ho, hA⟩ := hw'.get .here; exact Reads.block ho (Frz.all _ hA))⟩ (show 2 ≤ 1000000 by decide)) (.nil _) (by simp) ?_
  intro x hx w1 hw1 okx
  rw [show Sl8.l ⟨some ⟨b1, 0, none⟩, 2, [46, 97]⟩ = [46, 97] from rfl, st_is] at hx
  repeat (first | refine JL.q (by first | (apply OQ.b2s (s := x); exact Try.underlying22; exact Try.underlying5; exact Try.underlying9; exact rfl; exact (fun w' hw' => okx.holds hw' rfl)) | (apply OQ.eqS_t (r := [46, 46, 97, 13, 10, 46, 13, 10]); exact rfl; exact rfl; exact hx) | (apply OQ.move; exact rfl) | (apply OQ.assign; exact rfl) | (apply OQ.len; exact rfl; exact rfl) | (apply OQ.addN; exact rfl; exact rfl; exact (by (try simp only []); omega)) | (apply OQ.lssN; exact rfl; exact rfl) | (apply OQ.leqN; exact rfl; exact rfl)) rfl ?_ | refine JC.seq ?_ | refine JC.region ?_ | refine JC.block ?_ | refine JC.skip ?_ | refine JC.exit ?_ | refine JL.nil ?_ | refine JE.next ?_ | refine JE.blk_normal ?_ | refine JE.then_exit ?_ | refine JE.blk_hit ?_ | refine JE.blk_miss rfl ?_ | refine JE.then_ret ?_ | refine JE.blk_ret ?_ | refine JC.label ?_ | refine JL.gon rfl rfl ?_ | refine JL.gskip rfl rfl rfl rfl ?_ | refine JL.gskipU rfl rfl rfl rfl ?_)
  refine JL.litL (xs := [.const (U8 97), .const (U8 10), .const (U8 98), .const (U8 13)]) (vs := [U8 97, U8 10, U8 98, U8 13]) Try.underlying22 u8e rfl rfl rfl rfl (by intro v hv; simp only [List.mem_cons, List.not_mem_nil, or_false] at hv; rcases hv with rfl | rfl | rfl | rfl <;> rfl) rfl (by decide) (by decide) rfl fun b2 _ => ?_
  refine JL.gon rfl rfl ?_
  refine JL.mark (r := [U8 97, U8 10, U8 98, U8 13]) (te := 5) Try.underlying22 Try.underlying5 rfl .here rfl ?_
  refine JL.gon rfl rfl ?_
  refine JL.callb (vs := [Sl8.v ⟨some ⟨b2, 0, none⟩, 4, [97, 10, 98, 13]⟩]) (S' := []) [] goes_awhole rfl rfl (fun w' hw' => awhole_any ⟨some ⟨b2, 0, none⟩, 4, [97, 10, 98, 13]⟩ w' ⟨Nat.le_refl _, (by obtain ⟨o, ho, hA⟩ := hw'.get .here; exact Reads.block ho (Frz.all _ hA))⟩ (show 4 ≤ 1000000 by decide)) (.nil _) (by simp) ?_
  intro y hy w2 hw2 oky
  rw [show Sl8.l ⟨some ⟨b2, 0, none⟩, 4, [97, 10, 98, 13]⟩ = [97, 10, 98, 13] from rfl, wh_is] at hy
  repeat (first | refine JL.q (by first | (apply OQ.b2s (s := y); exact Try.underlying22; exact Try.underlying5; exact Try.underlying9; exact rfl; exact (fun w' hw' => oky.holds hw' rfl)) | (apply OQ.eqS_t (r := [97, 13, 10, 98, 13, 10]); exact rfl; exact rfl; exact hy) | (apply OQ.pick_t; exact rfl; exact rfl) | (apply OQ.move; exact rfl) | (apply OQ.assign; exact rfl) | (apply OQ.len; exact rfl; exact rfl) | (apply OQ.addN; exact rfl; exact rfl; exact (by (try simp only []); omega)) | (apply OQ.lssN; exact rfl; exact rfl) | (apply OQ.leqN; exact rfl; exact rfl)) rfl ?_ | refine JC.seq ?_ | refine JC.region ?_ | refine JC.block ?_ | refine JC.skip ?_ | refine JC.exit ?_ | refine JL.nil ?_ | refine JE.next ?_ | refine JE.blk_normal ?_ | refine JE.then_exit ?_ | refine JE.blk_hit ?_ | refine JE.blk_miss rfl ?_ | refine JE.then_ret ?_ | refine JE.blk_ret ?_ | refine JC.label ?_ | refine JL.gon rfl rfl ?_ | refine JL.gskip rfl rfl rfl rfl ?_ | refine JL.gskipU rfl rfl rfl rfl ?_)
  refine JC.ret (JE.ret1 rfl (RV.tmp rfl) ?_)
  exact fun w' hw => ⟨rfl, hw1.chg.trans (hw2.chg.trans hw.chg)⟩

end Go.Proofs.Ytnopllkpfdgkkaa
