/-
  Of no statement by itself: what kdf.Extract, kdf.Step and the reference's Extract and Step give.
  Conditions: each theorem's own.
-/
import Derived.Test.YtheemnpfnefbmaaDoorAid
import Derived.Test.YtheemnpfnefbmaaDoorSlk
namespace Go.Proofs.YtheemnpfnefbmaaDoor
open Sl Sha

def extr (salt s : List B) : List B := hmac salt s
theorem filled_none (k : List B) (h : k.length = 0) : filled (List.replicate 32 0) = filled k := by
  have := filled_short k 32 (by omega)
  rw [List.eq_nil_of_length_eq_zero h] at this ⊢
  simpa using this
theorem goes_extract : Goes Tryd.prog 46 := ⟨_, Tryd.func46, rfl, by kernel_rfl⟩
theorem goes_rextract : Goes Tryd.prog 43 := ⟨_, Tryd.func43, rfl, by kernel_rfl⟩
theorem rep32 : List.replicate (32 * 1) (Value.int .u8 0) = (List.replicate 32 (0 : B)).map U8 := rfl

set_option maxHeartbeats 8000000 in
theorem extract_any (k s : Sl8) (w : World) (hG : GOk w) (hk : k.ok w) (hs : s.ok w) (hkl : k.l.length < 4611686018427387904) (hsl : s.l.length < 4611686018427387000) :
    Calls Tryd.prog 46 [k.v, s.v].toArray w fun e w' => e = .returned (.agg ((hmac k.l s.l).map U8).toArray) ∧ Ext w w' := by
  refine enter (n := 13) Tryd.func46 rfl rfl rfl (Holds.start w []) ?_
  repeat (first | refine JL.q (by first | (apply OQ.move; exact rfl) | (apply OQ.assign; exact rfl) | (apply OQ.len; exact rfl; exact rfl) | (apply OQ.eqN; exact rfl; exact rfl)) rfl ?_ | refine JC.seq ?_ | refine JC.region ?_ | refine JC.block ?_ | refine JC.skip ?_ | refine JC.exit ?_ | refine JL.nil ?_ | refine JE.next ?_ | refine JE.blk_normal ?_ | refine JE.then_exit ?_ | refine JE.blk_hit ?_ | refine JE.blk_miss rfl ?_ | refine JE.then_ret ?_ | refine JE.blk_ret ?_ | refine JC.label ?_ | refine JL.gon rfl rfl ?_ | refine JL.gskip rfl rfl rfl rfl ?_)
  refine JL.alloc zc25 rfl fun b4 _ => ?_
  repeat (first | refine JL.q (by first | (apply OQ.move; exact rfl) | (apply OQ.assign; exact rfl) | (apply OQ.len; exact rfl; exact rfl) | (apply OQ.eqN; exact rfl; exact rfl)) rfl ?_ | refine JC.seq ?_ | refine JC.region ?_ | refine JC.block ?_ | refine JC.skip ?_ | refine JC.exit ?_ | refine JL.nil ?_ | refine JE.next ?_ | refine JE.blk_normal ?_ | refine JE.then_exit ?_ | refine JE.blk_hit ?_ | refine JE.blk_miss rfl ?_ | refine JE.then_ret ?_ | refine JE.blk_ret ?_ | refine JC.label ?_ | refine JL.gon rfl rfl ?_ | refine JL.gskip rfl rfl rfl rfl ?_)
  have hH : ∀ {M : List Ent} {b : Nat} (k : Sl8) w', Holds w [] M w' → Has M b (Row 33 [s.v]) true → k.ok w' → k.l.length < 4611686018427387904 → Calls Tryd.prog 34 [k.v, .slice (some ⟨b, 0, none⟩) 1 1].toArray w' fun e w'' => e = .returned (.agg ((hmac k.l s.l).map U8).toArray) ∧ Ext w' w'' := fun {M b} k w' hw' hM hk hkl => by
    obtain ⟨o, ho, hA⟩ := hw'.get hM
    have := hmac_any k (some ⟨b, 0, none⟩) 1 [s] w' (hG.chg hw'.chg (by simp)) hk (Reads.block ho (Row.all _ hA)) (by simpa using hs.holds hw' rfl) hkl (by simp) (by simp [total]; omega)
    simpa using this
  refine JC.cond rfl (fun h => ?_) (fun h => ?_)
  · have h : k.l.length = 0 := by simpa using h
    repeat (first | refine JL.q (by first | (apply OQ.move; exact rfl) | (apply OQ.assign; exact rfl) | (apply OQ.len; exact rfl; exact rfl) | (apply OQ.eqN; exact rfl; exact rfl)) rfl ?_ | refine JC.seq ?_ | refine JC.region ?_ | refine JC.block ?_ | refine JC.skip ?_ | refine JC.exit ?_ | refine JL.nil ?_ | refine JE.next ?_ | refine JE.blk_normal ?_ | refine JE.then_exit ?_ | refine JE.blk_hit ?_ | refine JE.blk_miss rfl ?_ | refine JE.then_ret ?_ | refine JE.blk_ret ?_ | refine JC.label ?_ | refine JL.gon rfl rfl ?_ | refine JL.gskip rfl rfl rfl rfl ?_)
    refine JL.make Tryd.underlying33 e5 rfl (by decide) (y := .const (N 32)) (c := 32) rfl rfl (by decide) (by decide) rfl fun b8 _ => ?_
    repeat (first | refine JL.q (by first | (apply OQ.move; exact rfl) | (apply OQ.assign; exact rfl) | (apply OQ.len; exact rfl; exact rfl) | (apply OQ.eqN; exact rfl; exact rfl)) rfl ?_ | refine JC.seq ?_ | refine JC.region ?_ | refine JC.block ?_ | refine JC.skip ?_ | refine JC.exit ?_ | refine JL.nil ?_ | refine JE.next ?_ | refine JE.blk_normal ?_ | refine JE.then_exit ?_ | refine JE.blk_hit ?_ | refine JE.blk_miss rfl ?_ | refine JE.then_ret ?_ | refine JE.blk_ret ?_ | refine JC.label ?_ | refine JL.gon rfl rfl ?_ | refine JL.gskip rfl rfl rfl rfl ?_)
    refine JL.lit1 Tryd.underlying73 e22 rfl rfl rfl rfl fun b11 _ => ?_
    have hf := hmac_filled s.l (filled_none k.l h)
    rw [rep32]
    repeat (first | refine JL.q (by first | (apply OQ.callx; exact goes_hmac; exact rfl; exact (fun w' hw' => hH ⟨some ⟨b8, 0, none⟩, 32, List.replicate 32 0⟩ w' hw' .here (by obtain ⟨o, ho, hA⟩ := hw'.get (.there .here); exact ⟨Nat.le_of_eq (by simp), Reads.block ho (Row.all _ hA)⟩) (by simp))) | (apply OQ.move; exact rfl) | (apply OQ.assign; exact rfl) | (apply OQ.len; exact rfl; exact rfl) | (apply OQ.eqN; exact rfl; exact rfl)) rfl ?_ | refine JC.seq ?_ | refine JC.region ?_ | refine JC.block ?_ | refine JC.skip ?_ | refine JC.exit ?_ | refine JL.nil ?_ | refine JE.next ?_ | refine JE.blk_normal ?_ | refine JE.then_exit ?_ | refine JE.blk_hit ?_ | refine JE.blk_miss rfl ?_ | refine JE.then_ret ?_ | refine JE.blk_ret ?_ | refine JC.label ?_ | refine JL.gon rfl rfl ?_ | refine JL.gskip rfl rfl rfl rfl ?_)
    rw [hf]
    refine JL.store_all s25 rfl rfl (shal _) (all8 _) (.there (.there .here)) (by simp) ?_
    repeat (first | refine JL.q (by first | (apply OQ.move; exact rfl) | (apply OQ.assign; exact rfl) | (apply OQ.len; exact rfl; exact rfl) | (apply OQ.eqN; exact rfl; exact rfl)) rfl ?_ | refine JC.seq ?_ | refine JC.region ?_ | refine JC.block ?_ | refine JC.skip ?_ | refine JC.exit ?_ | refine JL.nil ?_ | refine JE.next ?_ | refine JE.blk_normal ?_ | refine JE.then_exit ?_ | refine JE.blk_hit ?_ | refine JE.blk_miss rfl ?_ | refine JE.then_ret ?_ | refine JE.blk_ret ?_ | refine JC.label ?_ | refine JL.gon rfl rfl ?_ | refine JL.gskip rfl rfl rfl rfl ?_)
    refine JC.ret (JE.ret1 rfl (RV.cell_agg a25 s25 rfl (by repeat (first | exact Has.here | apply Has.there)) (shal _) Row.all) ?_)
    exact fun w' hw => ⟨rfl, hw.chg⟩
  · repeat (first | refine JL.q (by first | (apply OQ.move; exact rfl) | (apply OQ.assign; exact rfl) | (apply OQ.len; exact rfl; exact rfl) | (apply OQ.eqN; exact rfl; exact rfl)) rfl ?_ | refine JC.seq ?_ | refine JC.region ?_ | refine JC.block ?_ | refine JC.skip ?_ | refine JC.exit ?_ | refine JL.nil ?_ | refine JE.next ?_ | refine JE.blk_normal ?_ | refine JE.then_exit ?_ | refine JE.blk_hit ?_ | refine JE.blk_miss rfl ?_ | refine JE.then_ret ?_ | refine JE.blk_ret ?_ | refine JC.label ?_ | refine JL.gon rfl rfl ?_ | refine JL.gskip rfl rfl rfl rfl ?_)
    refine JL.lit1 Tryd.underlying73 e22 rfl rfl rfl rfl fun b11 _ => ?_
    repeat (first | refine JL.q (by first | (apply OQ.callx; exact goes_hmac; exact rfl; exact (fun w' hw' => hH k w' hw' .here (hk.holds hw' rfl) hkl)) | (apply OQ.move; exact rfl) | (apply OQ.assign; exact rfl) | (apply OQ.len; exact rfl; exact rfl) | (apply OQ.eqN; exact rfl; exact rfl)) rfl ?_ | refine JC.seq ?_ | refine JC.region ?_ | refine JC.block ?_ | refine JC.skip ?_ | refine JC.exit ?_ | refine JL.nil ?_ | refine JE.next ?_ | refine JE.blk_normal ?_ | refine JE.then_exit ?_ | refine JE.blk_hit ?_ | refine JE.blk_miss rfl ?_ | refine JE.then_ret ?_ | refine JE.blk_ret ?_ | refine JC.label ?_ | refine JL.gon rfl rfl ?_ | refine JL.gskip rfl rfl rfl rfl ?_)
    refine JL.store_all s25 rfl rfl (shal _) (all8 _) (.there .here) (by simp) ?_
    repeat (first | refine JL.q (by first | (apply OQ.move; exact rfl) | (apply OQ.assign; exact rfl) | (apply OQ.len; exact rfl; exact rfl) | (apply OQ.eqN; exact rfl; exact rfl)) rfl ?_ | refine JC.seq ?_ | refine JC.region ?_ | refine JC.block ?_ | refine JC.skip ?_ | refine JC.exit ?_ | refine JL.nil ?_ | refine JE.next ?_ | refine JE.blk_normal ?_ | refine JE.then_exit ?_ | refine JE.blk_hit ?_ | refine JE.blk_miss rfl ?_ | refine JE.then_ret ?_ | refine JE.blk_ret ?_ | refine JC.label ?_ | refine JL.gon rfl rfl ?_ | refine JL.gskip rfl rfl rfl rfl ?_)
    refine JC.ret (JE.ret1 rfl (RV.cell_agg a25 s25 rfl (by repeat (first | exact Has.here | apply Has.there)) (shal _) Row.all) ?_)
    exact fun w' hw => ⟨rfl, hw.chg⟩

set_option maxHeartbeats 8000000 in
theorem rextract_any (k s : Sl8) (w : World) (hk : k.ok w) (hs : s.ok w) (hkl : k.l.length < 35184372088000) (hsl : s.l.length < 35184372088000) :
    Calls Tryd.prog 43 [k.v, s.v].toArray w fun e w' => e = .returned (.agg ((hmac k.l s.l).map U8).toArray) ∧ Ext w w' := by
  refine enter (n := 14) Tryd.func43 rfl rfl rfl (Holds.start w []) ?_
  repeat (first | refine JL.q (by first | (apply OQ.move; exact rfl) | (apply OQ.assign; exact rfl) | (apply OQ.len; exact rfl; exact rfl) | (apply OQ.eqN; exact rfl; exact rfl)) rfl ?_ | refine JC.seq ?_ | refine JC.region ?_ | refine JC.block ?_ | refine JC.skip ?_ | refine JC.exit ?_ | refine JL.nil ?_ | refine JE.next ?_ | refine JE.blk_normal ?_ | refine JE.then_exit ?_ | refine JE.blk_hit ?_ | refine JE.blk_miss rfl ?_ | refine JE.then_ret ?_ | refine JE.blk_ret ?_ | refine JC.label ?_ | refine JL.gon rfl rfl ?_ | refine JL.gskip rfl rfl rfl rfl ?_)
  refine JL.alloc zc25 rfl fun b4 _ => ?_
  repeat (first | refine JL.q (by first | (apply OQ.move; exact rfl) | (apply OQ.assign; exact rfl) | (apply OQ.len; exact rfl; exact rfl) | (apply OQ.eqN; exact rfl; exact rfl)) rfl ?_ | refine JC.seq ?_ | refine JC.region ?_ | refine JC.block ?_ | refine JC.skip ?_ | refine JC.exit ?_ | refine JL.nil ?_ | refine JE.next ?_ | refine JE.blk_normal ?_ | refine JE.then_exit ?_ | refine JE.blk_hit ?_ | refine JE.blk_miss rfl ?_ | refine JE.then_ret ?_ | refine JE.blk_ret ?_ | refine JC.label ?_ | refine JL.gon rfl rfl ?_ | refine JL.gskip rfl rfl rfl rfl ?_)
  refine JC.cond rfl (fun h => ?_) (fun h => ?_)
  · have h : k.l.length = 0 := by simpa using h
    repeat (first | refine JL.q (by first | (apply OQ.move; exact rfl) | (apply OQ.assign; exact rfl) | (apply OQ.len; exact rfl; exact rfl) | (apply OQ.eqN; exact rfl; exact rfl)) rfl ?_ | refine JC.seq ?_ | refine JC.region ?_ | refine JC.block ?_ | refine JC.skip ?_ | refine JC.exit ?_ | refine JL.nil ?_ | refine JE.next ?_ | refine JE.blk_normal ?_ | refine JE.then_exit ?_ | refine JE.blk_hit ?_ | refine JE.blk_miss rfl ?_ | refine JE.then_ret ?_ | refine JE.blk_ret ?_ | refine JC.label ?_ | refine JL.gon rfl rfl ?_ | refine JL.gskip rfl rfl rfl rfl ?_)
    refine JL.make Tryd.underlying33 e5 rfl (by decide) (y := .const (N 32)) (c := 32) rfl rfl (by decide) (by decide) rfl fun b8 _ => ?_
    have hf := hmac_filled s.l (filled_none k.l h)
    rw [rep32]
    repeat (first | refine JL.q (by first | (apply OQ.callx; exact goes_rhmac; exact rfl; exact (fun w' hw' => rhmac_any ⟨some ⟨b8, 0, none⟩, 32, List.replicate 32 0⟩ s w' (by obtain ⟨o, ho, hA⟩ := hw'.get .here; exact ⟨Nat.le_of_eq (by simp), Reads.block ho (Row.all _ hA)⟩) (hs.holds hw' rfl) (by simp) hsl)) | (apply OQ.move; exact rfl) | (apply OQ.assign; exact rfl) | (apply OQ.len; exact rfl; exact rfl) | (apply OQ.eqN; exact rfl; exact rfl)) rfl ?_ | refine JC.seq ?_ | refine JC.region ?_ | refine JC.block ?_ | refine JC.skip ?_ | refine JC.exit ?_ | refine JL.nil ?_ | refine JE.next ?_ | refine JE.blk_normal ?_ | refine JE.then_exit ?_ | refine JE.blk_hit ?_ | refine JE.blk_miss rfl ?_ | refine JE.then_ret ?_ | refine JE.blk_ret ?_ | refine JC.label ?_ | refine JL.gon rfl rfl ?_ | refine JL.gskip rfl rfl rfl rfl ?_)
    rw [hf]
    refine JL.store_all s25 rfl rfl (shal _) (all8 _) (.there .here) (by simp) ?_
    repeat (first | refine JL.q (by first | (apply OQ.move; exact rfl) | (apply OQ.assign; exact rfl) | (apply OQ.len; exact rfl; exact rfl) | (apply OQ.eqN; exact rfl; exact rfl)) rfl ?_ | refine JC.seq ?_ | refine JC.region ?_ | refine JC.block ?_ | refine JC.skip ?_ | refine JC.exit ?_ | refine JL.nil ?_ | refine JE.next ?_ | refine JE.blk_normal ?_ | refine JE.then_exit ?_ | refine JE.blk_hit ?_ | refine JE.blk_miss rfl ?_ | refine JE.then_ret ?_ | refine JE.blk_ret ?_ | refine JC.label ?_ | refine JL.gon rfl rfl ?_ | refine JL.gskip rfl rfl rfl rfl ?_)
    refine JC.ret (JE.then_ret (JE.ret1 rfl (RV.cell_agg a25 s25 rfl (by repeat (first | exact Has.here | apply Has.there)) (shal _) Row.all) ?_))
    exact fun w' hw => ⟨rfl, hw.chg⟩
  · repeat (first | refine JL.q (by first | (apply OQ.callx; exact goes_rhmac; exact rfl; exact (fun w' hw' => rhmac_any k s w' (hk.holds hw' rfl) (hs.holds hw' rfl) hkl hsl)) | (apply OQ.move; exact rfl) | (apply OQ.assign; exact rfl) | (apply OQ.len; exact rfl; exact rfl) | (apply OQ.eqN; exact rfl; exact rfl)) rfl ?_ | refine JC.seq ?_ | refine JC.region ?_ | refine JC.block ?_ | refine JC.skip ?_ | refine JC.exit ?_ | refine JL.nil ?_ | refine JE.next ?_ | refine JE.blk_normal ?_ | refine JE.then_exit ?_ | refine JE.blk_hit ?_ | refine JE.blk_miss rfl ?_ | refine JE.then_ret ?_ | refine JE.blk_ret ?_ | refine JC.label ?_ | refine JL.gon rfl rfl ?_ | refine JL.gskip rfl rfl rfl rfl ?_)
    refine JL.store_all s25 rfl rfl (shal _) (all8 _) .here (by simp) ?_
    repeat (first | refine JL.q (by first | (apply OQ.move; exact rfl) | (apply OQ.assign; exact rfl) | (apply OQ.len; exact rfl; exact rfl) | (apply OQ.eqN; exact rfl; exact rfl)) rfl ?_ | refine JC.seq ?_ | refine JC.region ?_ | refine JC.block ?_ | refine JC.skip ?_ | refine JC.exit ?_ | refine JL.nil ?_ | refine JE.next ?_ | refine JE.blk_normal ?_ | refine JE.then_exit ?_ | refine JE.blk_hit ?_ | refine JE.blk_miss rfl ?_ | refine JE.then_ret ?_ | refine JE.blk_ret ?_ | refine JC.label ?_ | refine JL.gon rfl rfl ?_ | refine JL.gskip rfl rfl rfl rfl ?_)
    refine JC.ret (JE.ret1 rfl (RV.cell_agg a25 s25 rfl (by repeat (first | exact Has.here | apply Has.there)) (shal _) Row.all) ?_)
    exact fun w' hw => ⟨rfl, hw.chg⟩
end Go.Proofs.YtheemnpfnefbmaaDoor
