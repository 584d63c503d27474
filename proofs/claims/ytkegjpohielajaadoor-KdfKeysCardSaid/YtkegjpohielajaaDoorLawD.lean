/-
  Of no statement by itself: what despatchlaw01.HashKeys answers.
  Conditions: the theorem's own.
-/
import Derived.Test.YtkegjpohielajaaDoorLawB
import Derived.Test.YtkegjpohielajaaDoorLawC
import Derived.Test.YtkegjpohielajaaDoorSlh
namespace Go.Proofs.YtkegjpohielajaaDoor
open Sl Sha

theorem filled_long (k : List B) (h : 64 < k.length) : filled (sha k) = filled k := by
  unfold filled
  rw [if_pos h, if_neg (by rw [sha_length]; decide), sha_length]
theorem filled_short (k : List B) (z : Nat) (h : k.length + z ≤ 64) : filled (k ++ List.replicate z 0) = filled k := by
  unfold filled
  rw [if_neg (by simp; omega), if_neg (by omega), List.append_assoc, List.length_append, List.length_replicate]
  congr 1
  rw [List.replicate_append_replicate]
  congr 1
  omega
theorem hmac_filled {k k' : List B} (s : List B) (h : filled k' = filled k) : hmac k' s = hmac k s := by unfold hmac; rw [h]

def needA : Nat → List (Nat × Nat)
  | 3 => [(2, 31)]
  | 4 => [(1, 30), (3, 32)]
  | 5 => [(0, 29), (4, 33)]
  | 6 => [(5, 34)]
  | _ => []
def inpA : Nat → List Nat
  | 0 => [7]
  | 4 => [3, 7]
  | _ => []
def needB : Nat → List (Nat × Nat)
  | 3 => [(1, 43), (2, 44)]
  | 5 => [(3, 45), (4, 46)]
  | 7 => [(6, 48)]
  | 8 => [(5, 47), (7, 49)]
  | 9 => [(0, 42), (8, 50)]
  | 10 => [(9, 51)]
  | _ => []
def inpB : Nat → List Nat
  | 0 => [11]
  | 3 => [1]
  | 5 => [3]
  | 8 => [5, 7]
  | _ => []
def eatB : Nat → List Nat
  | 3 => [1]
  | 5 => [3]
  | _ => []

set_option maxHeartbeats 16000000 in
theorem law_keys (k s : Sl8) (more : Int) (w : World) (hG : GOk w) (hk : k.ok w) (hs : s.ok w) (_ : -9223372036854775808 ≤ more ∧ more ≤ 9223372036854775807) :
    Calls Tryd.prog 5 [k.v, s.v, .int .i64 more].toArray w fun e w' => e = .returned (.bool true) ∧ Ext w w' := by
  refine enter (n := 52) Tryd.func5 rfl rfl rfl (Holds.start w []) ?_
  repeat (first | refine JL.q (by first | (apply OQ.callx; exact goes_speaks; exact rfl; exact (fun w' hw' => speaks_any w' (hG.chg hw'.chg (by simp)))) | (apply OQ.not; exact rfl) | (apply OQ.move; exact rfl) | (apply OQ.assign; exact rfl) | (apply OQ.len; exact rfl; exact rfl) | (apply OQ.addN; exact rfl; exact rfl; exact (by (try simp only []); omega)) | (apply OQ.subN; exact rfl; exact rfl; exact (by (try simp only []); omega); exact (by (try simp only []); omega)) | (apply OQ.remN; exact rfl; exact rfl; exact (by (try simp only []); omega)) | (apply OQ.gtrN; exact rfl; exact rfl)) rfl ?_ | refine JC.seq ?_ | refine JC.region ?_ | refine JC.block ?_ | refine JC.skip ?_ | refine JC.exit ?_ | refine JL.nil ?_ | refine JE.next ?_ | refine JE.blk_normal ?_ | refine JE.then_exit ?_ | refine JE.blk_hit ?_ | refine JE.blk_miss rfl ?_ | refine JE.then_ret ?_ | refine JE.blk_ret ?_ | refine JC.label ?_ | refine JL.gon rfl rfl ?_ | refine JL.gskip rfl rfl rfl rfl ?_)
  refine JC.cond_false rfl rfl ?_
  by_cases h1 : 300 < k.l.length
  · repeat (first | refine JL.q (by first | (apply OQ.gtrN_t; exact rfl; exact rfl; exact h1) | (apply OQ.pick_t; exact rfl; exact rfl) | (apply OQ.move; exact rfl) | (apply OQ.assign; exact rfl) | (apply OQ.len; exact rfl; exact rfl) | (apply OQ.addN; exact rfl; exact rfl; exact (by (try simp only []); omega)) | (apply OQ.subN; exact rfl; exact rfl; exact (by (try simp only []); omega); exact (by (try simp only []); omega)) | (apply OQ.remN; exact rfl; exact rfl; exact (by (try simp only []); omega)) | (apply OQ.gtrN; exact rfl; exact rfl)) rfl ?_ | refine JC.seq ?_ | refine JC.region ?_ | refine JC.block ?_ | refine JC.skip ?_ | refine JC.exit ?_ | refine JL.nil ?_ | refine JE.next ?_ | refine JE.blk_normal ?_ | refine JE.then_exit ?_ | refine JE.blk_hit ?_ | refine JE.blk_miss rfl ?_ | refine JE.then_ret ?_ | refine JE.blk_ret ?_ | refine JC.label ?_ | refine JL.gon rfl rfl ?_ | refine JL.gskip rfl rfl rfl rfl ?_)
    refine JC.cond_true rfl rfl ?_
    repeat (first | refine JL.q (by first | (apply OQ.move; exact rfl) | (apply OQ.assign; exact rfl) | (apply OQ.len; exact rfl; exact rfl) | (apply OQ.addN; exact rfl; exact rfl; exact (by (try simp only []); omega)) | (apply OQ.subN; exact rfl; exact rfl; exact (by (try simp only []); omega); exact (by (try simp only []); omega)) | (apply OQ.remN; exact rfl; exact rfl; exact (by (try simp only []); omega)) | (apply OQ.gtrN; exact rfl; exact rfl)) rfl ?_ | refine JC.seq ?_ | refine JC.region ?_ | refine JC.block ?_ | refine JC.skip ?_ | refine JC.exit ?_ | refine JL.nil ?_ | refine JE.next ?_ | refine JE.blk_normal ?_ | refine JE.then_exit ?_ | refine JE.blk_hit ?_ | refine JE.blk_miss rfl ?_ | refine JE.then_ret ?_ | refine JE.blk_ret ?_ | refine JC.label ?_ | refine JL.gon rfl rfl ?_ | refine JL.gskip rfl rfl rfl rfl ?_)
    refine JC.ret ?_
    repeat (first | refine JL.q (by first | (apply OQ.move; exact rfl) | (apply OQ.assign; exact rfl) | (apply OQ.len; exact rfl; exact rfl) | (apply OQ.addN; exact rfl; exact rfl; exact (by (try simp only []); omega)) | (apply OQ.subN; exact rfl; exact rfl; exact (by (try simp only []); omega); exact (by (try simp only []); omega)) | (apply OQ.remN; exact rfl; exact rfl; exact (by (try simp only []); omega)) | (apply OQ.gtrN; exact rfl; exact rfl)) rfl ?_ | refine JC.seq ?_ | refine JC.region ?_ | refine JC.block ?_ | refine JC.skip ?_ | refine JC.exit ?_ | refine JL.nil ?_ | refine JE.next ?_ | refine JE.blk_normal ?_ | refine JE.then_exit ?_ | refine JE.blk_hit ?_ | refine JE.blk_miss rfl ?_ | refine JE.then_ret ?_ | refine JE.blk_ret ?_ | refine JC.label ?_ | refine JL.gon rfl rfl ?_ | refine JL.gskip rfl rfl rfl rfl ?_)
    exact JE.ret1 rfl (RV.tmp rfl) fun w' hw => ⟨rfl, hw.chg⟩
  by_cases h2 : 1000 < s.l.length
  · repeat (first | refine JL.q (by first | (apply OQ.gtrN_f; exact rfl; exact rfl; exact h1) | (apply OQ.gtrN_t; exact rfl; exact rfl; exact h2) | (apply OQ.pick_f; exact rfl; exact rfl) | (apply OQ.move; exact rfl) | (apply OQ.assign; exact rfl) | (apply OQ.len; exact rfl; exact rfl) | (apply OQ.addN; exact rfl; exact rfl; exact (by (try simp only []); omega)) | (apply OQ.subN; exact rfl; exact rfl; exact (by (try simp only []); omega); exact (by (try simp only []); omega)) | (apply OQ.remN; exact rfl; exact rfl; exact (by (try simp only []); omega)) | (apply OQ.gtrN; exact rfl; exact rfl)) rfl ?_ | refine JC.seq ?_ | refine JC.region ?_ | refine JC.block ?_ | refine JC.skip ?_ | refine JC.exit ?_ | refine JL.nil ?_ | refine JE.next ?_ | refine JE.blk_normal ?_ | refine JE.then_exit ?_ | refine JE.blk_hit ?_ | refine JE.blk_miss rfl ?_ | refine JE.then_ret ?_ | refine JE.blk_ret ?_ | refine JC.label ?_ | refine JL.gon rfl rfl ?_ | refine JL.gskip rfl rfl rfl rfl ?_)
    refine JC.cond_true rfl rfl ?_
    repeat (first | refine JL.q (by first | (apply OQ.move; exact rfl) | (apply OQ.assign; exact rfl) | (apply OQ.len; exact rfl; exact rfl) | (apply OQ.addN; exact rfl; exact rfl; exact (by (try simp only []); omega)) | (apply OQ.subN; exact rfl; exact rfl; exact (by (try simp only []); omega); exact (by (try simp only []); omega)) | (apply OQ.remN; exact rfl; exact rfl; exact (by (try simp only []); omega)) | (apply OQ.gtrN; exact rfl; exact rfl)) rfl ?_ | refine JC.seq ?_ | refine JC.region ?_ | refine JC.block ?_ | refine JC.skip ?_ | refine JC.exit ?_ | refine JL.nil ?_ | refine JE.next ?_ | refine JE.blk_normal ?_ | refine JE.then_exit ?_ | refine JE.blk_hit ?_ | refine JE.blk_miss rfl ?_ | refine JE.then_ret ?_ | refine JE.blk_ret ?_ | refine JC.label ?_ | refine JL.gon rfl rfl ?_ | refine JL.gskip rfl rfl rfl rfl ?_)
    refine JC.ret ?_
    repeat (first | refine JL.q (by first | (apply OQ.move; exact rfl) | (apply OQ.assign; exact rfl) | (apply OQ.len; exact rfl; exact rfl) | (apply OQ.addN; exact rfl; exact rfl; exact (by (try simp only []); omega)) | (apply OQ.subN; exact rfl; exact rfl; exact (by (try simp only []); omega); exact (by (try simp only []); omega)) | (apply OQ.remN; exact rfl; exact rfl; exact (by (try simp only []); omega)) | (apply OQ.gtrN; exact rfl; exact rfl)) rfl ?_ | refine JC.seq ?_ | refine JC.region ?_ | refine JC.block ?_ | refine JC.skip ?_ | refine JC.exit ?_ | refine JL.nil ?_ | refine JE.next ?_ | refine JE.blk_normal ?_ | refine JE.then_exit ?_ | refine JE.blk_hit ?_ | refine JE.blk_miss rfl ?_ | refine JE.then_ret ?_ | refine JE.blk_ret ?_ | refine JC.label ?_ | refine JL.gon rfl rfl ?_ | refine JL.gskip rfl rfl rfl rfl ?_)
    exact JE.ret1 rfl (RV.tmp rfl) fun w' hw => ⟨rfl, hw.chg⟩
  repeat (first | refine JL.q (by first | (apply OQ.gtrN_f; exact rfl; exact rfl; exact h1) | (apply OQ.gtrN_f; exact rfl; exact rfl; exact h2) | (apply OQ.pick_f; exact rfl; exact rfl) | (apply OQ.move; exact rfl) | (apply OQ.assign; exact rfl) | (apply OQ.len; exact rfl; exact rfl) | (apply OQ.addN; exact rfl; exact rfl; exact (by (try simp only []); omega)) | (apply OQ.subN; exact rfl; exact rfl; exact (by (try simp only []); omega); exact (by (try simp only []); omega)) | (apply OQ.remN; exact rfl; exact rfl; exact (by (try simp only []); omega)) | (apply OQ.gtrN; exact rfl; exact rfl)) rfl ?_ | refine JC.seq ?_ | refine JC.region ?_ | refine JC.block ?_ | refine JC.skip ?_ | refine JC.exit ?_ | refine JL.nil ?_ | refine JE.next ?_ | refine JE.blk_normal ?_ | refine JE.then_exit ?_ | refine JE.blk_hit ?_ | refine JE.blk_miss rfl ?_ | refine JE.then_ret ?_ | refine JE.blk_ret ?_ | refine JC.label ?_ | refine JL.gon rfl rfl ?_ | refine JL.gskip rfl rfl rfl rfl ?_)
  refine JC.cond_false rfl rfl ?_
  repeat (first | refine JL.q (by first | (apply OQ.callx; exact goes_hsum; exact rfl; exact (fun w' hw' => hsum_any k w' (hG.chg hw'.chg (by simp)) (hk.holds hw' rfl) (by omega))) | (apply OQ.move; exact rfl) | (apply OQ.assign; exact rfl) | (apply OQ.len; exact rfl; exact rfl) | (apply OQ.addN; exact rfl; exact rfl; exact (by (try simp only []); omega)) | (apply OQ.subN; exact rfl; exact rfl; exact (by (try simp only []); omega); exact (by (try simp only []); omega)) | (apply OQ.remN; exact rfl; exact rfl; exact (by (try simp only []); omega)) | (apply OQ.gtrN; exact rfl; exact rfl)) rfl ?_ | refine JC.seq ?_ | refine JC.region ?_ | refine JC.block ?_ | refine JC.skip ?_ | refine JC.exit ?_ | refine JL.nil ?_ | refine JE.next ?_ | refine JE.blk_normal ?_ | refine JE.then_exit ?_ | refine JE.blk_hit ?_ | refine JE.blk_miss rfl ?_ | refine JE.then_ret ?_ | refine JE.blk_ret ?_ | refine JC.label ?_ | refine JL.gon rfl rfl ?_ | refine JL.gskip rfl rfl rfl rfl ?_)
  refine JL.alloc zc25 rfl fun b7 _ => ?_
  refine JL.store_all s25 rfl rfl (shal _) (all8 _) .here (by simp) ?_
  repeat (first | refine JL.q (by first | (apply OQ.move; exact rfl) | (apply OQ.assign; exact rfl) | (apply OQ.len; exact rfl; exact rfl) | (apply OQ.addN; exact rfl; exact rfl; exact (by (try simp only []); omega)) | (apply OQ.subN; exact rfl; exact rfl; exact (by (try simp only []); omega); exact (by (try simp only []); omega)) | (apply OQ.remN; exact rfl; exact rfl; exact (by (try simp only []); omega)) | (apply OQ.gtrN; exact rfl; exact rfl)) rfl ?_ | refine JC.seq ?_ | refine JC.region ?_ | refine JC.block ?_ | refine JC.skip ?_ | refine JC.exit ?_ | refine JL.nil ?_ | refine JE.next ?_ | refine JE.blk_normal ?_ | refine JE.then_exit ?_ | refine JE.blk_hit ?_ | refine JE.blk_miss rfl ?_ | refine JE.then_ret ?_ | refine JE.blk_ret ?_ | refine JC.label ?_ | refine JL.gon rfl rfl ?_ | refine JL.gskip rfl rfl rfl rfl ?_)
  refine JL.lit1 Tryd.underlying30 e22 rfl rfl rfl rfl fun b24 _ => ?_
  have hH : ∀ {M : List Ent} {b : Nat} (k : Sl8) w', Holds w [] M w' → Has M b (Row 22 [s.v]) true → k.ok w' → k.l.length ≤ 300 → Calls Tryd.prog 14 [k.v, .slice (some ⟨b, 0, none⟩) 1 1].toArray w' fun e w'' => e = .returned (.agg ((hmac k.l s.l).map U8).toArray) ∧ Ext w' w'' := fun {M b} k w' hw' hM hk hkl => by
    obtain ⟨o, ho, hA⟩ := hw'.get hM
    have := hmac_any k (some ⟨b, 0, none⟩) 1 [s] w' (hG.chg hw'.chg (by simp)) hk (Reads.block ho (Row.all _ hA)) (by simpa using hs.holds hw' rfl) (by omega) (by simp) (by simp [total]; omega)
    simpa using this
  repeat (first | refine JL.q (by first | (apply OQ.callx; exact goes_hmac; exact rfl; exact (fun w' hw' => hH k w' hw' .here (hk.holds hw' rfl) (by omega))) | (apply OQ.move; exact rfl) | (apply OQ.assign; exact rfl) | (apply OQ.len; exact rfl; exact rfl) | (apply OQ.addN; exact rfl; exact rfl; exact (by (try simp only []); omega)) | (apply OQ.subN; exact rfl; exact rfl; exact (by (try simp only []); omega); exact (by (try simp only []); omega)) | (apply OQ.remN; exact rfl; exact rfl; exact (by (try simp only []); omega)) | (apply OQ.gtrN; exact rfl; exact rfl)) rfl ?_ | refine JC.seq ?_ | refine JC.region ?_ | refine JC.block ?_ | refine JC.skip ?_ | refine JC.exit ?_ | refine JL.nil ?_ | refine JE.next ?_ | refine JE.blk_normal ?_ | refine JE.then_exit ?_ | refine JE.blk_hit ?_ | refine JE.blk_miss rfl ?_ | refine JE.then_ret ?_ | refine JE.blk_ret ?_ | refine JC.label ?_ | refine JL.gon rfl rfl ?_ | refine JL.gskip rfl rfl rfl rfl ?_)
  refine JL.alloc zc25 rfl fun b8 _ => ?_
  refine JL.store_all s25 rfl rfl (shal _) (all8 _) .here (by simp) ?_
  repeat (first | refine JL.q (by first | (apply OQ.move; exact rfl) | (apply OQ.assign; exact rfl) | (apply OQ.len; exact rfl; exact rfl) | (apply OQ.addN; exact rfl; exact rfl; exact (by (try simp only []); omega)) | (apply OQ.subN; exact rfl; exact rfl; exact (by (try simp only []); omega); exact (by (try simp only []); omega)) | (apply OQ.remN; exact rfl; exact rfl; exact (by (try simp only []); omega)) | (apply OQ.gtrN; exact rfl; exact rfl)) rfl ?_ | refine JC.seq ?_ | refine JC.region ?_ | refine JC.block ?_ | refine JC.skip ?_ | refine JC.exit ?_ | refine JL.nil ?_ | refine JE.next ?_ | refine JE.blk_normal ?_ | refine JE.then_exit ?_ | refine JE.blk_hit ?_ | refine JE.blk_miss rfl ?_ | refine JE.then_ret ?_ | refine JE.blk_ret ?_ | refine JC.label ?_ | refine JL.gon rfl rfl ?_ | refine JL.gskip rfl rfl rfl rfl ?_)
  refine JC.cond rfl (fun h3 => ?_) (fun h3 => ?_)
  · have h3 : 64 < k.l.length := of_decide_eq_true h3
    repeat (first | refine JL.q (by first | (apply OQ.move; exact rfl) | (apply OQ.assign; exact rfl) | (apply OQ.len; exact rfl; exact rfl) | (apply OQ.addN; exact rfl; exact rfl; exact (by (try simp only []); omega)) | (apply OQ.subN; exact rfl; exact rfl; exact (by (try simp only []); omega); exact (by (try simp only []); omega)) | (apply OQ.remN; exact rfl; exact rfl; exact (by (try simp only []); omega)) | (apply OQ.gtrN; exact rfl; exact rfl)) rfl ?_ | refine JC.seq ?_ | refine JC.region ?_ | refine JC.block ?_ | refine JC.skip ?_ | refine JC.exit ?_ | refine JL.nil ?_ | refine JE.next ?_ | refine JE.blk_normal ?_ | refine JE.then_exit ?_ | refine JE.blk_hit ?_ | refine JE.blk_miss rfl ?_ | refine JE.then_ret ?_ | refine JE.blk_ret ?_ | refine JC.label ?_ | refine JL.gon rfl rfl ?_ | refine JL.gskip rfl rfl rfl rfl ?_)
    have hfe := hmac_filled s.l (filled_long k.l h3)
    let vs : Nat → X → Value := fun i x => match i with
      | 0 => .agg ((hmac k.l s.l).map U8).toArray
      | 1 => .slice (some ⟨b7, 0, none⟩) 32 32
      | 2 => s.v
      | 3 => .slice (some ⟨x.1, 0, none⟩) 1 1
      | 4 => .agg ((hmac (sha k.l) s.l).map U8).toArray
      | _ => .bool true
    let Ms : Nat → X → List Ent := fun i x => match i with
      | 3 => [⟨x.1, Row 22 [s.v], true⟩]
      | 7 => [⟨b8, Row 25 ((hmac k.l s.l).map U8), true⟩, ⟨b7, Row 25 ((sha k.l).map U8), true⟩]
      | _ => []
    refine JC.grow (g := ⟨[(0, k.v), (1, s.v), (7, Pt b7 0), (8, Pt b8 0)], 8, vs, Ms, needA, inpA, fun _ => [], fun _ => none⟩) [(6, 6)] [] mixed (by repeat (first | exact SubE.nil | refine SubE.cons _ _ _ rfl ?_)) ?_ ?_ ?_ ?_ ?_ ?_
    · exact .keep _ _ _ _ _ _ (fun _ h => h) (.drop _ _ _ (Less.refl _))
    · rfl
    · rfl
    · rfl
    · refine ⟨?_, ?_, ?_, ?_, ?_, ?_, ?_, trivial⟩
      · intro x EF MF Q k
        refine JL.q (OQ.load_agg a25 s25 rfl .here (shal _) Row.all) rfl (JL.nil (k (0, 0) nofun))
      · intro x EF MF Q k
        refine JL.q (OQ.slA Tryd.underlying25 s5 rfl) rfl (JL.nil (k (0, 0) nofun))
      · intro x EF MF Q k
        refine JL.q (OQ.move rfl) rfl (JL.nil (k (0, 0) nofun))
      · intro x EF MF Q k
        refine JL.lit1 Tryd.underlying30 e22 rfl rfl rfl rfl fun b _ => JL.nil (k (b, 0) nofun)
      · intro x EF MF Q kk
        refine JL.q (OQ.callx goes_hmac rfl fun w' hw' => hH ⟨some ⟨b7, 0, none⟩, 32, sha k.l⟩ w' hw' .here ?_ ?_) rfl (JL.nil (kk (0, 0) nofun))
        · obtain ⟨o, ho, hA⟩ := hw'.get (.there (.there .here))
          exact ⟨Nat.le_of_eq (by simp [sha_length]), Reads.block ho (Row.all _ hA)⟩
        · simp [sha_length]
      · intro x EF MF Q kk
        refine JL.q (OQ.eqA_t Tryd.underlying25 Tryd.underlying5 s5 gd25 rfl rfl rfl rfl hfe.symm) rfl (JL.nil (kk (0, 0) nofun))
      · intro x EF MF Q kk
        refine JL.q (OQ.assign rfl) rfl (JL.nil (kk (0, 0) nofun))
    · intro x _
      repeat (first | refine JL.q (by first | (apply OQ.move; exact rfl) | (apply OQ.assign; exact rfl) | (apply OQ.len; exact rfl; exact rfl) | (apply OQ.addN; exact rfl; exact rfl; exact (by (try simp only []); omega)) | (apply OQ.subN; exact rfl; exact rfl; exact (by (try simp only []); omega); exact (by (try simp only []); omega)) | (apply OQ.remN; exact rfl; exact rfl; exact (by (try simp only []); omega)) | (apply OQ.gtrN; exact rfl; exact rfl)) rfl ?_ | refine JC.seq ?_ | refine JC.region ?_ | refine JC.block ?_ | refine JC.skip ?_ | refine JC.exit ?_ | refine JL.nil ?_ | refine JE.next ?_ | refine JE.blk_normal ?_ | refine JE.then_exit ?_ | refine JE.blk_hit ?_ | refine JE.blk_miss rfl ?_ | refine JE.then_ret ?_ | refine JE.blk_ret ?_ | refine JC.label ?_ | refine JL.gon rfl rfl ?_ | refine JL.gskip rfl rfl rfl rfl ?_)
      refine JC.ret ?_
      repeat (first | refine JL.q (by first | (apply OQ.move; exact rfl) | (apply OQ.assign; exact rfl) | (apply OQ.len; exact rfl; exact rfl) | (apply OQ.addN; exact rfl; exact rfl; exact (by (try simp only []); omega)) | (apply OQ.subN; exact rfl; exact rfl; exact (by (try simp only []); omega); exact (by (try simp only []); omega)) | (apply OQ.remN; exact rfl; exact rfl; exact (by (try simp only []); omega)) | (apply OQ.gtrN; exact rfl; exact rfl)) rfl ?_ | refine JC.seq ?_ | refine JC.region ?_ | refine JC.block ?_ | refine JC.skip ?_ | refine JC.exit ?_ | refine JL.nil ?_ | refine JE.next ?_ | refine JE.blk_normal ?_ | refine JE.then_exit ?_ | refine JE.blk_hit ?_ | refine JE.blk_miss rfl ?_ | refine JE.then_ret ?_ | refine JE.blk_ret ?_ | refine JC.label ?_ | refine JL.gon rfl rfl ?_ | refine JL.gskip rfl rfl rfl rfl ?_)
      exact JE.ret1 rfl (RV.tmp rfl) fun w' hw => ⟨rfl, hw.chg⟩
  · have h3 : ¬ 64 < k.l.length := of_decide_eq_false h3
    have hlow := and_lt more
    have hz : (BitVec.ofInt 64 more &&& BitVec.ofNat 64 65535).toNat % (64 - k.l.length + 1) < 64 - k.l.length + 1 := Nat.mod_lt _ (by omega)
    repeat (first | refine JL.q (by first | (apply OQ.lowI; exact rfl; exact rfl; exact (by decide)) | (apply OQ.move; exact rfl) | (apply OQ.assign; exact rfl) | (apply OQ.len; exact rfl; exact rfl) | (apply OQ.addN; exact rfl; exact rfl; exact (by (try simp only []); omega)) | (apply OQ.subN; exact rfl; exact rfl; exact (by (try simp only []); omega); exact (by (try simp only []); omega)) | (apply OQ.remN; exact rfl; exact rfl; exact (by (try simp only []); omega)) | (apply OQ.gtrN; exact rfl; exact rfl)) rfl ?_ | refine JC.seq ?_ | refine JC.region ?_ | refine JC.block ?_ | refine JC.skip ?_ | refine JC.exit ?_ | refine JL.nil ?_ | refine JE.next ?_ | refine JE.blk_normal ?_ | refine JE.then_exit ?_ | refine JE.blk_hit ?_ | refine JE.blk_miss rfl ?_ | refine JE.then_ret ?_ | refine JE.blk_ret ?_ | refine JC.label ?_ | refine JL.gon rfl rfl ?_ | refine JL.gskip rfl rfl rfl rfl ?_)
    generalize (BitVec.ofInt 64 more &&& BitVec.ofNat 64 65535).toNat % (64 - k.l.length + 1) = z at hz ⊢
    have hkz : k.l.length + z ≤ 64 := by omega
    have hfe := hmac_filled s.l (filled_short k.l z hkz)
    let vs : Nat → X → Value := fun i x => match i with
      | 0 => .agg ((hmac k.l s.l).map U8).toArray
      | 1 => .slice (some ⟨x.1, 0, none⟩) 0 0
      | 2 => k.v
      | 3 => .slice (some ⟨x.1, 0, none⟩) k.l.length x.2
      | 4 => N z
      | 5 => .slice (some ⟨x.1, 0, none⟩) (k.l.length + z) x.2
      | 6 => s.v
      | 7 => .slice (some ⟨x.1, 0, none⟩) 1 1
      | 8 => .agg ((hmac (k.l ++ List.replicate z 0) s.l).map U8).toArray
      | _ => .bool true
    let Ms : Nat → X → List Ent := fun i x => match i with
      | 1 => [⟨x.1, Own 5 1 0 0 [], true⟩]
      | 3 => [⟨x.1, Own 5 1 k.l.length x.2 (k.l.map U8), true⟩]
      | 5 => [⟨x.1, Own 5 1 (k.l.length + z) x.2 (k.l.map U8 ++ List.replicate z (.int .u8 0)), true⟩]
      | 7 => [⟨x.1, Row 22 [s.v], true⟩]
      | 11 => [⟨b8, Row 25 ((hmac k.l s.l).map U8), true⟩]
      | _ => []
    refine JC.grow (g := ⟨[(0, k.v), (1, s.v), (8, Pt b8 0), (9, N z)], 12, vs, Ms, needB, inpB, eatB, fun _ => none⟩) [(10, 6)] [] mixed (by repeat (first | exact SubE.nil | refine SubE.cons _ _ _ rfl ?_)) ?_ ?_ ?_ ?_ ?_ ?_
    · exact .keep _ _ _ _ _ _ (fun _ h => h) (.drop _ _ _ (.drop _ _ _ (Less.refl _)))
    · rfl
    · rfl
    · rfl
    · refine ⟨?_, ?_, ?_, ?_, ?_, ?_, ?_, ?_, ?_, ?_, ?_, trivial⟩
      · intro x EF MF Q kk
        exact JL.q (OQ.load_agg a25 s25 rfl .here (shal _) Row.all) rfl (JL.nil (kk (0, 0) nofun))
      · intro x EF MF Q kk
        exact JL.lit0o Tryd.underlying22 e5 rfl fun b _ => JL.nil (kk (b, 0) nofun)
      · intro x EF MF Q kk
        exact JL.q (OQ.move rfl) rfl (JL.nil (kk (0, 0) nofun))
      · intro x EF MF Q kk
        refine JL.append (cs := k.l.map U8) (fun b' cap' => ⟨b', Own 5 1 (0 + k.l.length) cap' ([] ++ k.l.map U8), true⟩ :: MF) Tryd.underlying22 e5 rfl rfl (by intro _ _; repeat (first | exact Repl.here | apply Repl.there)) (by simp) (fun w' hw' => (hk.holds hw' rfl).reads) (of_u8 _) rfl (by decide) (by omega) (by omega) rfl fun b cap => ?_
        rw [List.nil_append, Nat.zero_add]
        exact JL.nil (kk (b, cap) nofun)
      · intro x EF MF Q kk
        exact JL.q (OQ.move rfl) rfl (JL.nil (kk (0, 0) nofun))
      · intro x EF MF Q kk
        refine JL.append0 (xs := k.l.map U8) (m := z) (fun b' cap' => ⟨b', Own 5 1 (k.l.length + z) cap' (k.l.map U8 ++ List.replicate z (.int .u8 0)), true⟩ :: MF) Tryd.underlying22 Tryd.underlying3 e5 rfl rfl (by intro _ _; repeat (first | exact Repl.here | apply Repl.there)) (by omega) rfl fun b cap => ?_
        exact JL.nil (kk (b, cap) nofun)
      · intro x EF MF Q kk
        exact JL.q (OQ.move rfl) rfl (JL.nil (kk (0, 0) nofun))
      · intro x EF MF Q kk
        exact JL.lit1 Tryd.underlying30 e22 rfl rfl rfl rfl fun b _ => JL.nil (kk (b, 0) nofun)
      · intro x EF MF Q kk
        refine JL.q (OQ.callx (vs := [.slice (some ⟨(x 5).1, 0, none⟩) (k.l.length + z) (x 5).2, .slice (some ⟨(x 7).1, 0, none⟩) 1 1]) goes_hmac rfl fun w' hw' => ?_) rfl (JL.nil (kk (0, 0) nofun))
        have hll : (k.l ++ List.replicate z (0 : B)).length = k.l.length + z := by simp
        have := hH ⟨some ⟨(x 5).1, 0, none⟩, (x 5).2, k.l ++ List.replicate z 0⟩ w' hw' (.there .here) ?_ ?_
        · rw [show Sl8.v ⟨some ⟨(x 5).1, 0, none⟩, (x 5).2, k.l ++ List.replicate z 0⟩ = .slice (some ⟨(x 5).1, 0, none⟩) (k.l.length + z) (x 5).2 by simp [Sl8.v]] at this
          exact this
        · obtain ⟨o, ho, hA⟩ := hw'.get .here
          obtain ⟨sp, rfl, h2, h3, h4⟩ := id hA
          refine ⟨by rw [hll]; exact h4, ?_⟩
          have := Reads.block ho (Own.cells _ hA)
          simpa [U8] using this
        · rw [hll]; omega
      · intro x EF MF Q kk
        exact JL.q (OQ.eqA_t Tryd.underlying25 Tryd.underlying5 s5 gd25 rfl rfl rfl rfl hfe.symm) rfl (JL.nil (kk (0, 0) nofun))
      · intro x EF MF Q kk
        exact JL.q (OQ.assign rfl) rfl (JL.nil (kk (0, 0) nofun))
    · intro x _
      repeat (first | refine JL.q (by first | (apply OQ.move; exact rfl) | (apply OQ.assign; exact rfl) | (apply OQ.len; exact rfl; exact rfl) | (apply OQ.addN; exact rfl; exact rfl; exact (by (try simp only []); omega)) | (apply OQ.subN; exact rfl; exact rfl; exact (by (try simp only []); omega); exact (by (try simp only []); omega)) | (apply OQ.remN; exact rfl; exact rfl; exact (by (try simp only []); omega)) | (apply OQ.gtrN; exact rfl; exact rfl)) rfl ?_ | refine JC.seq ?_ | refine JC.region ?_ | refine JC.block ?_ | refine JC.skip ?_ | refine JC.exit ?_ | refine JL.nil ?_ | refine JE.next ?_ | refine JE.blk_normal ?_ | refine JE.then_exit ?_ | refine JE.blk_hit ?_ | refine JE.blk_miss rfl ?_ | refine JE.then_ret ?_ | refine JE.blk_ret ?_ | refine JC.label ?_ | refine JL.gon rfl rfl ?_ | refine JL.gskip rfl rfl rfl rfl ?_)
      refine JC.ret ?_
      repeat (first | refine JL.q (by first | (apply OQ.move; exact rfl) | (apply OQ.assign; exact rfl) | (apply OQ.len; exact rfl; exact rfl) | (apply OQ.addN; exact rfl; exact rfl; exact (by (try simp only []); omega)) | (apply OQ.subN; exact rfl; exact rfl; exact (by (try simp only []); omega); exact (by (try simp only []); omega)) | (apply OQ.remN; exact rfl; exact rfl; exact (by (try simp only []); omega)) | (apply OQ.gtrN; exact rfl; exact rfl)) rfl ?_ | refine JC.seq ?_ | refine JC.region ?_ | refine JC.block ?_ | refine JC.skip ?_ | refine JC.exit ?_ | refine JL.nil ?_ | refine JE.next ?_ | refine JE.blk_normal ?_ | refine JE.then_exit ?_ | refine JE.blk_hit ?_ | refine JE.blk_miss rfl ?_ | refine JE.then_ret ?_ | refine JE.blk_ret ?_ | refine JC.label ?_ | refine JL.gon rfl rfl ?_ | refine JL.gskip rfl rfl rfl rfl ?_)
      exact JE.ret1 rfl (RV.tmp rfl) fun w' hw => ⟨rfl, hw.chg⟩
end Go.Proofs.YtkegjpohielajaaDoor
