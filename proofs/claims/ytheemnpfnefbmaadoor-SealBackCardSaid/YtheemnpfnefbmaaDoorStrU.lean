/-
  Of no statement by itself: what the reference's Turn gives.
  Conditions: each theorem's own.
-/
import Derived.Test.YtheemnpfnefbmaaDoorStrO
import Derived.Test.YtheemnpfnefbmaaDoorStrT
namespace Go.Proofs.YtheemnpfnefbmaaDoor
open Sl Sha Str

theorem goes_rturn : Goes Tryd.prog 18 := ⟨_, Tryd.func18, rfl, by kernel_rfl⟩
def needK : Nat → List (Nat × Nat)
  | 3 => [(1, 42), (2, 43)]
  | 4 => [(3, 44)]
  | 8 => [(6, 47), (7, 48)]
  | 9 => [(5, 46), (8, 49)]
  | 10 => [(9, 50)]
  | 11 => [(4, 45), (10, 51)]
  | 12 => [(11, 52)]
  | 13 => [(0, 41), (12, 53)]
  | 14 => [(13, 54)]
  | _ => []
def inpK : Nat → List Nat
  | 10 => [15]
  | 13 => [16, 12]
  | _ => []
def eatK : Nat → List Nat
  | 13 => [16]
  | _ => []
def srcK : Nat → Option Nat
  | 14 => some 13
  | _ => none

set_option maxHeartbeats 16000000 in
set_option maxRecDepth 8000 in
theorem rturn_any (key : List B) (ctr : W) (nonce : List B) (s : Sl8) (hk : key.length = 32) (hn : nonce.length = 12) (w : World) (hs : s.ok w) (hsl : s.l.length < 35184372088832) :
    Calls Tryd.prog 18 [.agg (key.map U8).toArray, U32 ctr, .agg (nonce.map U8).toArray, s.v].toArray w fun e w' => ∃ x : Nat × Nat, e = .returned (.slice (some ⟨x.1, 0, none⟩) s.l.length x.2) ∧ Holds w [] [⟨x.1, Own 5 1 s.l.length x.2 ((turn key ctr nonce s.l).map U8), true⟩] w' := by
  refine enter (n := 56) Tryd.func18 rfl rfl rfl (Holds.start w []) ?_
  repeat (first | refine JL.q (by first | (apply OQ.move; exact rfl) | (apply OQ.assign; exact rfl) | (apply OQ.len; exact rfl; exact rfl) | (apply OQ.add32; exact rfl; exact rfl) | (apply OQ.xor8; exact rfl; exact rfl) | (apply OQ.addN; exact rfl; exact rfl; exact (by (try simp only []); omega)) | (apply OQ.subN; exact rfl; exact rfl; exact (by (try simp only []); omega); exact (by (try simp only []); omega)) | (apply OQ.quoN; exact rfl; exact rfl; exact (by (try simp only []); omega); exact (by (try simp only []); omega)) | (apply OQ.lssN; exact rfl; exact rfl)) rfl ?_ | refine JC.seq ?_ | refine JC.region ?_ | refine JC.block ?_ | refine JC.skip ?_ | refine JC.exit ?_ | refine JL.nil ?_ | refine JE.next ?_ | refine JE.blk_normal ?_ | refine JE.then_exit ?_ | refine JE.blk_hit ?_ | refine JE.blk_miss rfl ?_ | refine JE.then_ret ?_ | refine JE.blk_ret ?_ | refine JC.label ?_ | refine JL.gon rfl rfl ?_ | refine JL.gskip rfl rfl rfl rfl ?_)
  refine JL.box (r := key.map U8) rfl rfl rfl fun b4 _ => ?_
  refine JL.box (r := nonce.map U8) rfl rfl rfl fun b6 _ => ?_
  repeat (first | refine JL.q (by first | (apply OQ.move; exact rfl) | (apply OQ.assign; exact rfl) | (apply OQ.len; exact rfl; exact rfl) | (apply OQ.add32; exact rfl; exact rfl) | (apply OQ.xor8; exact rfl; exact rfl) | (apply OQ.addN; exact rfl; exact rfl; exact (by (try simp only []); omega)) | (apply OQ.subN; exact rfl; exact rfl; exact (by (try simp only []); omega); exact (by (try simp only []); omega)) | (apply OQ.quoN; exact rfl; exact rfl; exact (by (try simp only []); omega); exact (by (try simp only []); omega)) | (apply OQ.lssN; exact rfl; exact rfl)) rfl ?_ | refine JC.seq ?_ | refine JC.region ?_ | refine JC.block ?_ | refine JC.skip ?_ | refine JC.exit ?_ | refine JL.nil ?_ | refine JE.next ?_ | refine JE.blk_normal ?_ | refine JE.then_exit ?_ | refine JE.blk_hit ?_ | refine JE.blk_miss rfl ?_ | refine JE.then_ret ?_ | refine JE.blk_ret ?_ | refine JC.label ?_ | refine JL.gon rfl rfl ?_ | refine JL.gskip rfl rfl rfl rfl ?_)
  refine JL.litZ Tryd.underlying33 e5 rfl fun b9 _ => ?_
  repeat (first | refine JL.q (by first | (apply OQ.move; exact rfl) | (apply OQ.assign; exact rfl) | (apply OQ.len; exact rfl; exact rfl) | (apply OQ.add32; exact rfl; exact rfl) | (apply OQ.xor8; exact rfl; exact rfl) | (apply OQ.addN; exact rfl; exact rfl; exact (by (try simp only []); omega)) | (apply OQ.subN; exact rfl; exact rfl; exact (by (try simp only []); omega); exact (by (try simp only []); omega)) | (apply OQ.quoN; exact rfl; exact rfl; exact (by (try simp only []); omega); exact (by (try simp only []); omega)) | (apply OQ.lssN; exact rfl; exact rfl)) rfl ?_ | refine JC.seq ?_ | refine JC.region ?_ | refine JC.block ?_ | refine JC.skip ?_ | refine JC.exit ?_ | refine JL.nil ?_ | refine JE.next ?_ | refine JE.blk_normal ?_ | refine JE.then_exit ?_ | refine JE.blk_hit ?_ | refine JE.blk_miss rfl ?_ | refine JE.then_ret ?_ | refine JE.blk_ret ?_ | refine JC.label ?_ | refine JL.gon rfl rfl ?_ | refine JL.gskip rfl rfl rfl rfl ?_)
  refine JC.loop (ι := Nat × Nat × Nat) (fun i => [(1, U32 ctr), (3, s.v), (4, Pt b4 0), (6, Pt b6 0), (9, .slice (some ⟨i.2.1, 0, none⟩) (min (64 * i.1) s.l.length) i.2.2), (10, N (64 * i.1))])
    (fun i => [⟨i.2.1, Own 5 1 (min (64 * i.1) s.l.length) i.2.2 ((turn key ctr nonce (s.l.take (min (64 * i.1) s.l.length))).map U8), true⟩, ⟨b6, Row 26 (nonce.map U8), true⟩, ⟨b4, Row 23 (key.map U8), true⟩])
    (fun i => s.l.length + 64 - 64 * i.1) (fun i => 64 * i.1 < s.l.length + 64) (0, b9, 0) (by dsimp only; omega) ?_ (.keep _ _ _ _ _ _ (fun o ho => by simpa [turn, turnAt] using ho) (Less.refl _)) ?_
  · dsimp only
    rw [show min (64 * 0) s.l.length = 0 by omega]
    exact (by repeat (first | exact SubE.nil | refine SubE.cons _ _ _ rfl ?_))
  rintro ⟨q, b9, cap9⟩ hq
  dsimp only at hq ⊢
  repeat (first | refine JL.q (by first | (apply OQ.move; exact rfl) | (apply OQ.assign; exact rfl) | (apply OQ.len; exact rfl; exact rfl) | (apply OQ.add32; exact rfl; exact rfl) | (apply OQ.xor8; exact rfl; exact rfl) | (apply OQ.addN; exact rfl; exact rfl; exact (by (try simp only []); omega)) | (apply OQ.subN; exact rfl; exact rfl; exact (by (try simp only []); omega); exact (by (try simp only []); omega)) | (apply OQ.quoN; exact rfl; exact rfl; exact (by (try simp only []); omega); exact (by (try simp only []); omega)) | (apply OQ.lssN; exact rfl; exact rfl)) rfl ?_ | refine JC.seq ?_ | refine JC.region ?_ | refine JC.block ?_ | refine JC.skip ?_ | refine JC.exit ?_ | refine JL.nil ?_ | refine JE.next ?_ | refine JE.blk_normal ?_ | refine JE.then_exit ?_ | refine JE.blk_hit ?_ | refine JE.blk_miss rfl ?_ | refine JE.then_ret ?_ | refine JE.blk_ret ?_ | refine JC.label ?_ | refine JL.gon rfl rfl ?_ | refine JL.gskip rfl rfl rfl rfl ?_)
  refine JC.cond rfl (fun h => ?_) (fun h => ?_)
  · have hq' : 64 * q < s.l.length := of_decide_eq_true h
    clear h hq
    obtain ⟨bb, jb, hae, hcell⟩ := hs.reads.at (by simp; omega)
    have hav : s.v = .slice (some ⟨bb, jb, none⟩) s.l.length s.cap := by rw [← hae]; rfl
    have hcap := hs.len
    rw [Nat.min_eq_left (by omega : 64 * q ≤ s.l.length)]
    repeat (first | refine JL.q (by first | (apply OQ.load_agg (cs := key.map U8); exact a25; exact s25; exact rfl; exact (.there (.there .here)); exact (by simpa using hk); exact Row.all) | (apply OQ.load_agg (cs := nonce.map U8); exact noa; exact nos; exact rfl; exact (.there .here); exact (by simpa using hn); exact Row.all) | (apply OQ.convN_32; exact rfl; exact rfl; exact rfl) | (apply OQ.move; exact rfl) | (apply OQ.assign; exact rfl) | (apply OQ.len; exact rfl; exact rfl) | (apply OQ.add32; exact rfl; exact rfl) | (apply OQ.xor8; exact rfl; exact rfl) | (apply OQ.addN; exact rfl; exact rfl; exact (by (try simp only []); omega)) | (apply OQ.subN; exact rfl; exact rfl; exact (by (try simp only []); omega); exact (by (try simp only []); omega)) | (apply OQ.quoN; exact rfl; exact rfl; exact (by (try simp only []); omega); exact (by (try simp only []); omega)) | (apply OQ.lssN; exact rfl; exact rfl)) rfl ?_ | refine JC.seq ?_ | refine JC.region ?_ | refine JC.block ?_ | refine JC.skip ?_ | refine JC.exit ?_ | refine JL.nil ?_ | refine JE.next ?_ | refine JE.blk_normal ?_ | refine JE.then_exit ?_ | refine JE.blk_hit ?_ | refine JE.blk_miss rfl ?_ | refine JE.then_ret ?_ | refine JE.blk_ret ?_ | refine JC.label ?_ | refine JL.gon rfl rfl ?_ | refine JL.gskip rfl rfl rfl rfl ?_)
    rw [Nat.mul_div_cancel_left q (by decide)]
    refine JL.callg (ι := Nat × Nat) (fun x => .slice (some ⟨x.1, 0, none⟩) 64 x.2) (fun x => [⟨x.1, Own 5 1 64 x.2 ((ks key (ctr + BitVec.ofNat 32 q) nonce).map U8), true⟩]) goes_rblock rfl rfl (fun i => by simp) (fun w' _ => rblock_any key (ctr + BitVec.ofNat 32 q) nonce hk hn w') ?_
    rintro ⟨b11, cap11⟩
    dsimp only
    repeat (first | refine JL.q (by first | (apply OQ.move; exact rfl) | (apply OQ.assign; exact rfl) | (apply OQ.len; exact rfl; exact rfl) | (apply OQ.add32; exact rfl; exact rfl) | (apply OQ.xor8; exact rfl; exact rfl) | (apply OQ.addN; exact rfl; exact rfl; exact (by (try simp only []); omega)) | (apply OQ.subN; exact rfl; exact rfl; exact (by (try simp only []); omega); exact (by (try simp only []); omega)) | (apply OQ.quoN; exact rfl; exact rfl; exact (by (try simp only []); omega); exact (by (try simp only []); omega)) | (apply OQ.lssN; exact rfl; exact rfl)) rfl ?_ | refine JC.seq ?_ | refine JC.region ?_ | refine JC.block ?_ | refine JC.skip ?_ | refine JC.exit ?_ | refine JL.nil ?_ | refine JE.next ?_ | refine JE.blk_normal ?_ | refine JE.then_exit ?_ | refine JE.blk_hit ?_ | refine JE.blk_miss rfl ?_ | refine JE.then_ret ?_ | refine JE.blk_ret ?_ | refine JC.label ?_ | refine JL.gon rfl rfl ?_ | refine JL.gskip rfl rfl rfl rfl ?_)
    rw [hav]
    have hsucc := fun i (hi : i < 64) (h : 64 * q + i < s.l.length) => (turn_succ key ctr nonce s.l (64 * q + i) h).trans (by rw [sb_at key ctr nonce q i hi])
    have hksl := ks_length key (ctr + BitVec.ofNat 32 q) nonce
    generalize ks key (ctr + BitVec.ofNat 32 q) nonce = kk0 at hsucc hksl
    obtain ⟨c, hc⟩ : ∃ c, c = min (64 * q + 64) s.l.length - 64 * q := ⟨_, rfl⟩
    refine JC.loop (ι := Nat × Nat × Nat) (fun i => [(1, U32 ctr), (3, .slice (some ⟨bb, jb, none⟩) s.l.length s.cap), (4, Pt b4 0), (6, Pt b6 0), (9, .slice (some ⟨i.2.1, 0, none⟩) (64 * q + i.1) i.2.2), (10, N (64 * q)), (11, .slice (some ⟨b11, 0, none⟩) 64 cap11), (12, N (64 * q + i.1))])
      (fun i => [⟨b11, Own 5 1 64 cap11 (kk0.map U8), true⟩, ⟨i.2.1, Own 5 1 (64 * q + i.1) i.2.2 ((turn key ctr nonce (s.l.take (64 * q + i.1))).map U8), true⟩, ⟨b6, Row 26 (nonce.map U8), true⟩, ⟨b4, Row 23 (key.map U8), true⟩])
      (fun i => c - i.1) (fun i => i.1 ≤ c) (0, b9, cap9) (by dsimp only; omega) (by repeat (first | exact SubE.nil | refine SubE.cons _ _ _ rfl ?_)) (Less.refl _) ?_
    rintro ⟨i, b9, cap9⟩ hi
    dsimp only at hi ⊢
    by_cases h : i < c
    · have h1 : 64 * q + i < 64 * q + 64 := by omega
      have h2 : 64 * q + i < s.l.length := by omega
      have hi64 : i < 64 := by omega
      have hx := hsucc i hi64 h2
      have hci : w.cell? ⟨bb, jb + (64 * q + i), none⟩ = some (U8 (s.l.getD (64 * q + i) 0)) := hcell _ _ (map_at U8 0 h2)
      have hsub : 64 * q + i - 64 * q = i := by omega
      repeat (first | refine JL.q (by first | (apply OQ.lssN_t; exact rfl; exact rfl; exact h1) | (apply OQ.lssN_t; exact rfl; exact rfl; exact h2) | (apply OQ.pick_t; exact rfl; exact rfl) | (apply OQ.move; exact rfl) | (apply OQ.assign; exact rfl) | (apply OQ.len; exact rfl; exact rfl) | (apply OQ.add32; exact rfl; exact rfl) | (apply OQ.xor8; exact rfl; exact rfl) | (apply OQ.addN; exact rfl; exact rfl; exact (by (try simp only []); omega)) | (apply OQ.subN; exact rfl; exact rfl; exact (by (try simp only []); omega); exact (by (try simp only []); omega)) | (apply OQ.quoN; exact rfl; exact rfl; exact (by (try simp only []); omega); exact (by (try simp only []); omega)) | (apply OQ.lssN; exact rfl; exact rfl)) rfl ?_ | refine JC.seq ?_ | refine JC.region ?_ | refine JC.block ?_ | refine JC.skip ?_ | refine JC.exit ?_ | refine JL.nil ?_ | refine JE.next ?_ | refine JE.blk_normal ?_ | refine JE.then_exit ?_ | refine JE.blk_hit ?_ | refine JE.blk_miss rfl ?_ | refine JE.then_ret ?_ | refine JE.blk_ret ?_ | refine JC.label ?_ | refine JL.gon rfl rfl ?_ | refine JL.gskip rfl rfl rfl rfl ?_)
      refine JC.cond_true rfl rfl ?_
      repeat (first | refine JL.q (by first | (apply OQ.move; exact rfl) | (apply OQ.assign; exact rfl) | (apply OQ.len; exact rfl; exact rfl) | (apply OQ.add32; exact rfl; exact rfl) | (apply OQ.xor8; exact rfl; exact rfl) | (apply OQ.addN; exact rfl; exact rfl; exact (by (try simp only []); omega)) | (apply OQ.subN; exact rfl; exact rfl; exact (by (try simp only []); omega); exact (by (try simp only []); omega)) | (apply OQ.quoN; exact rfl; exact rfl; exact (by (try simp only []); omega); exact (by (try simp only []); omega)) | (apply OQ.lssN; exact rfl; exact rfl)) rfl ?_ | refine JC.seq ?_ | refine JC.region ?_ | refine JC.block ?_ | refine JC.skip ?_ | refine JC.exit ?_ | refine JL.nil ?_ | refine JE.next ?_ | refine JE.blk_normal ?_ | refine JE.then_exit ?_ | refine JE.blk_hit ?_ | refine JE.blk_miss rfl ?_ | refine JE.then_ret ?_ | refine JE.blk_ret ?_ | refine JC.label ?_ | refine JL.gon rfl rfl ?_ | refine JL.gskip rfl rfl rfl rfl ?_)
      let vs : Nat → X → Value := fun j x => match j with
        | 0 => .slice (some ⟨b9, 0, none⟩) (64 * q + i) cap9
        | 1 => .slice (some ⟨bb, jb, none⟩) s.l.length s.cap
        | 2 => N (64 * q + i)
        | 3 => Pt bb (jb + (64 * q + i))
        | 4 => U8 (s.l.getD (64 * q + i) 0)
        | 5 => .slice (some ⟨b11, 0, none⟩) 64 cap11
        | 6 => N (64 * q + i)
        | 7 => N (64 * q)
        | 8 => N (64 * q + i - 64 * q)
        | 9 => Pt b11 (64 * q + i - 64 * q)
        | 10 => U8 (kk0.getD i 0)
        | 11 => U8 (s.l.getD (64 * q + i) 0 ^^^ kk0.getD i 0)
        | 12 => .slice (some ⟨x.1, 0, none⟩) 1 1
        | _ => .slice (some ⟨x.1, 0, none⟩) (64 * q + i + 1) x.2
      let Ms : Nat → X → List Ent := fun j x => match j with
        | 12 => [⟨x.1, Row 5 [U8 (s.l.getD (64 * q + i) 0 ^^^ kk0.getD i 0)], true⟩]
        | 13 => [⟨x.1, Own 5 1 (64 * q + i + 1) x.2 ((turn key ctr nonce (s.l.take (64 * q + i))).map U8 ++ [U8 (s.l.getD (64 * q + i) 0 ^^^ kk0.getD i 0)]), true⟩]
        | 15 => [⟨b11, Own 5 1 64 cap11 (kk0.map U8), true⟩]
        | 16 => [⟨b9, Own 5 1 (64 * q + i) cap9 ((turn key ctr nonce (s.l.take (64 * q + i))).map U8), true⟩]
        | 17 => [⟨b6, Row 26 (nonce.map U8), true⟩, ⟨b4, Row 23 (key.map U8), true⟩]
        | _ => []
      refine JC.growO (g := ⟨[(1, U32 ctr), (3, .slice (some ⟨bb, jb, none⟩) s.l.length s.cap), (4, Pt b4 0), (6, Pt b6 0), (10, N (64 * q)), (11, .slice (some ⟨b11, 0, none⟩) 64 cap11), (12, N (64 * q + i))], 18, vs, Ms, needK, inpK, eatK, srcK, fun j => match j with | 0 => [(9, .slice (some ⟨b9, 0, none⟩) (64 * q + i) cap9)] | _ => []⟩) [(14, 9)] [15, 13, 17] mixQ (by repeat (first | exact SubE.nil | refine SubE.cons _ _ _ rfl ?_)) (fun j _ => match j with | 0 => (by repeat (first | exact SubE.nil | refine SubE.cons _ _ _ rfl ?_)) | _ + 1 => .nil) (Less.refl _) (by kernel_rfl) (by kernel_rfl) (by kernel_rfl) ?_ ?_
      · refine ⟨?_, ?_, ?_, ?_, ?_, ?_, ?_, ?_, ?_, ?_, ?_, ?_, ?_, ?_, ?_, trivial⟩
        iterate 12 (focus (intro x EF MF Q kk; (try refine JL.gon rfl rfl ?_); exact JL.q (by first | (apply OQ.idxS1 (b := bb); exact Tryd.underlying33; exact s5; exact rfl; exact rfl; exact h2) | (apply OQ.load_old; exact c5; exact rfl; exact (block_lt_of_cell hci); exact (by simp); exact hci) | (apply OQ.idxS0 (b := b11); exact Tryd.underlying33; exact s5; exact rfl; exact rfl; exact (by rw [hsub]; exact hi64)) | (apply OQ.load; exact c5; exact rfl; exact .here; exact (Own.cell (by rw [hsub]; exact map_at U8 0 (by omega)))) | (apply OQ.move; exact rfl) | (apply OQ.assign; exact rfl) | (apply OQ.len; exact rfl; exact rfl) | (apply OQ.add32; exact rfl; exact rfl) | (apply OQ.xor8; exact rfl; exact rfl) | (apply OQ.addN; exact rfl; exact rfl; exact (by (try simp only []); omega)) | (apply OQ.subN; exact rfl; exact rfl; exact (by (try simp only []); omega); exact (by (try simp only []); omega)) | (apply OQ.quoN; exact rfl; exact rfl; exact (by (try simp only []); omega); exact (by (try simp only []); omega)) | (apply OQ.lssN; exact rfl; exact rfl)) rfl (JL.nil (kk default nofun))))
        · intro x EF MF Q kk
          exact JL.lit1 Tryd.underlying33 e5 rfl rfl rfl rfl fun b _ => JL.nil (kk (b, 0) nofun)
        · intro x EF MF Q kk
          refine JL.append (cs := [U8 (s.l.getD (64 * q + i) 0 ^^^ kk0.getD i 0)]) (fun b' cap' => ⟨b', Own 5 1 (64 * q + i + 1) cap' ((turn key ctr nonce (s.l.take (64 * q + i))).map U8 ++ [U8 (s.l.getD (64 * q + i) 0 ^^^ kk0.getD i 0)]), true⟩ :: ⟨(x 12).1, Row 5 [U8 (s.l.getD (64 * q + i) 0 ^^^ kk0.getD i 0)], true⟩ :: MF) Tryd.underlying33 e5 rfl rfl (fun _ _ => .here) rfl (fun w' hw' => ?_) (by simp [Value.oneCell']) rfl (by decide) (by omega) (by omega) rfl fun b' cap' => JL.nil (kk (b', cap') nofun)
          obtain ⟨o, ho, hA⟩ := hw'.get (.there .here)
          exact Reads.block ho (Row.all _ hA)
        · intro x EF MF Q kk
          exact JL.q (OQ.assign rfl) rfl (JL.nil (kk (x 13) (fun k h => by cases h; rfl)))
      · intro x hx'
        have h14 := hx' 14 13 (by decide) rfl
        show JE _ _ _ _ _ [(9, .slice (some ⟨(x 14).1, 0, none⟩) (64 * q + i + 1) (x 14).2), (1, U32 ctr), (3, .slice (some ⟨bb, jb, none⟩) s.l.length s.cap), (4, Pt b4 0), (6, Pt b6 0), (10, N (64 * q)), (11, .slice (some ⟨b11, 0, none⟩) 64 cap11), (12, N (64 * q + i))]
          [⟨b11, Own 5 1 64 cap11 (kk0.map U8), true⟩, ⟨(x 13).1, Own 5 1 (64 * q + i + 1) (x 13).2 ((turn key ctr nonce (s.l.take (64 * q + i))).map U8 ++ [U8 (s.l.getD (64 * q + i) 0 ^^^ kk0.getD i 0)]), true⟩, ⟨b6, Row 26 (nonce.map U8), true⟩, ⟨b4, Row 23 (key.map U8), true⟩]
        rw [h14]
        obtain ⟨b9', cap9'⟩ := x 13
        clear hx' h14 x vs Ms
        dsimp only
        rw [show (turn key ctr nonce (s.l.take (64 * q + i))).map U8 ++ [U8 (s.l.getD (64 * q + i) 0 ^^^ kk0.getD i 0)] = (turn key ctr nonce (s.l.take (64 * q + i + 1))).map U8 by rw [hx]; simp, Nat.add_assoc (64 * q) i 1]
        repeat (first | refine JL.q (by first | (apply OQ.move; exact rfl) | (apply OQ.assign; exact rfl) | (apply OQ.len; exact rfl; exact rfl) | (apply OQ.add32; exact rfl; exact rfl) | (apply OQ.xor8; exact rfl; exact rfl) | (apply OQ.addN; exact rfl; exact rfl; exact (by (try simp only []); omega)) | (apply OQ.subN; exact rfl; exact rfl; exact (by (try simp only []); omega); exact (by (try simp only []); omega)) | (apply OQ.quoN; exact rfl; exact rfl; exact (by (try simp only []); omega); exact (by (try simp only []); omega)) | (apply OQ.lssN; exact rfl; exact rfl)) rfl ?_ | refine JC.seq ?_ | refine JC.region ?_ | refine JC.block ?_ | refine JC.skip ?_ | refine JC.exit ?_ | refine JL.nil ?_ | refine JE.next ?_ | refine JE.blk_normal ?_ | refine JE.then_exit ?_ | refine JE.blk_hit ?_ | refine JE.blk_miss rfl ?_ | refine JE.then_ret ?_ | refine JE.blk_ret ?_ | refine JC.label ?_ | refine JL.gon rfl rfl ?_ | refine JL.gskip rfl rfl rfl rfl ?_)
        exact JE.again (ι := Nat × Nat × Nat) (i := (i, b9, cap9)) (i + 1, b9', cap9') (by dsimp only; omega) (by dsimp only; omega) (by repeat (first | exact SubE.nil | refine SubE.cons _ _ _ rfl ?_)) (Less.refl _)
    · have hi' : i = c := by omega
      subst hi'
      rw [← hav]
      have hm : min (64 * (q + 1)) s.l.length = 64 * q + i := by omega
      by_cases h1 : 64 * q + i < 64 * q + 64
      · have h2 : ¬ 64 * q + i < s.l.length := by omega
        repeat (first | refine JL.q (by first | (apply OQ.lssN_t; exact rfl; exact rfl; exact h1) | (apply OQ.lssN_f; exact rfl; exact rfl; exact h2) | (apply OQ.pick_t; exact rfl; exact rfl) | (apply OQ.move; exact rfl) | (apply OQ.assign; exact rfl) | (apply OQ.len; exact rfl; exact rfl) | (apply OQ.add32; exact rfl; exact rfl) | (apply OQ.xor8; exact rfl; exact rfl) | (apply OQ.addN; exact rfl; exact rfl; exact (by (try simp only []); omega)) | (apply OQ.subN; exact rfl; exact rfl; exact (by (try simp only []); omega); exact (by (try simp only []); omega)) | (apply OQ.quoN; exact rfl; exact rfl; exact (by (try simp only []); omega); exact (by (try simp only []); omega)) | (apply OQ.lssN; exact rfl; exact rfl)) rfl ?_ | refine JC.seq ?_ | refine JC.region ?_ | refine JC.block ?_ | refine JC.skip ?_ | refine JC.exit ?_ | refine JL.nil ?_ | refine JE.next ?_ | refine JE.blk_normal ?_ | refine JE.then_exit ?_ | refine JE.blk_hit ?_ | refine JE.blk_miss rfl ?_ | refine JE.then_ret ?_ | refine JE.blk_ret ?_ | refine JC.label ?_ | refine JL.gon rfl rfl ?_ | refine JL.gskip rfl rfl rfl rfl ?_)
        refine JC.cond_false rfl rfl ?_
        repeat (first | refine JL.q (by first | (apply OQ.move; exact rfl) | (apply OQ.assign; exact rfl) | (apply OQ.len; exact rfl; exact rfl) | (apply OQ.add32; exact rfl; exact rfl) | (apply OQ.xor8; exact rfl; exact rfl) | (apply OQ.addN; exact rfl; exact rfl; exact (by (try simp only []); omega)) | (apply OQ.subN; exact rfl; exact rfl; exact (by (try simp only []); omega); exact (by (try simp only []); omega)) | (apply OQ.quoN; exact rfl; exact rfl; exact (by (try simp only []); omega); exact (by (try simp only []); omega)) | (apply OQ.lssN; exact rfl; exact rfl)) rfl ?_ | refine JC.seq ?_ | refine JC.region ?_ | refine JC.block ?_ | refine JC.skip ?_ | refine JC.exit ?_ | refine JL.nil ?_ | refine JE.next ?_ | refine JE.blk_normal ?_ | refine JE.then_exit ?_ | refine JE.blk_hit ?_ | refine JE.blk_miss rfl ?_ | refine JE.then_ret ?_ | refine JE.blk_ret ?_ | refine JC.label ?_ | refine JL.gon rfl rfl ?_ | refine JL.gskip rfl rfl rfl rfl ?_)
        rw [show 64 * q + 64 = 64 * (q + 1) by omega]
        refine JE.again (ι := Nat × Nat × Nat) (i := (q, b9, cap9)) (q + 1, b9, cap9) (by dsimp only; omega) (by dsimp only; omega) ?_ (.drop _ _ _ (by dsimp only; rw [hm]; exact Less.refl _))
        dsimp only
        rw [hm]
        exact (by repeat (first | exact SubE.nil | refine SubE.cons _ _ _ rfl ?_))
      · repeat (first | refine JL.q (by first | (apply OQ.lssN_f; exact rfl; exact rfl; exact h1) | (apply OQ.pick_f; exact rfl; exact rfl) | (apply OQ.move; exact rfl) | (apply OQ.assign; exact rfl) | (apply OQ.len; exact rfl; exact rfl) | (apply OQ.add32; exact rfl; exact rfl) | (apply OQ.xor8; exact rfl; exact rfl) | (apply OQ.addN; exact rfl; exact rfl; exact (by (try simp only []); omega)) | (apply OQ.subN; exact rfl; exact rfl; exact (by (try simp only []); omega); exact (by (try simp only []); omega)) | (apply OQ.quoN; exact rfl; exact rfl; exact (by (try simp only []); omega); exact (by (try simp only []); omega)) | (apply OQ.lssN; exact rfl; exact rfl)) rfl ?_ | refine JC.seq ?_ | refine JC.region ?_ | refine JC.block ?_ | refine JC.skip ?_ | refine JC.exit ?_ | refine JL.nil ?_ | refine JE.next ?_ | refine JE.blk_normal ?_ | refine JE.then_exit ?_ | refine JE.blk_hit ?_ | refine JE.blk_miss rfl ?_ | refine JE.then_ret ?_ | refine JE.blk_ret ?_ | refine JC.label ?_ | refine JL.gon rfl rfl ?_ | refine JL.gskip rfl rfl rfl rfl ?_)
        refine JC.cond_false rfl rfl ?_
        repeat (first | refine JL.q (by first | (apply OQ.move; exact rfl) | (apply OQ.assign; exact rfl) | (apply OQ.len; exact rfl; exact rfl) | (apply OQ.add32; exact rfl; exact rfl) | (apply OQ.xor8; exact rfl; exact rfl) | (apply OQ.addN; exact rfl; exact rfl; exact (by (try simp only []); omega)) | (apply OQ.subN; exact rfl; exact rfl; exact (by (try simp only []); omega); exact (by (try simp only []); omega)) | (apply OQ.quoN; exact rfl; exact rfl; exact (by (try simp only []); omega); exact (by (try simp only []); omega)) | (apply OQ.lssN; exact rfl; exact rfl)) rfl ?_ | refine JC.seq ?_ | refine JC.region ?_ | refine JC.block ?_ | refine JC.skip ?_ | refine JC.exit ?_ | refine JL.nil ?_ | refine JE.next ?_ | refine JE.blk_normal ?_ | refine JE.then_exit ?_ | refine JE.blk_hit ?_ | refine JE.blk_miss rfl ?_ | refine JE.then_ret ?_ | refine JE.blk_ret ?_ | refine JC.label ?_ | refine JL.gon rfl rfl ?_ | refine JL.gskip rfl rfl rfl rfl ?_)
        rw [show 64 * q + 64 = 64 * (q + 1) by omega]
        refine JE.again (ι := Nat × Nat × Nat) (i := (q, b9, cap9)) (q + 1, b9, cap9) (by dsimp only; omega) (by dsimp only; omega) ?_ (.drop _ _ _ (by dsimp only; rw [hm]; exact Less.refl _))
        dsimp only
        rw [hm]
        exact (by repeat (first | exact SubE.nil | refine SubE.cons _ _ _ rfl ?_))
  · have hq' : ¬ 64 * q < s.l.length := of_decide_eq_false h
    clear h
    rw [Nat.min_eq_right (by omega), List.take_length]
    repeat (first | refine JL.q (by first | (apply OQ.move; exact rfl) | (apply OQ.assign; exact rfl) | (apply OQ.len; exact rfl; exact rfl) | (apply OQ.add32; exact rfl; exact rfl) | (apply OQ.xor8; exact rfl; exact rfl) | (apply OQ.addN; exact rfl; exact rfl; exact (by (try simp only []); omega)) | (apply OQ.subN; exact rfl; exact rfl; exact (by (try simp only []); omega); exact (by (try simp only []); omega)) | (apply OQ.quoN; exact rfl; exact rfl; exact (by (try simp only []); omega); exact (by (try simp only []); omega)) | (apply OQ.lssN; exact rfl; exact rfl)) rfl ?_ | refine JC.seq ?_ | refine JC.region ?_ | refine JC.block ?_ | refine JC.skip ?_ | refine JC.exit ?_ | refine JL.nil ?_ | refine JE.next ?_ | refine JE.blk_normal ?_ | refine JE.then_exit ?_ | refine JE.blk_hit ?_ | refine JE.blk_miss rfl ?_ | refine JE.then_ret ?_ | refine JE.blk_ret ?_ | refine JC.label ?_ | refine JL.gon rfl rfl ?_ | refine JL.gskip rfl rfl rfl rfl ?_)
    refine JC.ret ?_
    repeat (first | refine JL.q (by first | (apply OQ.move; exact rfl) | (apply OQ.assign; exact rfl) | (apply OQ.len; exact rfl; exact rfl) | (apply OQ.add32; exact rfl; exact rfl) | (apply OQ.xor8; exact rfl; exact rfl) | (apply OQ.addN; exact rfl; exact rfl; exact (by (try simp only []); omega)) | (apply OQ.subN; exact rfl; exact rfl; exact (by (try simp only []); omega); exact (by (try simp only []); omega)) | (apply OQ.quoN; exact rfl; exact rfl; exact (by (try simp only []); omega); exact (by (try simp only []); omega)) | (apply OQ.lssN; exact rfl; exact rfl)) rfl ?_ | refine JC.seq ?_ | refine JC.region ?_ | refine JC.block ?_ | refine JC.skip ?_ | refine JC.exit ?_ | refine JL.nil ?_ | refine JE.next ?_ | refine JE.blk_normal ?_ | refine JE.then_exit ?_ | refine JE.blk_hit ?_ | refine JE.blk_miss rfl ?_ | refine JE.then_ret ?_ | refine JE.blk_ret ?_ | refine JC.label ?_ | refine JL.gon rfl rfl ?_ | refine JL.gskip rfl rfl rfl rfl ?_)
    exact JE.ret1 rfl (RV.tmp rfl) fun w' hw => ⟨(b9, cap9), rfl, hw.weak (.keep _ _ _ _ _ _ (fun _ h => h) (Less.nil _))⟩
end Go.Proofs.YtheemnpfnefbmaaDoor
