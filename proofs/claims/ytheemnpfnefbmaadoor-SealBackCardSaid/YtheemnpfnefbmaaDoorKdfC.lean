/-
  Of no statement by itself: what kdf.Expand gives.
  Conditions: each theorem's own.
-/
import Derived.Test.YtheemnpfnefbmaaDoorKdfA
namespace Go.Proofs.YtheemnpfnefbmaaDoor
open Sl Sha



/-- the last key of i rounds, and all of them -/
def tk (key info : List B) : Nat → List B
  | 0 => []
  | i + 1 => hmac key (tk key info i ++ info ++ [BitVec.ofNat 8 (i + 1)])
def mk (key info : List B) : Nat → List B
  | 0 => []
  | i + 1 => mk key info i ++ tk key info (i + 1)
theorem hmac_length (k b : List B) : (hmac k b).length = 32 := rfl
theorem tk_length (key info : List B) (i : Nat) : (tk key info (i + 1)).length = 32 := rfl
theorem mk_length (key info : List B) : ∀ i, (mk key info i).length = 32 * i
  | 0 => rfl
  | i + 1 => by rw [mk, List.length_append, mk_length key info i, tk_length]; omega
def expd (key info : List B) (m : Nat) : List B := (mk key info ((m + 31) / 32)).take m
theorem expd_length (key info : List B) (m : Nat) : (expd key info m).length = m := by
  rw [expd, List.length_take, mk_length]
  omega
theorem goes_expand : Goes Tryd.prog 45 := ⟨_, Tryd.func45, rfl, by kernel_rfl⟩

set_option maxHeartbeats 8000000 in
theorem expand_bad (key : List B) (info : Sl8) (m : Int) (hm : m < 0 ∨ 8160 < m) (w : World) :
    Calls Tryd.prog 45 [.agg (key.map U8).toArray, info.v, .int .i64 m].toArray w fun e w' => e = .returned (.tuple #[.slice none 0 0, N 2]) ∧ Ext w w' := by
  refine enter (n := 40) Tryd.func45 rfl rfl rfl (Holds.start w []) ?_
  repeat (first | refine JL.q (by first | (apply OQ.move; exact rfl) | (apply OQ.assign; exact rfl) | (apply OQ.len; exact rfl; exact rfl) | (apply OQ.addN; exact rfl; exact rfl; exact (by (try simp only []); omega)) | (apply OQ.lssN; exact rfl; exact rfl) | (apply OQ.gtrN; exact rfl; exact rfl) | (apply OQ.convN_8; exact rfl; exact rfl; exact rfl)) rfl ?_ | refine JC.seq ?_ | refine JC.region ?_ | refine JC.block ?_ | refine JC.skip ?_ | refine JC.exit ?_ | refine JL.nil ?_ | refine JE.next ?_ | refine JE.blk_normal ?_ | refine JE.then_exit ?_ | refine JE.blk_hit ?_ | refine JE.blk_miss rfl ?_ | refine JE.then_ret ?_ | refine JE.blk_ret ?_ | refine JC.label ?_ | refine JL.gon rfl rfl ?_ | refine JL.gskip rfl rfl rfl rfl ?_)
  refine JL.box (r := key.map U8) rfl rfl rfl fun b3 _ => ?_
  by_cases h1 : m < 0
  · repeat (first | refine JL.q (by first | (apply OQ.lssI_t; exact rfl; exact rfl; exact h1) | (apply OQ.pick_t; exact rfl; exact rfl) | (apply OQ.move; exact rfl) | (apply OQ.assign; exact rfl) | (apply OQ.len; exact rfl; exact rfl) | (apply OQ.addN; exact rfl; exact rfl; exact (by (try simp only []); omega)) | (apply OQ.lssN; exact rfl; exact rfl) | (apply OQ.gtrN; exact rfl; exact rfl) | (apply OQ.convN_8; exact rfl; exact rfl; exact rfl)) rfl ?_ | refine JC.seq ?_ | refine JC.region ?_ | refine JC.block ?_ | refine JC.skip ?_ | refine JC.exit ?_ | refine JL.nil ?_ | refine JE.next ?_ | refine JE.blk_normal ?_ | refine JE.then_exit ?_ | refine JE.blk_hit ?_ | refine JE.blk_miss rfl ?_ | refine JE.then_ret ?_ | refine JE.blk_ret ?_ | refine JC.label ?_ | refine JL.gon rfl rfl ?_ | refine JL.gskip rfl rfl rfl rfl ?_)
    refine JC.cond_true rfl rfl ?_
    repeat (first | refine JL.q (by first | (apply OQ.move; exact rfl) | (apply OQ.assign; exact rfl) | (apply OQ.len; exact rfl; exact rfl) | (apply OQ.addN; exact rfl; exact rfl; exact (by (try simp only []); omega)) | (apply OQ.lssN; exact rfl; exact rfl) | (apply OQ.gtrN; exact rfl; exact rfl) | (apply OQ.convN_8; exact rfl; exact rfl; exact rfl)) rfl ?_ | refine JC.seq ?_ | refine JC.region ?_ | refine JC.block ?_ | refine JC.skip ?_ | refine JC.exit ?_ | refine JL.nil ?_ | refine JE.next ?_ | refine JE.blk_normal ?_ | refine JE.then_exit ?_ | refine JE.blk_hit ?_ | refine JE.blk_miss rfl ?_ | refine JE.then_ret ?_ | refine JE.blk_ret ?_ | refine JC.label ?_ | refine JL.gon rfl rfl ?_ | refine JL.gskip rfl rfl rfl rfl ?_)
    refine JC.ret ?_
    repeat (first | refine JL.q (by first | (apply OQ.move; exact rfl) | (apply OQ.assign; exact rfl) | (apply OQ.len; exact rfl; exact rfl) | (apply OQ.addN; exact rfl; exact rfl; exact (by (try simp only []); omega)) | (apply OQ.lssN; exact rfl; exact rfl) | (apply OQ.gtrN; exact rfl; exact rfl) | (apply OQ.convN_8; exact rfl; exact rfl; exact rfl)) rfl ?_ | refine JC.seq ?_ | refine JC.region ?_ | refine JC.block ?_ | refine JC.skip ?_ | refine JC.exit ?_ | refine JL.nil ?_ | refine JE.next ?_ | refine JE.blk_normal ?_ | refine JE.then_exit ?_ | refine JE.blk_hit ?_ | refine JE.blk_miss rfl ?_ | refine JE.then_ret ?_ | refine JE.blk_ret ?_ | refine JC.label ?_ | refine JL.gon rfl rfl ?_ | refine JL.gskip rfl rfl rfl rfl ?_)
    exact JE.ret2 rfl (RV.tmp rfl) (RV.tmp rfl) fun w' hw => ⟨rfl, hw.chg⟩
  · have h2 : 8160 < m := by omega
    repeat (first | refine JL.q (by first | (apply OQ.lssI_f; exact rfl; exact rfl; exact h1) | (apply OQ.gtrI_t; exact rfl; exact rfl; exact h2) | (apply OQ.pick_f; exact rfl; exact rfl) | (apply OQ.move; exact rfl) | (apply OQ.assign; exact rfl) | (apply OQ.len; exact rfl; exact rfl) | (apply OQ.addN; exact rfl; exact rfl; exact (by (try simp only []); omega)) | (apply OQ.lssN; exact rfl; exact rfl) | (apply OQ.gtrN; exact rfl; exact rfl) | (apply OQ.convN_8; exact rfl; exact rfl; exact rfl)) rfl ?_ | refine JC.seq ?_ | refine JC.region ?_ | refine JC.block ?_ | refine JC.skip ?_ | refine JC.exit ?_ | refine JL.nil ?_ | refine JE.next ?_ | refine JE.blk_normal ?_ | refine JE.then_exit ?_ | refine JE.blk_hit ?_ | refine JE.blk_miss rfl ?_ | refine JE.then_ret ?_ | refine JE.blk_ret ?_ | refine JC.label ?_ | refine JL.gon rfl rfl ?_ | refine JL.gskip rfl rfl rfl rfl ?_)
    refine JC.cond_true rfl rfl ?_
    repeat (first | refine JL.q (by first | (apply OQ.move; exact rfl) | (apply OQ.assign; exact rfl) | (apply OQ.len; exact rfl; exact rfl) | (apply OQ.addN; exact rfl; exact rfl; exact (by (try simp only []); omega)) | (apply OQ.lssN; exact rfl; exact rfl) | (apply OQ.gtrN; exact rfl; exact rfl) | (apply OQ.convN_8; exact rfl; exact rfl; exact rfl)) rfl ?_ | refine JC.seq ?_ | refine JC.region ?_ | refine JC.block ?_ | refine JC.skip ?_ | refine JC.exit ?_ | refine JL.nil ?_ | refine JE.next ?_ | refine JE.blk_normal ?_ | refine JE.then_exit ?_ | refine JE.blk_hit ?_ | refine JE.blk_miss rfl ?_ | refine JE.then_ret ?_ | refine JE.blk_ret ?_ | refine JC.label ?_ | refine JL.gon rfl rfl ?_ | refine JL.gskip rfl rfl rfl rfl ?_)
    refine JC.ret ?_
    repeat (first | refine JL.q (by first | (apply OQ.move; exact rfl) | (apply OQ.assign; exact rfl) | (apply OQ.len; exact rfl; exact rfl) | (apply OQ.addN; exact rfl; exact rfl; exact (by (try simp only []); omega)) | (apply OQ.lssN; exact rfl; exact rfl) | (apply OQ.gtrN; exact rfl; exact rfl) | (apply OQ.convN_8; exact rfl; exact rfl; exact rfl)) rfl ?_ | refine JC.seq ?_ | refine JC.region ?_ | refine JC.block ?_ | refine JC.skip ?_ | refine JC.exit ?_ | refine JL.nil ?_ | refine JE.next ?_ | refine JE.blk_normal ?_ | refine JE.then_exit ?_ | refine JE.blk_hit ?_ | refine JE.blk_miss rfl ?_ | refine JE.then_ret ?_ | refine JE.blk_ret ?_ | refine JC.label ?_ | refine JL.gon rfl rfl ?_ | refine JL.gskip rfl rfl rfl rfl ?_)
    exact JE.ret2 rfl (RV.tmp rfl) (RV.tmp rfl) fun w' hw => ⟨rfl, hw.chg⟩

def mv (i b cap : Nat) : Value := match i with | 0 => .slice none 0 0 | i + 1 => .slice (some ⟨b, 0, none⟩) (32 * (i + 1)) cap
def lv (i b : Nat) : Value := match i with | 0 => .slice none 0 0 | _ + 1 => .slice (some ⟨b, 0, none⟩) 32 32
def ments (key info : List B) (i b8 cap8 b11 : Nat) : List Ent := match i with
  | 0 => []
  | i + 1 => [⟨b8, Own 5 1 (32 * (i + 1)) cap8 ((mk key info (i + 1)).map U8), true⟩, ⟨b11, Row 23 ((tk key info (i + 1)).map U8), true⟩]

theorem three_ok {key : List B} (hk : key.length = 32) {info last : Sl8} {w' : World} {b3 b29 b30 : Nat} {u : B} (h1 : ∃ o, w'.heap[b3]? = some o ∧ Row 23 (key.map U8) o) (hi : info.ok w') (hl : last.ok w') (hil : info.l.length < 4611686018427380000) (hll : last.l.length ≤ 32)
    (h3 : ∃ o, w'.heap[b29]? = some o ∧ Row 5 [U8 u] o) (h4 : ∃ o, w'.heap[b30]? = some o ∧ Row 33 [last.v, info.v, .slice (some ⟨b29, 0, none⟩) 1 1] o) (hG : GOk w') :
    Calls Tryd.prog 34 [.slice (some ⟨b3, 0, none⟩) 32 32, .slice (some ⟨b30, 0, none⟩) 3 3].toArray w' fun e w'' => e = .returned (.agg ((hmac key (last.l ++ info.l ++ [u])).map U8).toArray) ∧ Ext w' w'' := by
  obtain ⟨o1, ho1, hA1⟩ := h1
  obtain ⟨o3, ho3, hA3⟩ := h3
  obtain ⟨o4, ho4, hA4⟩ := h4
  have h5 : Sl8.ok w' ⟨some ⟨b29, 0, none⟩, 1, [u]⟩ := ⟨by simp, Reads.block ho3 (Row.all _ hA3)⟩
  have := hmac_any ⟨some ⟨b3, 0, none⟩, 32, key⟩ (some ⟨b30, 0, none⟩) 3 [last, info, ⟨some ⟨b29, 0, none⟩, 1, [u]⟩] w' hG ⟨Nat.le_of_eq hk, Reads.block ho1 (Row.all _ hA1)⟩ (Reads.block ho4 (Row.all _ hA4)) (fun p hp => by
    simp only [List.mem_cons, List.not_mem_nil, or_false] at hp
    rcases hp with rfl | rfl | rfl
    · exact hl
    · exact hi
    · exact h5) (show key.length < 4611686018427387904 by omega) (by simp) (by simp [total]; omega)
  simpa [Sl8.v, hk] using this

set_option maxHeartbeats 16000000 in
theorem expand_any (key : List B) (hk : key.length = 32) (info : Sl8) (m : Nat) (hm : m ≤ 8160) (w : World) (hG : GOk w) (hi : info.ok w) (hil : info.l.length < 4611686018427380000) :
    Calls Tryd.prog 45 [.agg (key.map U8).toArray, info.v, N m].toArray w fun e w' => ∃ s : Sl8, e = .returned (.tuple #[s.v, N 0]) ∧ Gave s (expd key info.l m) m ∧ Holds w [] s.ents w' := by
  refine enter (n := 40) Tryd.func45 rfl rfl rfl (Holds.start w []) ?_
  repeat (first | refine JL.q (by first | (apply OQ.move; exact rfl) | (apply OQ.assign; exact rfl) | (apply OQ.len; exact rfl; exact rfl) | (apply OQ.addN; exact rfl; exact rfl; exact (by (try simp only []); omega)) | (apply OQ.lssN; exact rfl; exact rfl) | (apply OQ.gtrN; exact rfl; exact rfl) | (apply OQ.convN_8; exact rfl; exact rfl; exact rfl)) rfl ?_ | refine JC.seq ?_ | refine JC.region ?_ | refine JC.block ?_ | refine JC.skip ?_ | refine JC.exit ?_ | refine JL.nil ?_ | refine JE.next ?_ | refine JE.blk_normal ?_ | refine JE.then_exit ?_ | refine JE.blk_hit ?_ | refine JE.blk_miss rfl ?_ | refine JE.then_ret ?_ | refine JE.blk_ret ?_ | refine JC.label ?_ | refine JL.gon rfl rfl ?_ | refine JL.gskip rfl rfl rfl rfl ?_)
  refine JL.box (r := key.map U8) rfl rfl rfl fun b3 _ => ?_
  repeat (first | refine JL.q (by first | (apply OQ.lssI_f; exact rfl; exact rfl; exact (show ¬ ((m : Int) < 0) by omega)) | (apply OQ.gtrI_f; exact rfl; exact rfl; exact (show ¬ ((8160 : Int) < (m : Int)) by omega)) | (apply OQ.pick_f; exact rfl; exact rfl) | (apply OQ.move; exact rfl) | (apply OQ.assign; exact rfl) | (apply OQ.len; exact rfl; exact rfl) | (apply OQ.addN; exact rfl; exact rfl; exact (by (try simp only []); omega)) | (apply OQ.lssN; exact rfl; exact rfl) | (apply OQ.gtrN; exact rfl; exact rfl) | (apply OQ.convN_8; exact rfl; exact rfl; exact rfl)) rfl ?_ | refine JC.seq ?_ | refine JC.region ?_ | refine JC.block ?_ | refine JC.skip ?_ | refine JC.exit ?_ | refine JL.nil ?_ | refine JE.next ?_ | refine JE.blk_normal ?_ | refine JE.then_exit ?_ | refine JE.blk_hit ?_ | refine JE.blk_miss rfl ?_ | refine JE.then_ret ?_ | refine JE.blk_ret ?_ | refine JC.label ?_ | refine JL.gon rfl rfl ?_ | refine JL.gskip rfl rfl rfl rfl ?_)
  refine JC.cond_false rfl rfl ?_
  repeat (first | refine JL.q (by first | (apply OQ.move; exact rfl) | (apply OQ.assign; exact rfl) | (apply OQ.len; exact rfl; exact rfl) | (apply OQ.addN; exact rfl; exact rfl; exact (by (try simp only []); omega)) | (apply OQ.lssN; exact rfl; exact rfl) | (apply OQ.gtrN; exact rfl; exact rfl) | (apply OQ.convN_8; exact rfl; exact rfl; exact rfl)) rfl ?_ | refine JC.seq ?_ | refine JC.region ?_ | refine JC.block ?_ | refine JC.skip ?_ | refine JC.exit ?_ | refine JL.nil ?_ | refine JE.next ?_ | refine JE.blk_normal ?_ | refine JE.then_exit ?_ | refine JE.blk_hit ?_ | refine JE.blk_miss rfl ?_ | refine JE.then_ret ?_ | refine JE.blk_ret ?_ | refine JC.label ?_ | refine JL.gon rfl rfl ?_ | refine JL.gskip rfl rfl rfl rfl ?_)
  refine JC.loop (ι := Nat × Nat × Nat × Nat) (fun i => [(1, info.v), (2, N m), (3, Pt b3 0), (8, mv i.1 i.2.1 i.2.2.1), (9, lv i.1 i.2.2.2), (10, N (i.1 + 1))])
    (fun i => ments key info.l i.1 i.2.1 i.2.2.1 i.2.2.2 ++ [⟨b3, Row 23 (key.map U8), true⟩]) (fun i => 300 - i.1) (fun i => 32 * i.1 < m + 32) (0, 0, 0, 0) (by dsimp only; omega) (by repeat (first | exact SubE.nil | refine SubE.cons _ _ _ rfl ?_)) (Less.refl _) ?_
  rintro ⟨i, b8, cap8, b11⟩ hI
  dsimp only at hI ⊢
  rcases i with _ | i
  · show JC _ _ _ _ _ _ [(1, info.v), (2, N m), (3, Pt b3 0), (8, .slice none 0 0), (9, Sl8.v ⟨none, 0, []⟩), (10, N 1)] [⟨b3, Row 23 (key.map U8), true⟩]
    repeat (first | refine JL.q (by first | (apply OQ.move; exact rfl) | (apply OQ.assign; exact rfl) | (apply OQ.len; exact rfl; exact rfl) | (apply OQ.addN; exact rfl; exact rfl; exact (by (try simp only []); omega)) | (apply OQ.lssN; exact rfl; exact rfl) | (apply OQ.gtrN; exact rfl; exact rfl) | (apply OQ.convN_8; exact rfl; exact rfl; exact rfl)) rfl ?_ | refine JC.seq ?_ | refine JC.region ?_ | refine JC.block ?_ | refine JC.skip ?_ | refine JC.exit ?_ | refine JL.nil ?_ | refine JE.next ?_ | refine JE.blk_normal ?_ | refine JE.then_exit ?_ | refine JE.blk_hit ?_ | refine JE.blk_miss rfl ?_ | refine JE.then_ret ?_ | refine JE.blk_ret ?_ | refine JC.label ?_ | refine JL.gon rfl rfl ?_ | refine JL.gskip rfl rfl rfl rfl ?_)
    refine JC.cond rfl (fun h => ?_) (fun h => ?_)
    · have h : 0 < m := of_decide_eq_true h
      repeat (first | refine JL.q (by first | (apply OQ.slA; exact Tryd.underlying23; exact s5; exact rfl) | (apply OQ.move; exact rfl) | (apply OQ.assign; exact rfl) | (apply OQ.len; exact rfl; exact rfl) | (apply OQ.addN; exact rfl; exact rfl; exact (by (try simp only []); omega)) | (apply OQ.lssN; exact rfl; exact rfl) | (apply OQ.gtrN; exact rfl; exact rfl) | (apply OQ.convN_8; exact rfl; exact rfl; exact rfl)) rfl ?_ | refine JC.seq ?_ | refine JC.region ?_ | refine JC.block ?_ | refine JC.skip ?_ | refine JC.exit ?_ | refine JL.nil ?_ | refine JE.next ?_ | refine JE.blk_normal ?_ | refine JE.then_exit ?_ | refine JE.blk_hit ?_ | refine JE.blk_miss rfl ?_ | refine JE.then_ret ?_ | refine JE.blk_ret ?_ | refine JC.label ?_ | refine JL.gon rfl rfl ?_ | refine JL.gskip rfl rfl rfl rfl ?_)
      refine JL.lit1 Tryd.underlying33 e5 rfl rfl rfl rfl fun b29 _ => ?_
      refine JL.lit3 Tryd.underlying73 e22 rfl rfl rfl rfl rfl rfl rfl rfl fun b30 _ => ?_
      have hT : ∀ w', Holds w [] [⟨b30, Row 33 [Sl8.v ⟨none, 0, []⟩, info.v, .slice (some ⟨b29, 0, none⟩) 1 1], true⟩, ⟨b29, Row 5 [U8 (BitVec.ofNat 8 1)], true⟩, ⟨b3, Row 23 (key.map U8), true⟩] w' →
          Calls Tryd.prog 34 [.slice (some ⟨b3, 0, none⟩) 32 32, .slice (some ⟨b30, 0, none⟩) 3 3].toArray w' fun e w'' => e = .returned (.agg ((tk key info.l 1).map U8).toArray) ∧ Ext w' w'' := fun w' hw' =>
        three_ok hk (last := ⟨none, 0, []⟩) (hw'.get (.there (.there .here))) (hi.holds hw' rfl) ⟨by simp, Reads.nil _ _⟩ hil (by simp) (hw'.get (.there .here)) (hw'.get .here) (hG.chg hw'.chg (by simp))
      repeat (first | refine JL.q (by first | (apply OQ.callx; exact goes_hmac; exact rfl; exact hT) | (apply OQ.move; exact rfl) | (apply OQ.assign; exact rfl) | (apply OQ.len; exact rfl; exact rfl) | (apply OQ.addN; exact rfl; exact rfl; exact (by (try simp only []); omega)) | (apply OQ.lssN; exact rfl; exact rfl) | (apply OQ.gtrN; exact rfl; exact rfl) | (apply OQ.convN_8; exact rfl; exact rfl; exact rfl)) rfl ?_ | refine JC.seq ?_ | refine JC.region ?_ | refine JC.block ?_ | refine JC.skip ?_ | refine JC.exit ?_ | refine JL.nil ?_ | refine JE.next ?_ | refine JE.blk_normal ?_ | refine JE.then_exit ?_ | refine JE.blk_hit ?_ | refine JE.blk_miss rfl ?_ | refine JE.then_ret ?_ | refine JE.blk_ret ?_ | refine JC.label ?_ | refine JL.gon rfl rfl ?_ | refine JL.gskip rfl rfl rfl rfl ?_)
      refine JL.alloc zc25 rfl fun b11 _ => ?_
      refine JL.store_all s25 rfl rfl (shal _) (all8 _) .here (by simp) ?_
      repeat (first | refine JL.q (by first | (apply OQ.slA; exact Tryd.underlying23; exact s5; exact rfl) | (apply OQ.move; exact rfl) | (apply OQ.assign; exact rfl) | (apply OQ.len; exact rfl; exact rfl) | (apply OQ.addN; exact rfl; exact rfl; exact (by (try simp only []); omega)) | (apply OQ.lssN; exact rfl; exact rfl) | (apply OQ.gtrN; exact rfl; exact rfl) | (apply OQ.convN_8; exact rfl; exact rfl; exact rfl)) rfl ?_ | refine JC.seq ?_ | refine JC.region ?_ | refine JC.block ?_ | refine JC.skip ?_ | refine JC.exit ?_ | refine JL.nil ?_ | refine JE.next ?_ | refine JE.blk_normal ?_ | refine JE.then_exit ?_ | refine JE.blk_hit ?_ | refine JE.blk_miss rfl ?_ | refine JE.then_ret ?_ | refine JE.blk_ret ?_ | refine JC.label ?_ | refine JL.gon rfl rfl ?_ | refine JL.gskip rfl rfl rfl rfl ?_)
      refine JL.append_nil (cs := (tk key info.l 1).map U8) Tryd.underlying33 e5 rfl rfl rfl (fun w' hw' => ?_) (by decide) rfl (by decide) (by decide) (by decide) rfl fun b8 cap8 _ => ?_
      · obtain ⟨o, ho, hA⟩ := hw'.get .here
        exact Reads.block ho (Row.all _ hA)
      repeat (first | refine JL.q (by first | (apply OQ.move; exact rfl) | (apply OQ.assign; exact rfl) | (apply OQ.len; exact rfl; exact rfl) | (apply OQ.addN; exact rfl; exact rfl; exact (by (try simp only []); omega)) | (apply OQ.lssN; exact rfl; exact rfl) | (apply OQ.gtrN; exact rfl; exact rfl) | (apply OQ.convN_8; exact rfl; exact rfl; exact rfl)) rfl ?_ | refine JC.seq ?_ | refine JC.region ?_ | refine JC.block ?_ | refine JC.skip ?_ | refine JC.exit ?_ | refine JL.nil ?_ | refine JE.next ?_ | refine JE.blk_normal ?_ | refine JE.then_exit ?_ | refine JE.blk_hit ?_ | refine JE.blk_miss rfl ?_ | refine JE.then_ret ?_ | refine JE.blk_ret ?_ | refine JC.label ?_ | refine JL.gon rfl rfl ?_ | refine JL.gskip rfl rfl rfl rfl ?_)
      refine JE.again (ι := Nat × Nat × Nat × Nat) (i := (0, 0, 0, 0)) (1, b8, cap8, b11) (by dsimp only; omega) (by dsimp only; omega) (by repeat (first | exact SubE.nil | refine SubE.cons _ _ _ rfl ?_)) (.keep _ _ _ _ _ _ (fun _ h => h) (.keep _ _ _ _ _ _ (fun _ h => h) (.drop _ _ _ (.drop _ _ _ (Less.refl _)))))
    · have h : m = 0 := by
        have : ¬ 0 < m := of_decide_eq_false h
        omega
      subst h
      repeat (first | refine JL.q (by first | (apply OQ.slS_hi3; exact Tryd.underlying33; exact s5; exact rfl; exact rfl; exact rfl; exact (Nat.le_refl _); exact (Nat.le_refl _)) | (apply OQ.move; exact rfl) | (apply OQ.assign; exact rfl) | (apply OQ.len; exact rfl; exact rfl) | (apply OQ.addN; exact rfl; exact rfl; exact (by (try simp only []); omega)) | (apply OQ.lssN; exact rfl; exact rfl) | (apply OQ.gtrN; exact rfl; exact rfl) | (apply OQ.convN_8; exact rfl; exact rfl; exact rfl)) rfl ?_ | refine JC.seq ?_ | refine JC.region ?_ | refine JC.block ?_ | refine JC.skip ?_ | refine JC.exit ?_ | refine JL.nil ?_ | refine JE.next ?_ | refine JE.blk_normal ?_ | refine JE.then_exit ?_ | refine JE.blk_hit ?_ | refine JE.blk_miss rfl ?_ | refine JE.then_ret ?_ | refine JE.blk_ret ?_ | refine JC.label ?_ | refine JL.gon rfl rfl ?_ | refine JL.gskip rfl rfl rfl rfl ?_)
      refine JC.ret ?_
      repeat (first | refine JL.q (by first | (apply OQ.move; exact rfl) | (apply OQ.assign; exact rfl) | (apply OQ.len; exact rfl; exact rfl) | (apply OQ.addN; exact rfl; exact rfl; exact (by (try simp only []); omega)) | (apply OQ.lssN; exact rfl; exact rfl) | (apply OQ.gtrN; exact rfl; exact rfl) | (apply OQ.convN_8; exact rfl; exact rfl; exact rfl)) rfl ?_ | refine JC.seq ?_ | refine JC.region ?_ | refine JC.block ?_ | refine JC.skip ?_ | refine JC.exit ?_ | refine JL.nil ?_ | refine JE.next ?_ | refine JE.blk_normal ?_ | refine JE.then_exit ?_ | refine JE.blk_hit ?_ | refine JE.blk_miss rfl ?_ | refine JE.then_ret ?_ | refine JE.blk_ret ?_ | refine JC.label ?_ | refine JL.gon rfl rfl ?_ | refine JL.gskip rfl rfl rfl rfl ?_)
      exact JE.ret2 rfl (RV.tmp rfl) (RV.tmp rfl) fun w' hw => ⟨⟨none, 0, []⟩, rfl, ⟨rfl, rfl, fun _ => rfl⟩, hw.weak (Less.nil _)⟩
  · show JC _ _ _ _ _ _ [(1, info.v), (2, N m), (3, Pt b3 0), (8, .slice (some ⟨b8, 0, none⟩) (32 * (i + 1)) cap8), (9, Sl8.v ⟨some ⟨b11, 0, none⟩, 32, tk key info.l (i + 1)⟩), (10, N (i + 1 + 1))]
      [⟨b8, Own 5 1 (32 * (i + 1)) cap8 ((mk key info.l (i + 1)).map U8), true⟩, ⟨b11, Row 23 ((tk key info.l (i + 1)).map U8), true⟩, ⟨b3, Row 23 (key.map U8), true⟩]
    repeat (first | refine JL.q (by first | (apply OQ.move; exact rfl) | (apply OQ.assign; exact rfl) | (apply OQ.len; exact rfl; exact rfl) | (apply OQ.addN; exact rfl; exact rfl; exact (by (try simp only []); omega)) | (apply OQ.lssN; exact rfl; exact rfl) | (apply OQ.gtrN; exact rfl; exact rfl) | (apply OQ.convN_8; exact rfl; exact rfl; exact rfl)) rfl ?_ | refine JC.seq ?_ | refine JC.region ?_ | refine JC.block ?_ | refine JC.skip ?_ | refine JC.exit ?_ | refine JL.nil ?_ | refine JE.next ?_ | refine JE.blk_normal ?_ | refine JE.then_exit ?_ | refine JE.blk_hit ?_ | refine JE.blk_miss rfl ?_ | refine JE.then_ret ?_ | refine JE.blk_ret ?_ | refine JC.label ?_ | refine JL.gon rfl rfl ?_ | refine JL.gskip rfl rfl rfl rfl ?_)
    refine JC.cond rfl (fun h => ?_) (fun h => ?_)
    · have h : 32 * (i + 1) < m := of_decide_eq_true h
      repeat (first | refine JL.q (by first | (apply OQ.slA; exact Tryd.underlying23; exact s5; exact rfl) | (apply OQ.move; exact rfl) | (apply OQ.assign; exact rfl) | (apply OQ.len; exact rfl; exact rfl) | (apply OQ.addN; exact rfl; exact rfl; exact (by (try simp only []); omega)) | (apply OQ.lssN; exact rfl; exact rfl) | (apply OQ.gtrN; exact rfl; exact rfl) | (apply OQ.convN_8; exact rfl; exact rfl; exact rfl)) rfl ?_ | refine JC.seq ?_ | refine JC.region ?_ | refine JC.block ?_ | refine JC.skip ?_ | refine JC.exit ?_ | refine JL.nil ?_ | refine JE.next ?_ | refine JE.blk_normal ?_ | refine JE.then_exit ?_ | refine JE.blk_hit ?_ | refine JE.blk_miss rfl ?_ | refine JE.then_ret ?_ | refine JE.blk_ret ?_ | refine JC.label ?_ | refine JL.gon rfl rfl ?_ | refine JL.gskip rfl rfl rfl rfl ?_)
      refine JL.lit1 Tryd.underlying33 e5 rfl rfl rfl rfl fun b29 _ => ?_
      refine JL.lit3 Tryd.underlying73 e22 rfl rfl rfl rfl rfl rfl rfl rfl fun b30 _ => ?_
      have hT : ∀ w', Holds w [] [⟨b30, Row 33 [Sl8.v ⟨some ⟨b11, 0, none⟩, 32, tk key info.l (i + 1)⟩, info.v, .slice (some ⟨b29, 0, none⟩) 1 1], true⟩, ⟨b29, Row 5 [U8 (BitVec.ofNat 8 (i + 1 + 1))], true⟩,
            ⟨b8, Own 5 1 (32 * (i + 1)) cap8 ((mk key info.l (i + 1)).map U8), true⟩, ⟨b11, Row 23 ((tk key info.l (i + 1)).map U8), true⟩, ⟨b3, Row 23 (key.map U8), true⟩] w' →
          Calls Tryd.prog 34 [.slice (some ⟨b3, 0, none⟩) 32 32, .slice (some ⟨b30, 0, none⟩) 3 3].toArray w' fun e w'' => e = .returned (.agg ((tk key info.l (i + 1 + 1)).map U8).toArray) ∧ Ext w' w'' := fun w' hw' =>
        three_ok hk (last := ⟨some ⟨b11, 0, none⟩, 32, tk key info.l (i + 1)⟩) (hw'.get (.there (.there (.there (.there .here))))) (hi.holds hw' rfl)
          (by obtain ⟨o, ho, hA⟩ := hw'.get (.there (.there (.there .here))); exact ⟨Nat.le_of_eq (tk_length _ _ _), Reads.block ho (Row.all _ hA)⟩) hil (Nat.le_of_eq (tk_length _ _ _)) (hw'.get (.there .here)) (hw'.get .here) (hG.chg hw'.chg (by simp))
      repeat (first | refine JL.q (by first | (apply OQ.callx; exact goes_hmac; exact rfl; exact hT) | (apply OQ.move; exact rfl) | (apply OQ.assign; exact rfl) | (apply OQ.len; exact rfl; exact rfl) | (apply OQ.addN; exact rfl; exact rfl; exact (by (try simp only []); omega)) | (apply OQ.lssN; exact rfl; exact rfl) | (apply OQ.gtrN; exact rfl; exact rfl) | (apply OQ.convN_8; exact rfl; exact rfl; exact rfl)) rfl ?_ | refine JC.seq ?_ | refine JC.region ?_ | refine JC.block ?_ | refine JC.skip ?_ | refine JC.exit ?_ | refine JL.nil ?_ | refine JE.next ?_ | refine JE.blk_normal ?_ | refine JE.then_exit ?_ | refine JE.blk_hit ?_ | refine JE.blk_miss rfl ?_ | refine JE.then_ret ?_ | refine JE.blk_ret ?_ | refine JC.label ?_ | refine JL.gon rfl rfl ?_ | refine JL.gskip rfl rfl rfl rfl ?_)
      refine JL.alloc zc25 rfl fun b11' _ => ?_
      refine JL.store_all s25 rfl rfl (shal _) (all8 _) .here (by simp) ?_
      repeat (first | refine JL.q (by first | (apply OQ.slA; exact Tryd.underlying23; exact s5; exact rfl) | (apply OQ.move; exact rfl) | (apply OQ.assign; exact rfl) | (apply OQ.len; exact rfl; exact rfl) | (apply OQ.addN; exact rfl; exact rfl; exact (by (try simp only []); omega)) | (apply OQ.lssN; exact rfl; exact rfl) | (apply OQ.gtrN; exact rfl; exact rfl) | (apply OQ.convN_8; exact rfl; exact rfl; exact rfl)) rfl ?_ | refine JC.seq ?_ | refine JC.region ?_ | refine JC.block ?_ | refine JC.skip ?_ | refine JC.exit ?_ | refine JL.nil ?_ | refine JE.next ?_ | refine JE.blk_normal ?_ | refine JE.then_exit ?_ | refine JE.blk_hit ?_ | refine JE.blk_miss rfl ?_ | refine JE.then_ret ?_ | refine JE.blk_ret ?_ | refine JC.label ?_ | refine JL.gon rfl rfl ?_ | refine JL.gskip rfl rfl rfl rfl ?_)
      refine JL.append (cs := (tk key info.l (i + 1 + 1)).map U8) (fun b' cap' => [⟨b11', Row 23 ((tk key info.l (i + 1 + 1)).map U8), true⟩, ⟨b30, Row 33 [Sl8.v ⟨some ⟨b11, 0, none⟩, 32, tk key info.l (i + 1)⟩, info.v, .slice (some ⟨b29, 0, none⟩) 1 1], true⟩, ⟨b29, Row 5 [U8 (BitVec.ofNat 8 (i + 1 + 1))], true⟩,
            ⟨b', Own 5 1 (32 * (i + 1) + 32) cap' ((mk key info.l (i + 1)).map U8 ++ (tk key info.l (i + 1 + 1)).map U8), true⟩, ⟨b11, Row 23 ((tk key info.l (i + 1)).map U8), true⟩, ⟨b3, Row 23 (key.map U8), true⟩]) Tryd.underlying33 e5 rfl rfl (by intro _ _; repeat (first | exact Repl.here | apply Repl.there)) rfl (fun w' hw' => ?_) (of_u8 _) rfl (by decide) (by omega) (by omega) rfl fun b8' cap8' => ?_
      · obtain ⟨o, ho, hA⟩ := hw'.get .here
        exact Reads.block ho (Row.all _ hA)
      rw [← List.map_append, show 32 * (i + 1) + 32 = 32 * (i + 1 + 1) by omega]
      repeat (first | refine JL.q (by first | (apply OQ.move; exact rfl) | (apply OQ.assign; exact rfl) | (apply OQ.len; exact rfl; exact rfl) | (apply OQ.addN; exact rfl; exact rfl; exact (by (try simp only []); omega)) | (apply OQ.lssN; exact rfl; exact rfl) | (apply OQ.gtrN; exact rfl; exact rfl) | (apply OQ.convN_8; exact rfl; exact rfl; exact rfl)) rfl ?_ | refine JC.seq ?_ | refine JC.region ?_ | refine JC.block ?_ | refine JC.skip ?_ | refine JC.exit ?_ | refine JL.nil ?_ | refine JE.next ?_ | refine JE.blk_normal ?_ | refine JE.then_exit ?_ | refine JE.blk_hit ?_ | refine JE.blk_miss rfl ?_ | refine JE.then_ret ?_ | refine JE.blk_ret ?_ | refine JC.label ?_ | refine JL.gon rfl rfl ?_ | refine JL.gskip rfl rfl rfl rfl ?_)
      refine JE.less (M' := [⟨b11', Row 23 ((tk key info.l (i + 1 + 1)).map U8), true⟩, ⟨b8', Own 5 1 (32 * (i + 1 + 1)) cap8' ((mk key info.l (i + 1) ++ tk key info.l (i + 1 + 1)).map U8), true⟩, ⟨b3, Row 23 (key.map U8), true⟩]) (.keep _ _ _ _ _ _ (fun _ h => h) (.drop _ _ _ (.drop _ _ _ (.keep _ _ _ _ _ _ (fun _ h => h) (.drop _ _ _ (Less.refl _)))))) (JE.swap ?_)
      exact JE.again (ι := Nat × Nat × Nat × Nat) (i := (i + 1, b8, cap8, b11)) (i + 1 + 1, b8', cap8', b11') (by dsimp only; omega) (by dsimp only; omega) (by repeat (first | exact SubE.nil | refine SubE.cons _ _ _ rfl ?_)) (Less.refl _)
    · have h : ¬ 32 * (i + 1) < m := of_decide_eq_false h
      refine JC.fact .here (fun o ho => (Own.has (m := m) o ho).2) fun hcap => ?_
      repeat (first | refine JL.q (by first | (apply OQ.slS_hi3; exact Tryd.underlying33; exact s5; exact rfl; exact rfl; exact rfl; exact (Nat.le_refl _); exact (by omega)) | (apply OQ.move; exact rfl) | (apply OQ.assign; exact rfl) | (apply OQ.len; exact rfl; exact rfl) | (apply OQ.addN; exact rfl; exact rfl; exact (by (try simp only []); omega)) | (apply OQ.lssN; exact rfl; exact rfl) | (apply OQ.gtrN; exact rfl; exact rfl) | (apply OQ.convN_8; exact rfl; exact rfl; exact rfl)) rfl ?_ | refine JC.seq ?_ | refine JC.region ?_ | refine JC.block ?_ | refine JC.skip ?_ | refine JC.exit ?_ | refine JL.nil ?_ | refine JE.next ?_ | refine JE.blk_normal ?_ | refine JE.then_exit ?_ | refine JE.blk_hit ?_ | refine JE.blk_miss rfl ?_ | refine JE.then_ret ?_ | refine JE.blk_ret ?_ | refine JC.label ?_ | refine JL.gon rfl rfl ?_ | refine JL.gskip rfl rfl rfl rfl ?_)
      refine JC.ret ?_
      repeat (first | refine JL.q (by first | (apply OQ.move; exact rfl) | (apply OQ.assign; exact rfl) | (apply OQ.len; exact rfl; exact rfl) | (apply OQ.addN; exact rfl; exact rfl; exact (by (try simp only []); omega)) | (apply OQ.lssN; exact rfl; exact rfl) | (apply OQ.gtrN; exact rfl; exact rfl) | (apply OQ.convN_8; exact rfl; exact rfl; exact rfl)) rfl ?_ | refine JC.seq ?_ | refine JC.region ?_ | refine JC.block ?_ | refine JC.skip ?_ | refine JC.exit ?_ | refine JL.nil ?_ | refine JE.next ?_ | refine JE.blk_normal ?_ | refine JE.then_exit ?_ | refine JE.blk_hit ?_ | refine JE.blk_miss rfl ?_ | refine JE.then_ret ?_ | refine JE.blk_ret ?_ | refine JC.label ?_ | refine JL.gon rfl rfl ?_ | refine JL.gskip rfl rfl rfl rfl ?_)
      refine JE.ret2 rfl (RV.tmp rfl) (RV.tmp rfl) fun w' hw => ⟨⟨some ⟨b8, 0, none⟩, m, expd key info.l m⟩, ?_, ⟨rfl, rfl, fun h => by cases h⟩, hw.weak (.keep _ _ _ _ _ _ (fun o ho => ?_) (Less.nil _))⟩
      · have h0 : ¬ m = 0 := by omega
        simp [Sl8.v, expd_length, h0, Addr.add]
      · have hmm : (m + 31) / 32 = i + 1 := by omega
        refine ⟨?_, Nat.le_of_eq (expd_length _ _ _), rfl⟩
        have := (Own.has (m := m) o ho).1
        show hasCells o 0 ((expd key info.l m).map U8)
        rw [expd, hmm]
        exact this
end Go.Proofs.YtheemnpfnefbmaaDoor
